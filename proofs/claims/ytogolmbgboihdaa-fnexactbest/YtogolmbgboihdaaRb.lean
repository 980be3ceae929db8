/- The order of jobs by a rule: the least that has not come, again and again; impl.Rank answers it. -/
import Derived.Test.YtogolmbgboihdaaZl
import Derived.Test.YtogolmbgboihdaaIn
import Derived.Test.YtogolmbgboihdaaTi
namespace Go.Proofs.Ytogolmbgboihdaa
open Go Go.ChangeShapes Go.WideShapes Go.ChangeAt Go.RowKit Srt
set_option linter.unusedVariables false
set_option linter.unusedSimpArgs false

theorem no_inj : ∀ (n : Nat) (p : Nat → Nat), (∀ i, i ≤ n → p i < n) → ¬ ∀ i j, i ≤ n → j ≤ n → p i = p j → i = j
  | 0, p, h, _ => by have := h 0 (Nat.le_refl _); omega
  | n + 1, p, h, hi => by
    have hv := h (n + 1) (Nat.le_refl _)
    have hne : ∀ i, i ≤ n → p i ≠ p (n + 1) := fun i hin e => by have := hi i (n + 1) (by omega) (Nat.le_refl _) e; omega
    refine no_inj n (fun i => if p i < p (n + 1) then p i else p i - 1) (fun i hin => ?_) (fun i j h1 h2 e => ?_)
    · have := h i (by omega); have := hne i hin
      split <;> omega
    · have a1 := hne i h1; have a2 := hne j h2
      have : p i = p j := by
        skip
        split at e <;> split at e <;> omega
      exact hi i j (by omega) (by omega) this
theorem inj_onto (n : Nat) (p : Nat → Nat) (h : ∀ i, i < n → p i < n) (hi : ∀ i j, i < n → j < n → p i = p j → i = j) (q : Nat) (hq : q < n) : ∃ i, i < n ∧ p i = q := by
  apply Classical.byContradiction
  intro hno
  have hne : ∀ i, i < n → p i ≠ q := fun i hin e => hno ⟨i, hin, e⟩
  refine no_inj (n - 1) (fun i => if p i < q then p i else p i - 1) (fun i hin => ?_) (fun i j h1 h2 e => ?_)
  · have := h i (by omega); have := hne i (by omega)
    split <;> omega
  · have a1 := hne i (by omega); have a2 := hne j (by omega)
    have : p i = p j := by
      skip
      split at e <;> split at e <;> omega
    exact hi i j (by omega) (by omega) this

/-- What comes at k: the least, by the rule and then by place, that has not come. -/
def IsNx (d : Nat → JB) (rule : Int) (n : Nat) (g : Nat → Int) (k : Nat) : Prop := (0 ≤ g k ∧ g k < (n : Int)) ∧ (∀ i, i < k → g i ≠ g k) ∧ ∀ x, 0 ≤ x → x < (n : Int) → (∀ i, i < k → g i ≠ x) → ¬ ltP d rule x (g k)
def RkG (d : Nat → JB) (rule : Int) (n : Nat) (g : Nat → Int) : Prop := ∀ k, k < n → IsNx d rule n g k
theorem rk_uniq {d : Nat → JB} {rule : Int} {n : Nat} {g h : Nat → Int} (hg : RkG d rule n g) (hh : RkG d rule n h) : ∀ k, k < n → g k = h k := by
  intro k
  induction k using Nat.strongRecOn with
  | _ k ih =>
    intro hk
    obtain ⟨a1, a2, a3⟩ := hg k hk
    obtain ⟨b1, b2, b3⟩ := hh k hk
    have c1 := a3 (h k) b1.1 b1.2 (fun i hi => by rw [ih i hi (by omega)]; exact b2 i hi)
    have c2 := b3 (g k) a1.1 a1.2 (fun i hi => by rw [← ih i hi (by omega)]; exact a2 i hi)
    rcases Classical.em (g k = h k) with q | q
    · exact q
    · exact absurd (ltP_total q c2) c1
def RkOk (d : Nat → JB) (rule : Int) (n : Nat) : Prop := (1 ≤ rule ∧ rule ≤ 4) ∧ ArG jbB 40 n d
open Classical in
noncomputable def rkM (d : Nat → JB) (rule : Int) (n : Nat) : Nat := if RkOk d rule n then n else 0
open Classical in
noncomputable def rkF (d : Nat → JB) (rule : Int) (n : Nat) : Nat → Int := if h : ∃ g, RkG d rule n g then Classical.choose h else fun _ => 0
open Classical in
theorem rkF_eq {d : Nat → JB} {rule : Int} {n : Nat} {g : Nat → Int} (hg : RkG d rule n g) : ∀ k, k < n → rkF d rule n k = g k := by
  have h : ∃ g, RkG d rule n g := ⟨g, hg⟩
  unfold rkF
  rw [dif_pos h]
  exact rk_uniq (Classical.choose_spec h) hg
theorem rkM_y {d : Nat → JB} {rule : Int} {n : Nat} (h : RkOk d rule n) : rkM d rule n = n := if_pos h
theorem rkM_n {d : Nat → JB} {rule : Int} {n : Nat} (h : ¬ RkOk d rule n) : rkM d rule n = 0 := if_neg h
theorem rk_of {d : Nat → JB} {rule : Int} {n : Nat} {g : Nat → Int} (hr : ∀ j, j < n → 0 ≤ g j ∧ g j < (n : Int)) (hp : PermOn 0 n (fun j => (j : Int)) g) (hs : SortedOn (ltP d rule) g 0 n) : RkG d rule n g := by
  obtain ⟨_, p, p1, p2⟩ := hp
  have irr : ∀ x, ¬ ltP d rule x x := fun x => by unfold ltP; omega
  intro k hk
  refine ⟨hr k hk, fun i hi e => ?_, fun x x0 x1 hx hl => ?_⟩
  · have := hs i k (Nat.zero_le _) hi hk
    rw [e] at this; exact irr _ this
  · obtain ⟨r, r1, r2⟩ := inj_onto n p (fun r hr => (p1 r (Nat.zero_le _) hr).2.1) (fun i j h1 h2 e => p2 i j (Nat.zero_le _) h1 (Nat.zero_le _) h2 e) x.toNat (by omega)
    have e : g r = x := by rw [(p1 r (Nat.zero_le _) r1).2.2, r2]; show ((x.toNat : Nat) : Int) = x; omega
    rcases Nat.lt_trichotomy r k with q | q | q
    · exact hx r q e
    · subst q; rw [e] at hl; exact irr _ hl
    · have := hs k r (Nat.zero_le _) q r1
      rw [e] at this
      exact irr _ (ltP_trans hl this)

theorem own_no {w : World} {lo : Nat} {ad : Option Addr} {d : Nat → JB} {rule : Int} {n : Nat} {F : Nat → Int} (h : ¬ RkOk d rule n) : OwnI w lo ad (rkM d rule n) F := .inl (rkM_n h)
set_option maxRecDepth 20000 in
set_option maxHeartbeats 8000000 in
theorem implRank_any (ja : Option Addr) (n jk : Nat) (d : Nat → JB) (rule : Int) (w : World) (hm : (n : Int) ≤ 1048576) (hl : ∀ j, j < n → ((d j).rn : Int) ≤ 1048576) (hJ : JBr w ja n d) :
    Calls Try.prog 23 #[.slice ja n jk, .int .i64 rule] w fun e w' => ∃ ad cap, e = .returned (.slice ad (rkM d rule n) cap) ∧ OwnI w' w.heap.size ad (rkM d rule n) (rkF d rule n) ∧ Below w.heap.size w w' := by
  have HJ0 : Hid (JBr w ja n d) := hJ
  have HN : Hid (∀ j, j < n → ((d j).rn : Int) ≤ 1048576) := hl
  clear hJ hl
  by_cases h1 : rule < 1
  · have HV := hid (rkM_n (d := d) (rule := rule) (n := n) fun H => by have := H.1; omega)
    have HO : Hid (∀ W a, OwnI W w.heap.size a 0 (rkF d rule n)) := hid fun W a => .inl rfl
    simp only [HV.out]
    go_enter Try.func23, Try.ntmps23
    go_wp2
    go_returns
    first | exact ⟨_, _, rfl, HO.out _ _, by go_grown⟩ | exact ⟨_, _, HO.out _ _, by go_grown⟩ | exact ⟨_, HO.out _ _, by go_grown⟩
  by_cases h2 : 4 < rule
  · have HV := hid (rkM_n (d := d) (rule := rule) (n := n) fun H => by have := H.1; omega)
    have HO : Hid (∀ W a, OwnI W w.heap.size a 0 (rkF d rule n)) := hid fun W a => .inl rfl
    simp only [HV.out]
    go_enter Try.func23, Try.ntmps23
    go_wp2
    go_returns
    exact ⟨_, ⟨_, rfl⟩, HO.out _ _, by go_grown⟩
  cases h3 : arG jbB 40 n d
  · have HV := hid (rkM_n (d := d) (rule := rule) (n := n) fun H => by rw [arG_t H.2] at h3; cases h3)
    have HO : Hid (∀ W a, OwnI W w.heap.size a 0 (rkF d rule n)) := hid fun W a => .inl rfl
    simp only [HV.out]
    have HA : Hid (arG jbB 40 n d = false) := h3
    clear h3
    go_enter Try.func23, Try.ntmps23
    go_wp2_with (go_at_call 61; refine (areJobs_eq ja n jk d _ _ hm HN.out HJ0.out HA.out).mono ?_; rintro e w1 ⟨rfl, b1⟩; have HB1 : Hid (Below w.heap.size w w1) := b1; clear b1)
    go_returns
    exact ⟨_, _, rfl, HO.out _ _, HB1.out.alloc HB1.out.size _⟩
  have HR : Hid (RkOk d rule n) := ⟨⟨by omega, by omega⟩, arG_p h3⟩
  have HV := hid (rkM_y HR.out)
  simp only [HV.out]
  have HA : Hid (arG jbB 40 n d = true) := h3
  have hn40 : (n : Int) ≤ 40 := by have := (arG_p h3).1; omega
  have hmk := mkI n hm
  clear h3
  go_enter Try.func23, Try.ntmps23
  go_wp2_with (go_at_call 61; refine (areJobs_eq ja n jk d _ _ hm HN.out HJ0.out HA.out).mono ?_; rintro e w1 ⟨rfl, b1⟩; have HB1 : Hid (Below w.heap.size w w1) := b1; clear b1)
  have hb0 : Below w.heap.size w (w1.alloc (.cells (zeros n) 3)) := bel_on HB1.out ((Below.refl _ _).alloc (Nat.le_refl _) _)
  have ht0 : TI (w1.alloc (.cells (zeros n) 3)) w1.heap.size n (fun j => if j < 0 then (j : Int) else 0) := (TI.made w1 n).congr fun j _ => by simp
  have hlo0 : w.heap.size ≤ w1.heap.size := HB1.out.size
  generalize w1.alloc (.cells (zeros n) 3) = W1 at hb0 ht0 ⊢
  generalize w1.heap.size = b at ht0 hlo0 ⊢
  have H0 : Hid (Below w.heap.size w W1 ∧ TI W1 b n (fun j => if j < 0 then (j : Int) else 0)) := ⟨hb0, ht0⟩
  clear hb0 ht0 hmk
  go_loopw [25] (fun i wr => ∃ k : Nat, k ≤ n ∧ i = .int .i64 (k : Int) ∧ Hid (Below w.heap.size w wr ∧ TI wr b n (fun j => if j < k then (j : Int) else 0))) (fun i _ => n - (intOf i).toNat)
  case atStart => exact ⟨0, Nat.zero_le _, rfl, H0⟩
  case round =>
    obtain ⟨k, hk, rfl, HH⟩ := hrel
    by_cases hlt : k < n
    · have hlt2 : (k : Int) < (n : Int) := by omega
      have n0 := HH.out.2.cell hlt
      have f0 := HH.out.2.fr k
      have HT : Hid (Below w.heap.size w (wr.setCell ⟨b, k, none⟩ (.int .i64 (k : Int))) ∧ TI (wr.setCell ⟨b, k, none⟩ (.int .i64 (k : Int))) b n (fun j => if j < k + 1 then (j : Int) else 0)) := ⟨HH.out.1.setCell hlo0 _, (HH.out.2.set hlt _).congr fun j _ => by
        by_cases e : j = k
        · subst e; simp
        · by_cases q : j < k
          · simp [e, q, show j < k + 1 by omega]
          · simp [e, q, show ¬ j < k + 1 by omega]⟩
      go_wp2
      go_roundw
      case rel => exact ⟨k + 1, by omega, by go_num, HT.out⟩
      case measure => simp [intOf]; omega
    · obtain rfl : k = n := by omega
      have lkk : ¬ (k : Int) < (k : Int) := by omega
      have HW : Hid (Below w.heap.size w (wr.alloc (.cells #[.slice ja k jk, .int .i64 rule] 97 (0, 0))) ∧ Srt.RP ja rule d (wr.alloc (.cells #[.slice ja k jk, .int .i64 rule] 97 (0, 0))) b k 3 (fun j => (j : Int))) := by
        have bb := bel_on HH.out.1 ((Below.refl _ _).alloc (Nat.le_refl _) (.cells #[.slice ja k jk, .int .i64 rule] 97 (0, 0)))
        obtain ⟨cs, t1, t2, t3⟩ := (HH.out.2.congr (f' := fun j => (j : Int)) fun j hj => by simp [hj]).below ((Below.refl _ _).alloc (Nat.le_refl _) (.cells #[.slice ja k jk, .int .i64 rule] 97 (0, 0)))
        exact ⟨bb, ⟨cs, t1, t2, t3⟩, fun j hj => ⟨by show (0 : Int) ≤ (j : Int); omega, by show (j : Int) < (k : Int); omega⟩, ⟨w, HJ0.out, hlo0, bb⟩, hn40, HR.out.2.2, HR.out.1⟩
      clear HH
      go_wp2_with (go_at_call 63; refine (sortByP_any b k k 3 (fun j => (j : Int)) _ hm HW.out.2 (fun i j _ h2 _ => by show (i : Int) < (j : Int); omega)).mono ?_; rintro e w2 ⟨rfl, hg⟩; have HG := hid hg; clear hg)
      go_returns
      obtain ⟨g, ⟨r1, r2, r3⟩, r4⟩ := HG.out
      have hg := rk_of r1.2.1 r2 r4.1
      obtain ⟨⟨cs, t1, t2, t3⟩, _⟩ := r1
      refine ⟨_, _, rfl, .inr ⟨b, cs, rfl, hlo0, t1, t2, fun j hj => by rw [rkF_eq hg j hj]; exact t3 j hj⟩, ?_⟩
      exact HW.out.1.trans (r3.below hlo0 HW.out.1.size)
end Go.Proofs.Ytogolmbgboihdaa
