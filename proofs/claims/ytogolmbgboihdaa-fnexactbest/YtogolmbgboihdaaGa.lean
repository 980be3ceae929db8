/- Lateness of the program and of the model: weights times how far the last ends lie behind, and the last end. -/
import Derived.Test.YtogolmbgboihdaaFe
import Derived.Test.YtogolmbgboihdaaSa
import Derived.Test.YtogolmbgboihdaaTi
import Derived.BigRegion
import Derived.BigQuiet
import Derived.Deep.QuietTactic
import Derived.Deep.RegionHeld3
import Derived.Deep.RegionHeldLaw
namespace Go.Proofs.Ytogolmbgboihdaa
open Go.ChangeShapes Go.WideShapes Go.ChangeAt Go.RowKit
set_option linter.unusedVariables false
set_option linter.unusedSimpArgs false

/-- The last end of job j among the first k slots. -/
def enF (s : Nat → SL5) : Nat → Nat → Int
  | 0, _ => 0
  | k + 1, j => if (s k).job = (j : Int) then max (enF s k j) (s k).fin else enF s k j
def laF (s : Nat → SL5) : Nat → Int
  | 0 => 0
  | k + 1 => max (laF s k) (s k).fin
def latF (d : Nat → JB) (e : Nat → Int) : Nat → Int
  | 0 => 0
  | i + 1 => latF d e i + (d i).wgt * max (e i - (d i).due) 0
def slB (m : Nat) (s : SL5) : Bool := inB s.job 0 ((m : Int) - 1) && inB s.fin 0 5000
def LtP (m : Nat) (d : Nat → JB) (n : Nat) (s : Nat → SL5) : Prop := ArG jbB 40 m d ∧ (n : Int) ≤ 400 ∧ ∀ k, k < n → slB m (s k) = true
open Classical in
noncomputable def ltV (m : Nat) (d : Nat → JB) (n : Nat) (s : Nat → SL5) : Int := if LtP m d n s then latF d (enF s n) m else 0
open Classical in
noncomputable def ltE (m : Nat) (d : Nat → JB) (n : Nat) (s : Nat → SL5) : Int := if LtP m d n s then laF s n else 0
theorem lt_no {m : Nat} {d : Nat → JB} {n : Nat} {s : Nat → SL5} (h : ¬ LtP m d n s) : ltV m d n s = 0 ∧ ltE m d n s = 0 := ⟨if_neg h, if_neg h⟩
theorem lt_yes {m : Nat} {d : Nat → JB} {n : Nat} {s : Nat → SL5} (h : LtP m d n s) : ltV m d n s = latF d (enF s n) m ∧ ltE m d n s = laF s n := ⟨if_pos h, if_pos h⟩
theorem en_bd {s : Nat → SL5} : ∀ {k : Nat}, (∀ i, i < k → 0 ≤ (s i).fin ∧ (s i).fin ≤ 5000) → (∀ j, 0 ≤ enF s k j ∧ enF s k j ≤ 5000) ∧ 0 ≤ laF s k ∧ laF s k ≤ 5000
  | 0, _ => ⟨fun j => ⟨Int.le_refl 0, by show (0 : Int) ≤ 5000; omega⟩, Int.le_refl 0, by show (0 : Int) ≤ 5000; omega⟩
  | k + 1, h => by
    obtain ⟨h1, h2, h3⟩ := en_bd (k := k) fun i hi => h i (by omega)
    have h4 := h k (by omega)
    refine ⟨fun j => ?_, ?_, ?_⟩
    · have h5 := h1 j
      unfold enF
      split <;> omega
    · unfold laF; omega
    · unfold laF; omega
theorem mul_bd {x y : Int} (hx : 0 ≤ x ∧ x ≤ 1000) (hy : 0 ≤ y ∧ y ≤ 5000) : 0 ≤ x * y ∧ x * y ≤ 5000000 := by
  refine ⟨Int.mul_nonneg hx.1 hy.1, ?_⟩
  have h1 : x * y ≤ 1000 * y := Int.mul_le_mul_of_nonneg_right hx.2 hy.1
  omega
theorem lat_bd {d : Nat → JB} {e : Nat → Int} : ∀ {m : Nat}, (∀ j, j < m → jbB (d j) = true) → (∀ j, 0 ≤ e j ∧ e j ≤ 5000) → 0 ≤ latF d e m ∧ latF d e m ≤ 5000000 * (m : Int)
  | 0, _, _ => ⟨Int.le_refl 0, Int.le_refl 0⟩
  | m + 1, h, he => by
    have h1 := lat_bd (m := m) (fun j hj => h j (by omega)) he
    have h2 := (jbB_p (h m (by omega))).1
    have h3 := he m
    have h4 := mul_bd (x := (d m).wgt) (y := max (e m - (d m).due) 0) (by omega) (by omega)
    unfold latF
    omega
theorem upd_en {s : Nat → SL5} {k J : Nat} {x : Int} (h : (s k).job = (J : Int)) (hx : x = (s k).fin) : ∀ j, (if j = J then max (enF s k J) x else enF s k j) = enF s (k + 1) j := fun j => by
  subst hx
  show _ = if (s k).job = (j : Int) then max (enF s k j) (s k).fin else enF s k j
  by_cases e : j = J
  · subst e; rw [if_pos rfl, if_pos h]
  · rw [if_neg e, if_neg (by omega)]
theorem cell_oth {w : World} {b o a p : Nat} {u v : Value} (h : b ≠ a) (hc : w.cell? ⟨b, o, none⟩ = some v) : (w.setCell ⟨a, p, none⟩ u).cell? ⟨b, o, none⟩ = some v := by
  rw [World.cell?_of_block (w := w) (Below.heap_setCell _ _ _ _ (by show b ≠ a; exact h))]; exact hc
theorem ret_2 {a b c d : Int} (h1 : a = b) (h2 : c = d) : Ending.returned (.tuple #[.int .i64 a, .int .i64 c]) = .returned (.tuple #[.int .i64 b, .int .i64 d]) := by rw [h1, h2]

set_option maxRecDepth 20000 in
set_option maxHeartbeats 8000000 in
theorem implLate_eq (aj : Option Addr) (jn jk : Nat) (d : Nat → JB) (ar : Option Addr) (nr rk : Nat) (s : Nat → SL5) (V E : Int) (w : World) (hm : (jn : Int) ≤ 1048576) (hn : (nr : Int) ≤ 1048576) (hl : ∀ j, j < jn → ((d j).rn : Int) ≤ 1048576) (hJ : JBr w aj jn d) (hS : SLr w ar nr s) (hV : ltV jn d nr s = V) (hE : ltE jn d nr s = E) :
    Calls Try.prog 22 #[.slice aj jn jk, .slice ar nr rk] w fun e w' => e = .returned (.tuple #[.int .i64 V, .int .i64 E]) ∧ Below w.heap.size w w' := by
  subst hV hE
  have HJ0 : Hid (JBr w aj jn d) := hJ
  have HS0 : Hid (SLr w ar nr s) := hS
  have HN : Hid (∀ j, j < jn → ((d j).rn : Int) ≤ 1048576) := hl
  clear hJ hS hl
  cases ha : arG jbB 40 jn d
  · have HV := hid (lt_no (m := jn) (d := d) (n := nr) (s := s) fun H => by rw [arG_t H.1] at ha; cases ha)
    have HA : Hid (arG jbB 40 jn d = false) := ha
    clear ha
    go_enter Try.func22, Try.ntmps22
    go_wp2_with (go_at_call 61; refine (areJobs_eq aj jn jk d _ _ hm HN.out HJ0.out HA.out).mono ?_; rintro e w1 ⟨rfl, b1⟩; have HB1 : Hid (Below w.heap.size w w1) := b1; clear b1)
    go_returns
    exact ⟨ret_2 HV.out.1.symm HV.out.2.symm, HB1.out⟩
  have HA : Hid (arG jbB 40 jn d = true) := ha
  have hm40 : (jn : Int) ≤ 40 := by have := (arG_p ha).1; omega
  clear ha
  by_cases h4 : 400 < (nr : Int)
  · have HV := hid (lt_no (m := jn) (d := d) (n := nr) (s := s) fun H => by have := H.2.1; omega)
    go_enter Try.func22, Try.ntmps22
    go_wp2_with (go_at_call 61; refine (areJobs_eq aj jn jk d _ _ hm HN.out HJ0.out HA.out).mono ?_; rintro e w1 ⟨rfl, b1⟩; have HB1 : Hid (Below w.heap.size w w1) := b1; clear b1)
    go_returns
    exact ⟨ret_2 HV.out.1.symm HV.out.2.symm, HB1.out⟩
  have hmk := mkI jn hm
  go_enter Try.func22, Try.ntmps22
  go_wp2_with (go_at_call 61; refine (areJobs_eq aj jn jk d _ _ hm HN.out HJ0.out HA.out).mono ?_; rintro e w1 ⟨rfl, b1⟩; have HB1 : Hid (Below w.heap.size w w1) := b1; clear b1)
  have hb0 : Below w.heap.size w (w1.alloc (.cells (zeros jn) 3)) := bel_on HB1.out ((Below.refl _ _).alloc (Nat.le_refl _) _)
  have ht0 : TI (w1.alloc (.cells (zeros jn) 3)) w1.heap.size jn (enF s 0) := (TI.made w1 jn).congr fun j _ => rfl
  have hlo0 : w.heap.size ≤ w1.heap.size := HB1.out.size
  generalize w1.alloc (.cells (zeros jn) 3) = W1 at hb0 ht0 ⊢
  generalize w1.heap.size = b at ht0 hlo0 ⊢
  have H0 : Hid (Below w.heap.size w W1 ∧ TI W1 b jn (enF s 0)) := ⟨hb0, ht0⟩
  clear hb0 ht0
  go_loopw [7, 26] (fun l i wr => ∃ (k : Nat) (L : Int), k ≤ nr ∧ i = .int .i64 (k : Int) ∧ l = .int .i64 L ∧ 0 ≤ L ∧ L ≤ 5000 ∧ Hid (laF s k = L ∧ (∀ i, i < k → slB jn (s i) = true) ∧ Below w.heap.size w wr ∧ TI wr b jn (enF s k))) (fun _ i _ => nr - (intOf i).toNat)
  case atStart => exact ⟨0, 0, Nat.zero_le _, rfl, rfl, by omega, by omega, rfl, fun i hi => by omega, H0.out.1, H0.out.2⟩
  case round =>
    obtain ⟨k, L, hk, rfl, rfl, hL0, hL1, HH⟩ := hrel
    obtain ⟨wo, rfl⟩ : ∃ x, x = wr := ⟨wr, rfl⟩
    by_cases hlt : k < nr
    · have hlt2 : (k : Int) < (nr : Int) := by omega
      obtain ⟨kb, off, rfl, hkb⟩ := HS0.out.addr (by omega)
      obtain ⟨c0, c1, c2, c3, c4⟩ := (HS0.out.below HH.out.2.2.1).cell hlt
      obtain ⟨e, he⟩ : ∃ e, s k = e := ⟨_, rfl⟩
      have HE : Hid (s k = e) := he
      rw [he] at c0 c1 c2 c3 c4
      obtain ⟨x0, x1, x2, x3, x4⟩ := e
      simp only at c0 c1 c2 c3 c4
      clear he
      cases g1 : inB x0 0 ((jn : Int) - 1)
      · have HV := hid (lt_no (m := jn) (d := d) (n := nr) (s := s) fun H => by have := H.2.2 k hlt; rw [HE.out] at this; unfold slB at this; simp only [g1] at this; cases this)
        have HG1 : Hid (inB x0 0 ((jn : Int) - 1) = false) := g1
        have HB : Hid (Below w.heap.size w (wo.alloc (.cells #[.int .i64 x0, .int .i64 x1, .int .i64 x2, .int .i64 x3, .int .i64 x4] 36 (0, 0)))) := bel_on HH.out.2.2.1 ((Below.refl _ _).alloc (Nat.le_refl _) _)
        clear g1
        go_wp2_with (first | (go_at_call 62; refine (isPlace_eq _ _ _ _ HG1.out).mono ?_; rintro e w2 ⟨rfl, ew⟩; replace ew := ew.symm; subst ew) | (go_at_call 57; refine (isHour_eq _ _ _ HG2.out).mono ?_; rintro e w2 ⟨rfl, ew⟩; replace ew := ew.symm; subst ew))
        go_returns
        exact ⟨ret_2 HV.out.1.symm HV.out.2.symm, HB.out⟩
      have HG1 : Hid (inB x0 0 ((jn : Int) - 1) = true) := g1
      have hx0 := inB_t g1
      cases g2 : inB x4 0 5000
      · have HV := hid (lt_no (m := jn) (d := d) (n := nr) (s := s) fun H => by have := H.2.2 k hlt; rw [HE.out] at this; unfold slB at this; simp only [g1, g2] at this; cases this)
        have HG2 : Hid (inB x4 0 5000 = false) := g2
        have HB : Hid (Below w.heap.size w (wo.alloc (.cells #[.int .i64 x0, .int .i64 x1, .int .i64 x2, .int .i64 x3, .int .i64 x4] 36 (0, 0)))) := bel_on HH.out.2.2.1 ((Below.refl _ _).alloc (Nat.le_refl _) _)
        clear g1 g2
        go_wp2_with (first | (go_at_call 62; refine (isPlace_eq _ _ _ _ HG1.out).mono ?_; rintro e w2 ⟨rfl, ew⟩; replace ew := ew.symm; subst ew) | (go_at_call 57; refine (isHour_eq _ _ _ HG2.out).mono ?_; rintro e w2 ⟨rfl, ew⟩; replace ew := ew.symm; subst ew))
        go_returns
        exact ⟨ret_2 HV.out.1.symm HV.out.2.symm, HB.out⟩
      have HG2 : Hid (inB x4 0 5000 = true) := g2
      have hx4 := inB_t g2
      have HSL : Hid (∀ i, i < k + 1 → slB jn (s i) = true) := fun i hi => by
        by_cases q : i = k
        · subst q; rw [HE.out]; unfold slB; simp only [g1, g2]; rfl
        · exact HH.out.2.1 i (by omega)
      clear g1 g2
      obtain ⟨J, hJ⟩ : ∃ J : Nat, (J : Int) = x0 := ⟨x0.toNat, by omega⟩
      subst hJ
      have hJn : J < jn := by omega
      have hJn2 : (J : Int) < (jn : Int) := by omega
      obtain ⟨G, hG⟩ : ∃ G, enF s k J = G := ⟨_, rfl⟩
      have HGV : Hid (enF s k J = G) := hG
      have hGb := (en_bd (s := s) (k := k) fun i hi => by have := HH.out.2.1 i hi; unfold slB at this; simp only [Bool.and_eq_true] at this; exact inB_t this.2).1 J
      rw [hG] at hGb
      clear hG
      obtain ⟨M, hM⟩ : ∃ M, (if G < x4 then x4 else G) = M := ⟨_, rfl⟩
      obtain ⟨P, hP⟩ : ∃ P, (if L < x4 then x4 else L) = P := ⟨_, rfl⟩
      have HMX : Hid ((if G < x4 then x4 else G) = M) := hM
      have HPX : Hid ((if L < x4 then x4 else L) = P) := hP
      have HM : Hid (max G x4 = M) := hid (by first | exact hM | (rw [← hM]; split <;> omega))
      have HP : Hid (max L x4 = P) := hid (by first | exact hP | (rw [← hP]; split <;> omega))
      have hPb : 0 ≤ P ∧ P ≤ 5000 := by have := HP.out; omega
      clear hM hP
      have HW : Hid (Below w.heap.size w (wo.alloc (.cells #[.int .i64 (J : Int), .int .i64 x1, .int .i64 x2, .int .i64 x3, .int .i64 x4] 36 (0, 0))) ∧ TI (wo.alloc (.cells #[.int .i64 (J : Int), .int .i64 x1, .int .i64 x2, .int .i64 x3, .int .i64 x4] 36 (0, 0))) b jn (enF s k)) := ⟨bel_on HH.out.2.2.1 ((Below.refl _ _).alloc (Nat.le_refl _) _), HH.out.2.2.2.below ((Below.refl _ _).alloc (Nat.le_refl _) _)⟩
      have HCS : Hid (CB (wo.alloc (.cells #[.int .i64 (J : Int), .int .i64 x1, .int .i64 x2, .int .i64 x3, .int .i64 x4] 36 (0, 0))) wo.heap.size #[.int .i64 (J : Int), .int .i64 x1, .int .i64 x2, .int .i64 x3, .int .i64 x4] 36) := CB.new _ _
      have hlb : b < wo.heap.size := HH.out.2.2.2.lt
      have HLA : Hid (laF s k = L) := HH.out.1
      clear HH
      go_wp2_with (first | (go_at_call 62; refine (isPlace_eq _ _ _ _ HG1.out).mono ?_; rintro e w2 ⟨rfl, ew⟩; replace ew := ew.symm; subst ew) | (go_at_call 57; refine (isHour_eq _ _ _ HG2.out).mono ?_; rintro e w2 ⟨rfl, ew⟩; replace ew := ew.symm; subst ew))
      generalize wo.alloc (.cells #[.int .i64 (J : Int), .int .i64 x1, .int .i64 x2, .int .i64 x3, .int .i64 x4] 36 (0, 0)) = W2 at HW HCS ⊢
      generalize wo.heap.size = B at HCS hlb ⊢
      have n0 := HW.out.2.cell hJn
      rw [HGV.out] at n0
      have f0 := HW.out.2.fr J
      have s0 := (HCS.out.cell 0).trans rfl
      have s4 := (HCS.out.cell 4).trans rfl
      clear c0 c1 c2 c3 c4
      go_region
      have HW2 : Hid (Below w.heap.size w (W2.setCell ⟨b, J, none⟩ (.int .i64 M)).drew ∧ TI (W2.setCell ⟨b, J, none⟩ (.int .i64 M)).drew b jn (enF s (k + 1))) := ⟨(HW.out.1.setCell hlo0 _).drew, (HW.out.2.set hJn _).congr fun j hj => by rw [← upd_en (s := s) (k := k) (J := J) (x := x4) (by rw [HE.out]) (by rw [HE.out]), HGV.out, HM.out]⟩
      have HCS2 : Hid (CB (W2.setCell ⟨b, J, none⟩ (.int .i64 M)).drew B #[.int .i64 (J : Int), .int .i64 x1, .int .i64 x2, .int .i64 x3, .int .i64 x4] 36) := HCS.out.other _ (by omega)
      clear HW HCS n0 f0 s0 s4
      rw [HMX.out]
      generalize (W2.setCell ⟨b, J, none⟩ (.int .i64 M)).drew = W3 at HW2 HCS2 ⊢
      have s4 := (HCS2.out.cell 4).trans rfl
      go_wp2
      go_roundw
      case rel => exact ⟨k + 1, P, by omega, by go_num, by rw [HPX.out], hPb.1, hPb.2, (by show max (laF s k) (s k).fin = P; rw [HLA.out, HE.out]; exact HP.out), HSL.out, HW2.out⟩
      case measure => simp [intOf]; omega
    · obtain rfl : k = nr := by omega
      have lkk : ¬ (k : Int) < (k : Int) := by omega
      have HL : Hid (LtP jn d k s) := ⟨arG_p HA.out, by omega, HH.out.2.1⟩
      have HEB : Hid (∀ j, 0 ≤ enF s k j ∧ enF s k j ≤ 5000) := (en_bd (s := s) (k := k) fun i hi => by have := HH.out.2.1 i hi; unfold slB at this; simp only [Bool.and_eq_true] at this; exact inB_t this.2).1
      have HLA : Hid (laF s k = L) := HH.out.1
      have HW : Hid (Below w.heap.size w wo ∧ TI wo b jn (enF s k)) := HH.out.2.2
      clear HH
      go_wp2
      go_loopw [10, 61] (fun l i wr => ∃ (q : Nat) (T : Int), q ≤ jn ∧ i = .int .i64 (q : Int) ∧ l = .int .i64 T ∧ 0 ≤ T ∧ T ≤ 5000000 * (q : Int) ∧ Hid (latF d (enF s k) q = T ∧ Below w.heap.size w wr ∧ TI wr b jn (enF s k))) (fun _ i _ => jn - (intOf i).toNat)
      case atStart => exact ⟨0, 0, Nat.zero_le _, rfl, rfl, by omega, by omega, rfl, HW.out⟩
      case round =>
        obtain ⟨q, T, hq, rfl, rfl, hT0, hT1, HI⟩ := hrel
        obtain ⟨wo, rfl⟩ : ∃ x, x = wr := ⟨wr, rfl⟩
        by_cases hqt : q < jn
        · have hqt2 : (q : Int) < (jn : Int) := by omega
          obtain ⟨jb, jo, rfl, _⟩ := HJ0.out.addr (by omega)
          obtain ⟨ra, rc, _, d0, d1, d2, d3, _⟩ := (HJ0.out.below HI.out.2.1).cell hqt
          have hjb := (jbB_p ((arG_p HA.out).2 q hqt)).1
          obtain ⟨X, hX⟩ : ∃ X, enF s k q = X := ⟨_, rfl⟩
          have n0 := HI.out.2.2.cell hqt
          have hXb := HEB.out q
          rw [hX] at n0 hXb
          have HX : Hid (enF s k q = X) := hX
          clear hX
          generalize (d q).rdy = y0 at d0 hjb
          obtain ⟨D, hD⟩ : ∃ D, (d q).due = D := ⟨_, rfl⟩
          obtain ⟨G, hG⟩ : ∃ G, (d q).wgt = G := ⟨_, rfl⟩
          have HDG : Hid ((d q).due = D ∧ (d q).wgt = G) := ⟨hD, hG⟩
          rw [hD] at d1 hjb
          rw [hG] at d2 hjb
          generalize (d q).rn = rn at d3 hjb
          clear hD hG
          obtain ⟨M, hM⟩ : ∃ M, (if X - D < 0 then 0 else X - D) = M := ⟨_, rfl⟩
          have hM2 : max (X - D) 0 = M := by first | omega | (rw [← hM]; split <;> omega)
          have hMb : 0 ≤ M ∧ M ≤ 5000 := by omega
          have hMul := mul_bd (x := G) (y := M) (by omega) hMb
          obtain ⟨Z, hZ⟩ : ∃ Z, G * M = Z := ⟨_, rfl⟩
          rw [hZ] at hMul
          have HT : Hid (latF d (enF s k) (q + 1) = T + Z) := hid (by show latF d (enF s k) q + (d q).wgt * max (enF s k q - (d q).due) 0 = _; rw [HI.out.1, HX.out, HDG.out.1, HDG.out.2, hM2, hZ])
          have w1 : IntKind.i64.wrap (X - D) = X - D := IntWalk.i64_in _ ⟨by omega, by omega⟩
          have w2 : IntKind.i64.wrap (G * (if X - D < 0 then 0 else X - D)) = Z := by rw [hM, hZ]; exact IntWalk.i64_in _ ⟨by omega, by omega⟩
          have w3 : IntKind.i64.wrap (T + Z) = T + Z := IntWalk.i64_in _ ⟨by omega, by omega⟩
          have HIO : Hid (Below w.heap.size w wo ∧ TI wo b jn (enF s k)) := HI.out.2
          clear HI HDG
          have HIW : Hid (Below w.heap.size w (wo.alloc (.cells #[.int .i64 y0, .int .i64 D, .int .i64 G, .slice ra rn rc] 34 (0, 0))) ∧ TI (wo.alloc (.cells #[.int .i64 y0, .int .i64 D, .int .i64 G, .slice ra rn rc] 34 (0, 0))) b jn (enF s k)) := ⟨bel_on HIO.out.1 ((Below.refl _ _).alloc (Nat.le_refl _) _), HIO.out.2.below ((Below.refl _ _).alloc (Nat.le_refl _) _)⟩
          have HBX : Hid (CB (wo.alloc (.cells #[.int .i64 y0, .int .i64 D, .int .i64 G, .slice ra rn rc] 34 (0, 0))) wo.heap.size #[.int .i64 y0, .int .i64 D, .int .i64 G, .slice ra rn rc] 34) := CB.new _ _
          clear HIO n0
          go_wp2
          clear d0 d1 d2 d3
          generalize wo.alloc (.cells #[.int .i64 y0, .int .i64 D, .int .i64 G, .slice ra rn rc] 34 (0, 0)) = W2 at HIW HBX ⊢
          generalize wo.heap.size = B at HBX ⊢
          have n0 := HIW.out.2.cell hqt
          rw [HX.out] at n0
          have k1 := (HBX.out.cell 1).trans rfl
          have k2 := (HBX.out.cell 2).trans rfl
          clear HX HBX
          go_region
          go_wp2
          go_roundw
          case rel => exact ⟨q + 1, T + Z, by omega, by go_num, by first | rfl | simp [*], by omega, by omega, HT.out, HIW.out.1.drew, HIW.out.2⟩
          case measure => simp [intOf]; omega
        · obtain rfl : q = jn := by omega
          have lqq : ¬ (q : Int) < (q : Int) := by omega
          have HV := hid (lt_yes HL.out)
          have HTV : Hid (latF d (enF s k) q = T) := HI.out.1
          have HB : Hid (Below w.heap.size w wo) := HI.out.2.1
          clear HI
          go_wp2
          go_returns
          exact ⟨ret_2 (by rw [HV.out.1, HTV.out]) (by rw [HV.out.2, HLA.out]), HB.out⟩

set_option maxRecDepth 20000 in
set_option maxHeartbeats 8000000 in
theorem specLate_eq (aj : Option Addr) (jn jk : Nat) (d : Nat → JB) (ar : Option Addr) (nr rk : Nat) (s : Nat → SL5) (V E : Int) (w : World) (hm : (jn : Int) ≤ 1048576) (hn : (nr : Int) ≤ 1048576) (hl : ∀ j, j < jn → ((d j).rn : Int) ≤ 1048576) (hJ : JBr w aj jn d) (hS : SLr w ar nr s) (hV : ltV jn d nr s = V) (hE : ltE jn d nr s = E) :
    Calls Try.prog 45 #[.slice aj jn jk, .slice ar nr rk] w fun e w' => e = .returned (.tuple #[.int .i64 V, .int .i64 E]) ∧ Below w.heap.size w w' := by
  subst hV hE
  have HJ0 : Hid (JBr w aj jn d) := hJ
  have HS0 : Hid (SLr w ar nr s) := hS
  have HN : Hid (∀ j, j < jn → ((d j).rn : Int) ≤ 1048576) := hl
  clear hJ hS hl
  cases ha : arG jbB 40 jn d
  · have HV := hid (lt_no (m := jn) (d := d) (n := nr) (s := s) fun H => by rw [arG_t H.1] at ha; cases ha)
    have HA : Hid (arG jbB 40 jn d = false) := ha
    clear ha
    go_enter Try.func45, Try.ntmps45
    go_wp2_with (go_at_call 67; refine (l19Jobs_eq aj jn jk d _ _ hm HN.out HJ0.out HA.out).mono ?_; rintro e w1 ⟨rfl, b1⟩; have HB1 : Hid (Below w.heap.size w w1) := b1; clear b1)
    go_returns
    exact ⟨ret_2 HV.out.1.symm HV.out.2.symm, HB1.out⟩
  have HA : Hid (arG jbB 40 jn d = true) := ha
  have hm40 : (jn : Int) ≤ 40 := by have := (arG_p ha).1; omega
  clear ha
  by_cases h4 : 400 < (nr : Int)
  · have HV := hid (lt_no (m := jn) (d := d) (n := nr) (s := s) fun H => by have := H.2.1; omega)
    go_enter Try.func45, Try.ntmps45
    go_wp2_with (go_at_call 67; refine (l19Jobs_eq aj jn jk d _ _ hm HN.out HJ0.out HA.out).mono ?_; rintro e w1 ⟨rfl, b1⟩; have HB1 : Hid (Below w.heap.size w w1) := b1; clear b1)
    go_returns
    exact ⟨ret_2 HV.out.1.symm HV.out.2.symm, HB1.out⟩
  have hmk := mkI jn hm
  go_enter Try.func45, Try.ntmps45
  go_wp2_with (go_at_call 67; refine (l19Jobs_eq aj jn jk d _ _ hm HN.out HJ0.out HA.out).mono ?_; rintro e w1 ⟨rfl, b1⟩; have HB1 : Hid (Below w.heap.size w w1) := b1; clear b1)
  have hb0 : Below w.heap.size w (w1.alloc (.cells (zeros jn) 3)) := bel_on HB1.out ((Below.refl _ _).alloc (Nat.le_refl _) _)
  have ht0 : TI (w1.alloc (.cells (zeros jn) 3)) w1.heap.size jn (enF s 0) := (TI.made w1 jn).congr fun j _ => rfl
  have hlo0 : w.heap.size ≤ w1.heap.size := HB1.out.size
  generalize w1.alloc (.cells (zeros jn) 3) = W1 at hb0 ht0 ⊢
  generalize w1.heap.size = b at ht0 hlo0 ⊢
  have H0 : Hid (Below w.heap.size w W1 ∧ TI W1 b jn (enF s 0)) := ⟨hb0, ht0⟩
  clear hb0 ht0
  go_loopw [7, 8] (fun l i wr => ∃ (k : Nat) (L : Int), k ≤ nr ∧ i = .int .i64 (k : Int) ∧ l = .int .i64 L ∧ 0 ≤ L ∧ L ≤ 5000 ∧ Hid (laF s k = L ∧ (∀ i, i < k → slB jn (s i) = true) ∧ Below w.heap.size w wr ∧ TI wr b jn (enF s k))) (fun _ i _ => nr - (intOf i).toNat)
  case atStart => exact ⟨0, 0, Nat.zero_le _, rfl, rfl, by omega, by omega, rfl, fun i hi => by omega, H0.out.1, H0.out.2⟩
  case round =>
    obtain ⟨k, L, hk, rfl, rfl, hL0, hL1, HH⟩ := hrel
    obtain ⟨wo, rfl⟩ : ∃ x, x = wr := ⟨wr, rfl⟩
    by_cases hlt : k < nr
    · have hlt2 : (k : Int) < (nr : Int) := by omega
      obtain ⟨kb, off, rfl, hkb⟩ := HS0.out.addr (by omega)
      obtain ⟨c0, c1, c2, c3, c4⟩ := (HS0.out.below HH.out.2.2.1).cell hlt
      obtain ⟨e, he⟩ : ∃ e, s k = e := ⟨_, rfl⟩
      have HE : Hid (s k = e) := he
      rw [he] at c0 c1 c2 c3 c4
      obtain ⟨x0, x1, x2, x3, x4⟩ := e
      simp only at c0 c1 c2 c3 c4
      clear he
      cases g1 : inB x0 0 ((jn : Int) - 1)
      · have HV := hid (lt_no (m := jn) (d := d) (n := nr) (s := s) fun H => by have := H.2.2 k hlt; rw [HE.out] at this; unfold slB at this; simp only [g1] at this; cases this)
        have HG1 : Hid (inB x0 0 ((jn : Int) - 1) = false) := g1
        have HB : Hid (Below w.heap.size w wo) := HH.out.2.2.1
        clear g1
        go_wp2_with (first | (go_at_call 66; refine (l1In_eq _ _ _ _ _ HG1.out).mono ?_; rintro e w2 ⟨rfl, ew⟩; replace ew := ew.symm; subst ew) | (go_at_call 77; refine (l19Hour_eq _ _ _ HG2.out).mono ?_; rintro e w2 ⟨rfl, ew⟩; replace ew := ew.symm; subst ew))
        go_returns
        exact ⟨ret_2 HV.out.1.symm HV.out.2.symm, HB.out⟩
      have HG1 : Hid (inB x0 0 ((jn : Int) - 1) = true) := g1
      have hx0 := inB_t g1
      cases g2 : inB x4 0 5000
      · have HV := hid (lt_no (m := jn) (d := d) (n := nr) (s := s) fun H => by have := H.2.2 k hlt; rw [HE.out] at this; unfold slB at this; simp only [g1, g2] at this; cases this)
        have HG2 : Hid (inB x4 0 5000 = false) := g2
        have HB : Hid (Below w.heap.size w wo) := HH.out.2.2.1
        clear g1 g2
        go_wp2_with (first | (go_at_call 66; refine (l1In_eq _ _ _ _ _ HG1.out).mono ?_; rintro e w2 ⟨rfl, ew⟩; replace ew := ew.symm; subst ew) | (go_at_call 77; refine (l19Hour_eq _ _ _ HG2.out).mono ?_; rintro e w2 ⟨rfl, ew⟩; replace ew := ew.symm; subst ew))
        go_returns
        exact ⟨ret_2 HV.out.1.symm HV.out.2.symm, HB.out⟩
      have HG2 : Hid (inB x4 0 5000 = true) := g2
      have hx4 := inB_t g2
      have HSL : Hid (∀ i, i < k + 1 → slB jn (s i) = true) := fun i hi => by
        by_cases q : i = k
        · subst q; rw [HE.out]; unfold slB; simp only [g1, g2]; rfl
        · exact HH.out.2.1 i (by omega)
      clear g1 g2
      obtain ⟨J, hJ⟩ : ∃ J : Nat, (J : Int) = x0 := ⟨x0.toNat, by omega⟩
      subst hJ
      have hJn : J < jn := by omega
      have hJn2 : (J : Int) < (jn : Int) := by omega
      obtain ⟨G, hG⟩ : ∃ G, enF s k J = G := ⟨_, rfl⟩
      have HGV : Hid (enF s k J = G) := hG
      have hGb := (en_bd (s := s) (k := k) fun i hi => by have := HH.out.2.1 i hi; unfold slB at this; simp only [Bool.and_eq_true] at this; exact inB_t this.2).1 J
      rw [hG] at hGb
      clear hG
      obtain ⟨M, hM⟩ : ∃ M, (max G x4) = M := ⟨_, rfl⟩
      obtain ⟨P, hP⟩ : ∃ P, (max L x4) = P := ⟨_, rfl⟩
      have HMX : Hid ((max G x4) = M) := hM
      have HPX : Hid ((max L x4) = P) := hP
      have HM : Hid (max G x4 = M) := hid (by first | exact hM | (rw [← hM]; split <;> omega))
      have HP : Hid (max L x4 = P) := hid (by first | exact hP | (rw [← hP]; split <;> omega))
      have hPb : 0 ≤ P ∧ P ≤ 5000 := by have := HP.out; omega
      clear hM hP
      go_wp2_with (first | (go_at_call 66; refine (l1In_eq _ _ _ _ _ HG1.out).mono ?_; rintro e w2 ⟨rfl, ew⟩; replace ew := ew.symm; subst ew) | (go_at_call 77; refine (l19Hour_eq _ _ _ HG2.out).mono ?_; rintro e w2 ⟨rfl, ew⟩; replace ew := ew.symm; subst ew))
      have HW : Hid (Below w.heap.size w wo ∧ TI wo b jn (enF s k)) := HH.out.2.2
      have HLA : Hid (laF s k = L) := HH.out.1
      have ca := HW.out.2.cell hJn
      rw [HGV.out] at ca
      have fa := HW.out.2.fr J
      have nB : kb ≠ b := by omega
      have HX : Hid (wo.drew.cell? ⟨kb, off + k * 5, none⟩ = some (.int .i64 (J : Int)) ∧ wo.drew.cell? ⟨kb, off + k * 5 + 4, none⟩ = some (.int .i64 x4)) := hid ⟨c0, c4⟩
      have HY : Hid ((wo.setCell ⟨b, J, none⟩ (.int .i64 M)).drew.cell? ⟨kb, off + k * 5, none⟩ = some (.int .i64 (J : Int)) ∧ (wo.setCell ⟨b, J, none⟩ (.int .i64 M)).drew.cell? ⟨kb, off + k * 5 + 4, none⟩ = some (.int .i64 x4)) := hid ⟨cell_oth nB c0, cell_oth nB c4⟩
      have HCE : Hid (wo.drew.cell? ⟨b, J, none⟩ = some (.int .i64 G)) := ca
      have HQ : Hid (∀ W : World, Calls Try.prog 53 #[.int .i64 G, .int .i64 x4] W fun e w' => e = .returned (.int .i64 M) ∧ w' = W) := fun W => by have := l9Max_any G x4 W; rw [HM.out] at this; exact this
      have HW2 : Hid (Below w.heap.size w (wo.setCell ⟨b, J, none⟩ (.int .i64 M)).drew ∧ TI (wo.setCell ⟨b, J, none⟩ (.int .i64 M)).drew b jn (enF s (k + 1))) := ⟨(HW.out.1.setCell hlo0 _).drew, (HW.out.2.set hJn _).congr fun j hj => by rw [← upd_en (s := s) (k := k) (J := J) (x := x4) (by rw [HE.out]) (by rw [HE.out]), HGV.out, HM.out]⟩
      clear HH ca c0 c1 c2 c3 c4 HMX
      refine wp_region_noPanic ?_
      refine wp_region_held_drew (S := fun w' => w'.cell? ⟨kb, off + k * 5, none⟩ = some (.int .i64 (J : Int)) ∧ w'.cell? ⟨kb, off + k * 5 + 4, none⟩ = some (.int .i64 x4)) (by kernel_rfl) (by exact HX.out) (fun hHeld => ?_)
      refine wpAnyH_take (i := 0) (oi := { dst := some 47, op := Go.Op.move (Go.Operand.tmp 6), type := 26, pos := "l19_load.go:168", after := #[], guard := none }) (v := ?_) rfl (by kernel_rfl) (by kernel_rfl) (by kernel_rfl) (fun _ _ _ h => h) (Or.inl ⟨by rfl, ?_⟩) (by assumption) ?_
      rotate_left
      · (intro w hSw; (try dsimp only at hSw); go_simp <;> try with_reducible rfl)
      try simp only [Act.put, List.setIfInBounds_toArray, List.set_cons_zero, List.set_cons_succ]
      refine wpAnyH_take (i := 1) (oi := { dst := some 48, op := Go.Op.move (Go.Operand.tmp 1), type := 29, pos := "l19_load.go:168", after := #[], guard := none }) (v := ?_) rfl (by kernel_rfl) (by kernel_rfl) (by kernel_rfl) (fun _ _ _ h => h) (Or.inl ⟨by rfl, ?_⟩) (by assumption) ?_
      rotate_left
      · (intro w hSw; (try dsimp only at hSw); go_simp <;> try with_reducible rfl)
      try simp only [Act.put, List.setIfInBounds_toArray, List.set_cons_zero, List.set_cons_succ]
      refine wpAnyH_take (i := 2) (oi := { dst := some 49, op := Go.Op.move (Go.Operand.tmp 8), type := 3, pos := "l19_load.go:168", after := #[], guard := none }) (v := ?_) rfl (by kernel_rfl) (by kernel_rfl) (by kernel_rfl) (fun _ _ _ h => h) (Or.inl ⟨by rfl, ?_⟩) (by assumption) ?_
      rotate_left
      · (intro w hSw; (try dsimp only at hSw); go_simp <;> try with_reducible rfl)
      try simp only [Act.put, List.setIfInBounds_toArray, List.set_cons_zero, List.set_cons_succ]
      refine wpAnyH_take (i := 3) (oi := { dst := some 50, op := Go.Op.indexAddr 29 (Go.Operand.tmp 48) (Go.Operand.tmp 49), type := 0, pos := "l19_load.go:168", after := #[{ on := 1, ground := Go.Ground.data }, { on := 2, ground := Go.Ground.data }], guard := none }) (v := ?_) rfl (by kernel_rfl) (by kernel_rfl) (by kernel_rfl) (fun _ _ _ h => h) (Or.inl ⟨by rfl, ?_⟩) (by assumption) ?_
      rotate_left
      · (intro w hSw; (try dsimp only at hSw); go_simp <;> try with_reducible rfl)
      try simp only [Act.put, List.setIfInBounds_toArray, List.set_cons_zero, List.set_cons_succ]
      refine wpAnyH_take (i := 4) (oi := { dst := some 51, op := Go.Op.fieldAddr 36 (Go.Operand.tmp 50) 0, type := 0, pos := "l19_load.go:168", after := #[{ on := 3, ground := Go.Ground.data }], guard := none }) (v := ?_) rfl (by kernel_rfl) (by kernel_rfl) (by kernel_rfl) (fun _ _ _ h => h) (Or.inl ⟨by rfl, ?_⟩) (by assumption) ?_
      rotate_left
      · (intro w hSw; (try dsimp only at hSw); go_simp <;> try with_reducible rfl)
      try simp only [Act.put, List.setIfInBounds_toArray, List.set_cons_zero, List.set_cons_succ]
      refine wpAnyH_take (i := 5) (oi := { dst := some 52, op := Go.Op.load 3 (Go.Operand.tmp 51), type := 3, pos := "l19_load.go:168", after := #[{ on := 4, ground := Go.Ground.data }], guard := none }) (v := ?_) rfl (by kernel_rfl) (by kernel_rfl) (by kernel_rfl) (fun _ _ _ h => h) (Or.inl ⟨by rfl, ?_⟩) (by assumption) ?_
      rotate_left
      · (intro w hSw; (try dsimp only at hSw); go_simp <;> try with_reducible rfl)
      try simp only [Act.put, List.setIfInBounds_toArray, List.set_cons_zero, List.set_cons_succ]
      refine wpAnyH_take (i := 6) (oi := { dst := some 53, op := Go.Op.move (Go.Operand.tmp 6), type := 26, pos := "l19_load.go:168", after := #[], guard := none }) (v := ?_) rfl (by kernel_rfl) (by kernel_rfl) (by kernel_rfl) (fun _ _ _ h => h) (Or.inl ⟨by rfl, ?_⟩) (by assumption) ?_
      rotate_left
      · (intro w hSw; (try dsimp only at hSw); go_simp <;> try with_reducible rfl)
      try simp only [Act.put, List.setIfInBounds_toArray, List.set_cons_zero, List.set_cons_succ]
      refine wpAnyH_take (i := 7) (oi := { dst := some 54, op := Go.Op.move (Go.Operand.tmp 1), type := 29, pos := "l19_load.go:168", after := #[], guard := none }) (v := ?_) rfl (by kernel_rfl) (by kernel_rfl) (by kernel_rfl) (fun _ _ _ h => h) (Or.inl ⟨by rfl, ?_⟩) (by assumption) ?_
      rotate_left
      · (intro w hSw; (try dsimp only at hSw); go_simp <;> try with_reducible rfl)
      try simp only [Act.put, List.setIfInBounds_toArray, List.set_cons_zero, List.set_cons_succ]
      refine wpAnyH_take (i := 8) (oi := { dst := some 55, op := Go.Op.move (Go.Operand.tmp 8), type := 3, pos := "l19_load.go:168", after := #[], guard := none }) (v := ?_) rfl (by kernel_rfl) (by kernel_rfl) (by kernel_rfl) (fun _ _ _ h => h) (Or.inl ⟨by rfl, ?_⟩) (by assumption) ?_
      rotate_left
      · (intro w hSw; (try dsimp only at hSw); go_simp <;> try with_reducible rfl)
      try simp only [Act.put, List.setIfInBounds_toArray, List.set_cons_zero, List.set_cons_succ]
      refine wpAnyH_take (i := 9) (oi := { dst := some 56, op := Go.Op.indexAddr 29 (Go.Operand.tmp 54) (Go.Operand.tmp 55), type := 0, pos := "l19_load.go:168", after := #[{ on := 7, ground := Go.Ground.data }, { on := 8, ground := Go.Ground.data }], guard := none }) (v := ?_) rfl (by kernel_rfl) (by kernel_rfl) (by kernel_rfl) (fun _ _ _ h => h) (Or.inl ⟨by rfl, ?_⟩) (by assumption) ?_
      rotate_left
      · (intro w hSw; (try dsimp only at hSw); go_simp <;> try with_reducible rfl)
      try simp only [Act.put, List.setIfInBounds_toArray, List.set_cons_zero, List.set_cons_succ]
      refine wpAnyH_take (i := 10) (oi := { dst := some 57, op := Go.Op.fieldAddr 36 (Go.Operand.tmp 56) 0, type := 0, pos := "l19_load.go:168", after := #[{ on := 9, ground := Go.Ground.data }], guard := none }) (v := ?_) rfl (by kernel_rfl) (by kernel_rfl) (by kernel_rfl) (fun _ _ _ h => h) (Or.inl ⟨by rfl, ?_⟩) (by assumption) ?_
      rotate_left
      · (intro w hSw; (try dsimp only at hSw); go_simp <;> try with_reducible rfl)
      try simp only [Act.put, List.setIfInBounds_toArray, List.set_cons_zero, List.set_cons_succ]
      refine wpAnyH_take (i := 11) (oi := { dst := some 58, op := Go.Op.load 3 (Go.Operand.tmp 57), type := 3, pos := "l19_load.go:168", after := #[{ on := 10, ground := Go.Ground.data }], guard := none }) (v := ?_) rfl (by kernel_rfl) (by kernel_rfl) (by kernel_rfl) (fun _ _ _ h => h) (Or.inl ⟨by rfl, ?_⟩) (by assumption) ?_
      rotate_left
      · (intro w hSw; (try dsimp only at hSw); go_simp <;> try with_reducible rfl)
      try simp only [Act.put, List.setIfInBounds_toArray, List.set_cons_zero, List.set_cons_succ]
      refine wpAnyH_take (i := 12) (oi := { dst := some 59, op := Go.Op.indexAddr 26 (Go.Operand.tmp 53) (Go.Operand.tmp 58), type := 0, pos := "l19_load.go:168", after := #[{ on := 6, ground := Go.Ground.data }, { on := 11, ground := Go.Ground.data }], guard := none }) (v := ?_) rfl (by kernel_rfl) (by kernel_rfl) (by kernel_rfl) (fun _ _ _ h => h) (Or.inl ⟨by rfl, ?_⟩) (by assumption) ?_
      rotate_left
      · (intro w hSw; (try dsimp only at hSw); go_simp <;> try with_reducible rfl)
      try simp only [Act.put, List.setIfInBounds_toArray, List.set_cons_zero, List.set_cons_succ]
      refine wpAnyH_take (i := 14) (oi := { dst := some 61, op := Go.Op.move (Go.Operand.tmp 1), type := 29, pos := "l19_load.go:168", after := #[], guard := none }) (v := ?_) rfl (by kernel_rfl) (by kernel_rfl) (by kernel_rfl) (fun _ _ _ h => h) (Or.inl ⟨by rfl, ?_⟩) (by assumption) ?_
      rotate_left
      · (intro w hSw; (try dsimp only at hSw); go_simp <;> try with_reducible rfl)
      try simp only [Act.put, List.setIfInBounds_toArray, List.set_cons_zero, List.set_cons_succ]
      refine wpAnyH_take (i := 15) (oi := { dst := some 62, op := Go.Op.move (Go.Operand.tmp 8), type := 3, pos := "l19_load.go:168", after := #[], guard := none }) (v := ?_) rfl (by kernel_rfl) (by kernel_rfl) (by kernel_rfl) (fun _ _ _ h => h) (Or.inl ⟨by rfl, ?_⟩) (by assumption) ?_
      rotate_left
      · (intro w hSw; (try dsimp only at hSw); go_simp <;> try with_reducible rfl)
      try simp only [Act.put, List.setIfInBounds_toArray, List.set_cons_zero, List.set_cons_succ]
      refine wpAnyH_take (i := 16) (oi := { dst := some 63, op := Go.Op.indexAddr 29 (Go.Operand.tmp 61) (Go.Operand.tmp 62), type := 0, pos := "l19_load.go:168", after := #[{ on := 14, ground := Go.Ground.data }, { on := 15, ground := Go.Ground.data }], guard := none }) (v := ?_) rfl (by kernel_rfl) (by kernel_rfl) (by kernel_rfl) (fun _ _ _ h => h) (Or.inl ⟨by rfl, ?_⟩) (by assumption) ?_
      rotate_left
      · (intro w hSw; (try dsimp only at hSw); go_simp <;> try with_reducible rfl)
      try simp only [Act.put, List.setIfInBounds_toArray, List.set_cons_zero, List.set_cons_succ]
      refine wpAnyH_take (i := 17) (oi := { dst := some 64, op := Go.Op.fieldAddr 36 (Go.Operand.tmp 63) 4, type := 0, pos := "l19_load.go:168", after := #[{ on := 16, ground := Go.Ground.data }], guard := none }) (v := ?_) rfl (by kernel_rfl) (by kernel_rfl) (by kernel_rfl) (fun _ _ _ h => h) (Or.inl ⟨by rfl, ?_⟩) (by assumption) ?_
      rotate_left
      · (intro w hSw; (try dsimp only at hSw); go_simp <;> try with_reducible rfl)
      try simp only [Act.put, List.setIfInBounds_toArray, List.set_cons_zero, List.set_cons_succ]
      refine wpAnyH_take (i := 18) (oi := { dst := some 65, op := Go.Op.load 3 (Go.Operand.tmp 64), type := 3, pos := "l19_load.go:168", after := #[{ on := 17, ground := Go.Ground.data }], guard := none }) (v := ?_) rfl (by kernel_rfl) (by kernel_rfl) (by kernel_rfl) (fun _ _ _ h => h) (Or.inl ⟨by rfl, ?_⟩) (by assumption) ?_
      rotate_left
      · (intro w hSw; (try dsimp only at hSw); go_simp <;> try with_reducible rfl)
      try simp only [Act.put, List.setIfInBounds_toArray, List.set_cons_zero, List.set_cons_succ]
      refine wpAnyH_ready (rs := [13]) (by kernel_rfl) (by simp) ?_
      refine AllReadyH.cons (o := { dst := some 60, op := Go.Op.load 3 (Go.Operand.tmp 59), type := 3, pos := "l19_load.go:168", after := #[{ on := 12, ground := Go.Ground.data }], guard := none }) rfl (fun K hK => ?_) (AllReadyH.nil)
      have hce := HCE.out
      go_simp
      refine hK.out _ _ (by exact HX.out) (fun hHeld => ?_)
      clear hK K hce
      try simp only [Act.put, List.setIfInBounds_toArray, List.set_cons_zero, List.set_cons_succ]
      refine wpAnyH_ready (rs := [19]) (by kernel_rfl) (by simp) ?_
      refine AllReadyH.cons (o := { dst := some 66, op := Go.Op.call { callee := Go.Callee.value (Go.Operand.func 53), args := #[Go.Operand.tmp 60, Go.Operand.tmp 65], argTypes := #[3, 3] }, type := 3, pos := "l19_load.go:168", after := #[{ on := 13, ground := Go.Ground.data }, { on := 18, ground := Go.Ground.data }], guard := none }) rfl (fun K hK => ?_) (AllReadyH.nil)
      go_simp
      refine (HQ.out _).mono ?_
      rintro e w9 ⟨rfl, ew⟩
      replace ew := ew.symm
      subst ew
      refine hK.out _ _ (by exact HX.out) (fun hHeld => ?_)
      clear hK K
      try simp only [Act.put, List.setIfInBounds_toArray, List.set_cons_zero, List.set_cons_succ]
      refine wpAnyH_take (i := 20) (oi := { dst := some 67, op := Go.Op.indexAddr 26 (Go.Operand.tmp 47) (Go.Operand.tmp 52), type := 0, pos := "l19_load.go:168", after := #[{ on := 0, ground := Go.Ground.data }, { on := 5, ground := Go.Ground.data }, { on := 0, ground := Go.Ground.phase }, { on := 1, ground := Go.Ground.phase }, { on := 2, ground := Go.Ground.phase }, { on := 3, ground := Go.Ground.phase }, { on := 4, ground := Go.Ground.phase }, { on := 5, ground := Go.Ground.phase }, { on := 6, ground := Go.Ground.phase }, { on := 7, ground := Go.Ground.phase }, { on := 8, ground := Go.Ground.phase }, { on := 9, ground := Go.Ground.phase }, { on := 10, ground := Go.Ground.phase }, { on := 11, ground := Go.Ground.phase }, { on := 12, ground := Go.Ground.phase }, { on := 13, ground := Go.Ground.phase }, { on := 14, ground := Go.Ground.phase }, { on := 15, ground := Go.Ground.phase }, { on := 16, ground := Go.Ground.phase }, { on := 17, ground := Go.Ground.phase }, { on := 18, ground := Go.Ground.phase }, { on := 19, ground := Go.Ground.phase }], guard := none }) (v := ?_) rfl (by kernel_rfl) (by kernel_rfl) (by kernel_rfl) (fun _ _ _ h => h) (Or.inl ⟨by rfl, ?_⟩) (by assumption) ?_
      rotate_left
      · (intro w hSw; (try dsimp only at hSw); go_simp <;> try with_reducible rfl)
      try simp only [Act.put, List.setIfInBounds_toArray, List.set_cons_zero, List.set_cons_succ]
      refine wpAnyH_ready (rs := [21]) (by kernel_rfl) (by simp) ?_
      refine AllReadyH.cons (o := { dst := none, op := Go.Op.store 3 (Go.Operand.tmp 67) (Go.Operand.tmp 66), type := 0, pos := "l19_load.go:168", after := #[{ on := 20, ground := Go.Ground.data }, { on := 19, ground := Go.Ground.data }, { on := 19, ground := Go.Ground.chain }, { on := 0, ground := Go.Ground.phase }, { on := 1, ground := Go.Ground.phase }, { on := 2, ground := Go.Ground.phase }, { on := 3, ground := Go.Ground.phase }, { on := 4, ground := Go.Ground.phase }, { on := 5, ground := Go.Ground.phase }, { on := 6, ground := Go.Ground.phase }, { on := 7, ground := Go.Ground.phase }, { on := 8, ground := Go.Ground.phase }, { on := 9, ground := Go.Ground.phase }, { on := 10, ground := Go.Ground.phase }, { on := 11, ground := Go.Ground.phase }, { on := 12, ground := Go.Ground.phase }, { on := 13, ground := Go.Ground.phase }, { on := 14, ground := Go.Ground.phase }, { on := 15, ground := Go.Ground.phase }, { on := 16, ground := Go.Ground.phase }, { on := 17, ground := Go.Ground.phase }, { on := 18, ground := Go.Ground.phase }, { on := 19, ground := Go.Ground.phase }], guard := none }) rfl (fun K hK => ?_) (AllReadyH.nil)
      have hce := HCE.out
      go_simp
      refine hK.out _ _ (by exact HY.out) (fun hHeld => ?_)
      clear hK K hce
      try simp only [Act.put, List.setIfInBounds_toArray, List.set_cons_zero, List.set_cons_succ]
      refine wpAnyH_done (by kernel_rfl) ?_ _
      refine NoPanic.normal ?_
      clear hHeld HX HY HCE
      clear HQ fa HW
      generalize (wo.setCell ⟨b, J, none⟩ (.int .i64 M)).drew = W3 at HW2 ⊢
      obtain ⟨d0, d1, d2, d3, d4⟩ := (HS0.out.below HW2.out.1).cell hlt
      rw [HE.out] at d0 d1 d2 d3 d4
      simp only at d0 d1 d2 d3 d4
      have HQ : Hid (∀ W : World, Calls Try.prog 53 #[.int .i64 L, .int .i64 x4] W fun e w' => e = .returned (.int .i64 P) ∧ w' = W) := fun W => by have := l9Max_any L x4 W; rw [HP.out] at this; exact this
      go_wp2_with (go_at_call 53; refine (HQ.out _).mono ?_; rintro e w4 ⟨rfl, ew⟩; replace ew := ew.symm; subst ew)
      go_roundw
      case rel => exact ⟨k + 1, P, by omega, by go_num, rfl, hPb.1, hPb.2, (by show max (laF s k) (s k).fin = P; rw [HLA.out, HE.out]; exact HP.out), HSL.out, HW2.out⟩
      case measure => simp [intOf]; omega
    · obtain rfl : k = nr := by omega
      have lkk : ¬ (k : Int) < (k : Int) := by omega
      have HL : Hid (LtP jn d k s) := ⟨arG_p HA.out, by omega, HH.out.2.1⟩
      have HEB : Hid (∀ j, 0 ≤ enF s k j ∧ enF s k j ≤ 5000) := (en_bd (s := s) (k := k) fun i hi => by have := HH.out.2.1 i hi; unfold slB at this; simp only [Bool.and_eq_true] at this; exact inB_t this.2).1
      have HLA : Hid (laF s k = L) := HH.out.1
      have HW : Hid (Below w.heap.size w wo ∧ TI wo b jn (enF s k)) := HH.out.2.2
      clear HH
      go_wp2
      go_loopw [9, 10] (fun l i wr => ∃ (q : Nat) (T : Int), q ≤ jn ∧ i = .int .i64 (q : Int) ∧ l = .int .i64 T ∧ 0 ≤ T ∧ T ≤ 5000000 * (q : Int) ∧ Hid (latF d (enF s k) q = T ∧ Below w.heap.size w wr ∧ TI wr b jn (enF s k))) (fun _ i _ => jn - (intOf i).toNat)
      case atStart => exact ⟨0, 0, Nat.zero_le _, rfl, rfl, by omega, by omega, rfl, HW.out⟩
      case round =>
        obtain ⟨q, T, hq, rfl, rfl, hT0, hT1, HI⟩ := hrel
        obtain ⟨wo, rfl⟩ : ∃ x, x = wr := ⟨wr, rfl⟩
        by_cases hqt : q < jn
        · have hqt2 : (q : Int) < (jn : Int) := by omega
          obtain ⟨jb, jo, rfl, _⟩ := HJ0.out.addr (by omega)
          obtain ⟨ra, rc, _, d0, d1, d2, d3, _⟩ := (HJ0.out.below HI.out.2.1).cell hqt
          have hjb := (jbB_p ((arG_p HA.out).2 q hqt)).1
          obtain ⟨X, hX⟩ : ∃ X, enF s k q = X := ⟨_, rfl⟩
          have n0 := HI.out.2.2.cell hqt
          have hXb := HEB.out q
          rw [hX] at n0 hXb
          have HX : Hid (enF s k q = X) := hX
          clear hX
          generalize (d q).rdy = y0 at d0 hjb
          obtain ⟨D, hD⟩ : ∃ D, (d q).due = D := ⟨_, rfl⟩
          obtain ⟨G, hG⟩ : ∃ G, (d q).wgt = G := ⟨_, rfl⟩
          have HDG : Hid ((d q).due = D ∧ (d q).wgt = G) := ⟨hD, hG⟩
          rw [hD] at d1 hjb
          rw [hG] at d2 hjb
          generalize (d q).rn = rn at d3 hjb
          clear hD hG
          obtain ⟨M, hM⟩ : ∃ M, (max 0 (X - D)) = M := ⟨_, rfl⟩
          have hM2 : max (X - D) 0 = M := by first | omega | (rw [← hM]; split <;> omega)
          have hMb : 0 ≤ M ∧ M ≤ 5000 := by omega
          have hMul := mul_bd (x := G) (y := M) (by omega) hMb
          obtain ⟨Z, hZ⟩ : ∃ Z, G * M = Z := ⟨_, rfl⟩
          rw [hZ] at hMul
          have HT : Hid (latF d (enF s k) (q + 1) = T + Z) := hid (by show latF d (enF s k) q + (d q).wgt * max (enF s k q - (d q).due) 0 = _; rw [HI.out.1, HX.out, HDG.out.1, HDG.out.2, hM2, hZ])
          have w1 : IntKind.i64.wrap (X - D) = X - D := IntWalk.i64_in _ ⟨by omega, by omega⟩
          have w2 : IntKind.i64.wrap (G * (max 0 (X - D))) = Z := by rw [hM, hZ]; exact IntWalk.i64_in _ ⟨by omega, by omega⟩
          have w3 : IntKind.i64.wrap (T + Z) = T + Z := IntWalk.i64_in _ ⟨by omega, by omega⟩
          have HIO : Hid (Below w.heap.size w wo ∧ TI wo b jn (enF s k)) := HI.out.2
          clear HI HDG
          have n0' := HIO.out.2.cell hqt
          rw [HX.out] at n0'
          have HQ : Hid (∀ W : World, Calls Try.prog 53 #[.int .i64 0, .int .i64 (X - D)] W fun e w' => e = .returned (.int .i64 (max 0 (X - D))) ∧ w' = W) := fun W => l9Max_any 0 (X - D) W
          go_wp2
          go_quiet (first | (go_at_call 53; exact Calls.quiet_of_same (HQ.out _)))
          go_wp2
          go_roundw
          case rel => exact ⟨q + 1, T + Z, by omega, by go_num, by first | rfl | simp [*], by omega, by omega, HT.out, bd_N HIO.out.1 _, HIO.out.2⟩
          case measure => simp [intOf]; omega
        · obtain rfl : q = jn := by omega
          have lqq : ¬ (q : Int) < (q : Int) := by omega
          have HV := hid (lt_yes HL.out)
          have HTV : Hid (latF d (enF s k) q = T) := HI.out.1
          have HB : Hid (Below w.heap.size w wo) := HI.out.2.1
          clear HI
          go_wp2
          go_returns
          exact ⟨ret_2 (by rw [HV.out.1, HTV.out]) (by rw [HV.out.2, HLA.out]), HB.out⟩
end Go.Proofs.Ytogolmbgboihdaa
