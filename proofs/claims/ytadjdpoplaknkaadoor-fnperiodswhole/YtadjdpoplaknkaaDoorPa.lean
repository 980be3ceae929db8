/- PeriodAt in the program. -/
import Derived.Test.YtadjdpoplaknkaaDoorPn
namespace Go.Proofs.YtadjdpoplaknkaaDoor
open Go.ChangeShapes Go.WideShapes Go.ChangeAt Go.RowKit
set_option linter.unusedVariables false
set_option linter.unusedSimpArgs false

/-- The lowest place from s on, of f places, whose period holds the day. -/
def atF (x y : Nat → Int) (day : Int) : Nat → Nat → Int
  | 0, _ => -1
  | f + 1, s => if x s ≤ day ∧ day ≤ y s then (s : Int) else atF x y day f (s + 1)

theorem atF_hit {x y : Nat → Int} {day : Int} {len k : Nat} (hk : k < len) (h : x k ≤ day ∧ day ≤ y k) : atF x y day (len - k) k = (k : Int) := by
  obtain ⟨f, hf⟩ : ∃ f, len - k = f + 1 := ⟨len - k - 1, by omega⟩
  rw [hf]; exact if_pos h
theorem atF_miss {x y : Nat → Int} {day : Int} {len k : Nat} (hk : k < len) (h : ¬ (x k ≤ day ∧ day ≤ y k)) : atF x y day (len - k) k = atF x y day (len - (k + 1)) (k + 1) := by
  obtain ⟨f, hf⟩ : ∃ f, len - k = f + 1 := ⟨len - k - 1, by omega⟩
  rw [hf, show len - (k + 1) = f by omega]; exact if_neg h
theorem atF_end {x y : Nat → Int} {day : Int} {k : Nat} : atF x y day (k - k) k = -1 := by rw [Nat.sub_self]; rfl

def atV (len : Nat) (x y : Nat → Int) (day : Int) : Int := if len ≤ 60 then atF x y day len 0 else -1

theorem holds_any (a c day : Int) (b : Nat) (w : World) (hd : CB w b #[.int .i64 day] 3) :
    Calls Tryd.prog 48 #[.agg #[.int .i64 a, .int .i64 c], .pointer (some ⟨b, 0, none⟩)] w fun e w' => e = .returned (.bool (decide (a ≤ day ∧ day ≤ c))) ∧ Below w.heap.size w w' := by
  have c0 := (hd.alloc (.cells #[.int .i64 a, .int .i64 c] 38 (0, 0))).cell 0
  simp at c0
  clear hd
  go_enter Tryd.func48, Tryd.ntmps48
  go_wp2
  all_goals go_returns
  all_goals exact ⟨ret_bool (by rw [Bool.eq_iff_iff]; simp; try omega), by go_grown⟩

theorem holds_eq (a c day : Int) (b : Nat) (v : Bool) (w : World) (hd : CB w b #[.int .i64 day] 3) (hv : decide (a ≤ day ∧ day ≤ c) = v) :
    Calls Tryd.prog 48 #[.agg #[.int .i64 a, .int .i64 c], .pointer (some ⟨b, 0, none⟩)] w fun e w' => e = .returned (.bool v) ∧ Below w.heap.size w w' := by
  have := holds_any a c day b w hd
  rwa [hv] at this

set_option maxHeartbeats 1000000 in
theorem indexFunc_any (ad : Option Addr) (len cap : Nat) (x y : Nat → Int) (day : Int) (b : Nat) (w : World) (h : (len : Int) ≤ 60) (hr : PR w ad len x y) (hd : CB w b #[.int .i64 day] 3) :
    Calls Tryd.prog 47 #[.slice ad len cap, .func (Fn.func 48) #[] #[.pointer (some ⟨b, 0, none⟩)]] w fun e w' => e = .returned (.int .i64 (atF x y day len 0)) ∧ Below w.heap.size w w' := by
  have HR : Hid (PR w ad len x y) := hr
  have HD : Hid (CB w b #[.int .i64 day] 3) := hd
  clear hr hd
  go_enter Tryd.func47, Tryd.ntmps47
  go_wp2
  go_loopw [8] (fun i wr => ∃ k : Nat, k ≤ len ∧ i = .int .i64 (k : Int) ∧ Hid (atF x y day (len - k) k = atF x y day len 0) ∧ Below w.heap.size w wr) (fun i _ => len - (intOf i).toNat)
  case atStart => exact ⟨0, Nat.zero_le _, rfl, rfl, Below.refl _ _⟩
  case round =>
    obtain ⟨k, hk, rfl, hP, hB⟩ := hrel
    by_cases hlt : k < len
    · obtain ⟨kb, off, rfl, _⟩ := HR.out.addr (by omega)
      obtain ⟨c1, c2⟩ := (HR.out.below hB).cell hlt
      have HB : Hid (Below w.heap.size w wr) := hB
      have HC : Hid (CB wr b #[.int .i64 day] 3) := HD.out.below hB HD.out.lt
      clear hB
      by_cases g : x k ≤ day ∧ day ≤ y k
      · have HF : Hid (atF x y day len 0 = (k : Int)) := by rw [← hP.out]; exact atF_hit hlt g
        have hv : Hid (decide (x k ≤ day ∧ day ≤ y k) = true) := decide_eq_true g
        clear g
        go_wp2_with (go_at_call 48; refine (holds_eq _ _ day b _ _ HC.out hv.out).mono ?_; rintro e w1 ⟨rfl, b1⟩)
        go_returns
        exact ⟨ret_int HF.out.symm, bel_on HB.out b1⟩
      · have HF : Hid (atF x y day (len - (k + 1)) (k + 1) = atF x y day len 0) := by rw [← hP.out]; exact (atF_miss hlt g).symm
        have hv : Hid (decide (x k ≤ day ∧ day ≤ y k) = false) := decide_eq_false g
        clear g
        go_wp2_with (go_at_call 48; refine (holds_eq _ _ day b _ _ HC.out hv.out).mono ?_; rintro e w1 ⟨rfl, b1⟩)
        go_roundw
        case rel => exact ⟨k + 1, by omega, by go_num, HF, bel_on HB.out b1⟩
        case measure => simp [intOf]; omega
    · obtain rfl : k = len := by omega
      have HF : Hid (atF x y day k 0 = -1) := by rw [← hP.out]; exact atF_end
      have HB : Hid (Below w.heap.size w wr) := hB
      clear hB
      go_wp2
      go_returns
      exact ⟨ret_int HF.out.symm, HB.out⟩

set_option maxHeartbeats 1000000 in
theorem implPeriodAt_any (ad : Option Addr) (len cap : Nat) (x y : Nat → Int) (day : Int) (w : World) (h : (len : Int) ≤ 1048576) (hr : PR w ad len x y) :
    Calls Tryd.prog 23 #[.slice ad len cap, .int .i64 day] w fun e w' => e = .returned (.int .i64 (atV len x y day)) ∧ Below w.heap.size w w' := by
  have HR : Hid (PR w ad len x y) := hr
  clear hr
  by_cases h60 : len ≤ 60
  · have hv : atV len x y day = atF x y day len 0 := if_pos h60
    rw [hv]; clear hv
    have h6 : (len : Int) ≤ 60 := by omega
    go_enter Tryd.func23, Tryd.ntmps23
    go_wp2_with (go_at_call 47; refine (indexFunc_any _ _ _ x y day _ _ h6 (HR.out.alloc _) (CB.new _ _)).mono ?_; rintro e w1 ⟨rfl, b1⟩)
    go_returns
    exact ⟨rfl, bel_on ((Below.refl _ _).alloc (Nat.le_refl _) _) b1⟩
  · have hv : atV len x y day = -1 := if_neg h60
    rw [hv]; clear hv
    have h6 : (60 : Int) < (len : Int) := by omega
    go_enter Tryd.func23, Tryd.ntmps23
    go_wp2
    go_returns
    exact ⟨rfl, by go_grown⟩

theorem implAt_eq (v : Int) (ad : Option Addr) (len cap : Nat) (x y : Nat → Int) (day : Int) (w : World) (h : (len : Int) ≤ 1048576) (hr : PR w ad len x y) (hv : atV len x y day = v) :
    Calls Tryd.prog 23 #[.slice ad len cap, .int .i64 day] w fun e w' => e = .returned (.int .i64 v) ∧ Below w.heap.size w w' := by
  have := implPeriodAt_any ad len cap x y day w h hr
  rwa [hv] at this

theorem atF_find {x y : Nat → Int} {day : Int} {i : Nat} (hi : x i ≤ day ∧ day ≤ y i) : ∀ f s, (∀ j, s ≤ j → j < i → ¬ (x j ≤ day ∧ day ≤ y j)) → s ≤ i → i < s + f → atF x y day f s = (i : Int)
  | 0, s, _, h1, h2 => by omega
  | f + 1, s, hn, h1, h2 => by
    by_cases e : s = i
    · subst e; exact if_pos hi
    · have : atF x y day (f + 1) s = atF x y day f (s + 1) := if_neg (hn s (Nat.le_refl _) (by omega))
      rw [this]
      exact atF_find hi f (s + 1) (fun j a b => hn j (by omega) b) (by omega) (by omega)
theorem atF_none {x y : Nat → Int} {day : Int} : ∀ f s, (∀ j, s ≤ j → j < s + f → ¬ (x j ≤ day ∧ day ≤ y j)) → atF x y day f s = -1
  | 0, s, _ => rfl
  | f + 1, s, hn => by
    have : atF x y day (f + 1) s = atF x y day f (s + 1) := if_neg (hn s (Nat.le_refl _) (by omega))
    rw [this]
    exact atF_none f (s + 1) (fun j a b => hn j (by omega) (by omega))

theorem mend_ge {f : Int} (h0 : 0 ≤ f) (h1 : f ≤ 40000) (h : 0 ≤ mendV f) : f ≤ mendV f := by
  obtain ⟨y, m, dd, k1, k2, y0, y1, m1, m2, d1, d2⟩ := dat_open h0 h1
  have e := mendV_in h0 h1 k1
  rw [e] at h ⊢
  obtain ⟨a1, a2, a3, a4, a5, a6, a7⟩ := dayV_yes h
  have hI := dat_is h0 h1
  rw [k1] at hI
  have s1 := a7.sum
  have s2 := hI.sum
  simp only at s2
  unfold sumV at s1 s2
  omega

theorem dn_ge {f e : Int} (hf : f ≤ e) (h : 0 ≤ dn e) : f ≤ dn e := by
  unfold dn at h ⊢
  by_cases g : 0 ≤ e ∧ e ≤ 40000
  · rw [if_pos g]; exact hf
  · rw [if_neg g] at h; omega

theorem pEnd_ge {kind f : Int} {j : Nat} (h0 : 0 ≤ f) (h : 0 ≤ pEnd kind f j) : f ≤ pEnd kind f j := by
  unfold pEnd at h ⊢
  by_cases c1 : kind = 1
  · rw [if_pos c1] at h ⊢
    by_cases c2 : (dat f).2.2 = 1
    · rw [if_pos c2] at h ⊢
      by_cases c3 : f ≤ 40000
      · exact mend_ge h0 c3 h
      · rw [mendV_out (by omega)] at h; omega
    · rw [if_neg c2] at h; omega
  · rw [if_neg c1] at h ⊢
    by_cases c2 : kind = 2
    · rw [if_pos c2] at h ⊢
      by_cases c4 : j % 3 = 2
      · rw [if_pos c4] at h ⊢; exact dn_ge (by omega) h
      · rw [if_neg c4] at h ⊢; exact dn_ge (by omega) h
    · rw [if_neg c2] at h ⊢
      by_cases c3 : kind = 3
      · rw [if_pos c3] at h ⊢
        exact dn_ge (by omega) h
      · rw [if_neg c3] at h; omega

section
variable {kind first : Int} {n : Nat} (hp : perOk kind first (n : Int))
include hp
theorem fl {i : Nat} (hi : i < n) : fst kind first i ≤ lst kind first i :=
  pEnd_ge (fst_bd kind first hp.1 i).1 (hp.2.2 i (by omega))
theorem lf {j : Nat} : ∀ {i : Nat}, j < i → i ≤ n → lst kind first j < fst kind first i
  | 0, h1, _ => by omega
  | i + 1, h1, h2 => by
    rw [fst_succ]
    by_cases e : j = i
    · subst e; omega
    · have a := lf (j := j) (i := i) (by omega) (by omega)
      have b := fl hp (i := i) (by omega)
      omega
theorem at_first {i : Nat} (hi : i < n) : atV n (fst kind first) (lst kind first) (fst kind first i) = (i : Int) := by
  have : n ≤ 60 := by have := hp.2.1.2; omega
  unfold atV; rw [if_pos this]
  exact atF_find ⟨Int.le_refl _, fl hp hi⟩ n 0 (fun j _ hj g => by have := lf hp hj (by omega); omega) (Nat.zero_le _) (by omega)
theorem at_last {i : Nat} (hi : i < n) : atV n (fst kind first) (lst kind first) (lst kind first i) = (i : Int) := by
  have : n ≤ 60 := by have := hp.2.1.2; omega
  unfold atV; rw [if_pos this]
  exact atF_find ⟨fl hp hi, Int.le_refl _⟩ n 0 (fun j _ hj g => by have := lf hp hj (by omega); have := fl hp hi; omega) (Nat.zero_le _) (by omega)
theorem at_ahead : atV n (fst kind first) (lst kind first) (first - 1) = -1 := by
  have : n ≤ 60 := by have := hp.2.1.2; omega
  unfold atV; rw [if_pos this]
  refine atF_none n 0 (fun j _ hj g => ?_)
  have h0 : first ≤ fst kind first j := by
    cases j with
    | zero => exact Int.le_refl _
    | succ j =>
      have a := lf hp (j := 0) (i := j + 1) (by omega) (by omega)
      have b := fl hp (i := 0) (by omega)
      have e : fst kind first 0 = first := rfl
      omega
  omega
end

theorem ok13 : perOk 3 0 ((13 : Nat) : Int) := by
  have h : ∀ j : Nat, j ≤ 13 → fst 3 0 j = 28 * (j : Int) := by
    intro j
    induction j with
    | zero => intro _; rfl
    | succ j ih =>
      intro hj
      rw [fst_succ]; unfold lst; rw [ih (by omega), p3]; unfold dn; rw [if_pos (by omega)]; push_cast; omega
  refine ⟨by omega, by omega, fun j hj => ?_⟩
  unfold lst; rw [h j (by omega), p3]; unfold dn; rw [if_pos (by omega)]; omega

end Go.Proofs.YtadjdpoplaknkaaDoor
