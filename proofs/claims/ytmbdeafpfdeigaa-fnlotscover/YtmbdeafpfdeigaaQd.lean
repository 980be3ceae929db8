/- Lots that are right, rows of needs and of quantities, sums of them: both sides. -/
import Derived.Test.YtmbdeafpfdeigaaAg
import Derived.Test.YtmbdeafpfdeigaaQa
import Derived.Deep.QuietTactic
namespace Go.Proofs.Ytmbdeafpfdeigaa
open Go Go.ChangeShapes Go.WideShapes Go.ChangeAt Go.RowKit
set_option linter.unusedVariables false
set_option linter.unusedSimpArgs false

theorem isFac_any (d : Int) (w : World) : Calls Try.prog 115 #[.int .i64 d] w fun e w' => e = .returned (.bool (inB d 0 10000000)) ∧ w' = w := by
  go_enter Try.func115, Try.ntmps115
  go_wp2
  all_goals go_ret
  all_goals exact ⟨ret_bool (by unfold inB; rw [Bool.eq_iff_iff]; simp; try omega), rfl⟩
theorem isFac_eq (d : Int) (v : Bool) (w : World) (h : inB d 0 10000000 = v) : Calls Try.prog 115 #[.int .i64 d] w fun e w' => e = .returned (.bool v) ∧ w' = w := by
  subst h; exact isFac_any d w
theorem l1Fac_any (d : Int) (w : World) : Calls Try.prog 120 #[.int .i64 d] w fun e w' => e = .returned (.bool (inB d 0 10000000)) ∧ w' = w := by
  go_enter Try.func120, Try.ntmps120
  go_wp2_with (go_at_call 67; refine (l1In_any _ _ _ _).mono ?_; rintro e w' ⟨rfl, rfl⟩)
  all_goals go_ret
  all_goals exact ⟨rfl, rfl⟩
theorem l1Fac_eq (d : Int) (v : Bool) (w : World) (h : inB d 0 10000000 = v) : Calls Try.prog 120 #[.int .i64 d] w fun e w' => e = .returned (.bool v) ∧ w' = w := by
  subst h; exact l1Fac_any d w

structure LT where
  kind : Int
  size : Int
  setup : Int
  hold : Int
def LT.val (l : LT) : Value := .agg #[.int .i64 l.kind, .int .i64 l.size, .int .i64 l.setup, .int .i64 l.hold]
def ltB (l : LT) : Bool := inB l.kind 1 4 && inB l.size 1 1000000 && inB l.setup 0 10000000 && inB l.hold 0 1000
theorem ltB_p {l : LT} (h : ltB l = true) : (1 ≤ l.kind ∧ l.kind ≤ 4) ∧ (1 ≤ l.size ∧ l.size ≤ 1000000) ∧ (0 ≤ l.setup ∧ l.setup ≤ 10000000) ∧ (0 ≤ l.hold ∧ l.hold ≤ 1000) := by
  unfold ltB at h
  simp only [Bool.and_eq_true] at h
  exact ⟨inB_t h.1.1.1, inB_t h.1.1.2, inB_t h.1.2, inB_t h.2⟩
set_option maxRecDepth 20000 in
set_option maxHeartbeats 4000000 in
theorem toLots_any (l : LT) (w : World) : Calls Try.prog 48 #[l.val] w fun e w' => e = .returned l.val ∧ Below w.heap.size w w' := by
  obtain ⟨ki, sz, su, ho⟩ := l
  unfold LT.val
  go_enter Try.func48, Try.ntmps48
  go_wp2
  go_returns
  exact ⟨rfl, by go_grown⟩
set_option maxRecDepth 20000 in
set_option maxHeartbeats 4000000 in
theorem lotsRight_any (r : LT) (w : World) : Calls Try.prog 73 #[r.val] w fun e w' => e = .returned (.bool (ltB r)) ∧ Below w.heap.size w w' := by
  obtain ⟨ki, sz, su, ho⟩ := r
  unfold LT.val
  by_cases g0 : ki < 1
  · have h1 : inB ki 1 4 = false := decide_eq_false (fun H => by omega)
    have HV : Hid (false = ltB ⟨ki, sz, su, ho⟩) := hid (by simp [ltB, h1])
    go_enter Try.func73, Try.ntmps73
    go_wp2_with (first | (go_at_call 114; refine (isQtyA_eq _ _ _ h2).mono ?_; rintro e w1 ⟨rfl, ew⟩; replace ew := ew.symm; subst ew) | (go_at_call 115; refine (isFac_eq _ _ _ h3).mono ?_; rintro e w1 ⟨rfl, ew⟩; replace ew := ew.symm; subst ew))
    go_returns
    exact ⟨ret_bool HV.out, by go_grown⟩
  by_cases g1 : 4 < ki
  · have h1 : inB ki 1 4 = false := decide_eq_false (fun H => by omega)
    have HV : Hid (false = ltB ⟨ki, sz, su, ho⟩) := hid (by simp [ltB, h1])
    go_enter Try.func73, Try.ntmps73
    go_wp2_with (first | (go_at_call 114; refine (isQtyA_eq _ _ _ h2).mono ?_; rintro e w1 ⟨rfl, ew⟩; replace ew := ew.symm; subst ew) | (go_at_call 115; refine (isFac_eq _ _ _ h3).mono ?_; rintro e w1 ⟨rfl, ew⟩; replace ew := ew.symm; subst ew))
    go_returns
    exact ⟨ret_bool HV.out, by go_grown⟩
  have h1 : inB ki 1 4 = true := inB_y (by omega) (by omega)
  cases h2 : inB sz 1 1000000
  · have HV : Hid (false = ltB ⟨ki, sz, su, ho⟩) := hid (by simp [ltB, h1, h2])
    go_enter Try.func73, Try.ntmps73
    go_wp2_with (first | (go_at_call 114; refine (isQtyA_eq _ _ _ h2).mono ?_; rintro e w1 ⟨rfl, ew⟩; replace ew := ew.symm; subst ew) | (go_at_call 115; refine (isFac_eq _ _ _ h3).mono ?_; rintro e w1 ⟨rfl, ew⟩; replace ew := ew.symm; subst ew))
    go_returns
    exact ⟨ret_bool HV.out, by go_grown⟩
  cases h3 : inB su 0 10000000
  · have HV : Hid (false = ltB ⟨ki, sz, su, ho⟩) := hid (by simp [ltB, h1, h2, h3])
    go_enter Try.func73, Try.ntmps73
    go_wp2_with (first | (go_at_call 114; refine (isQtyA_eq _ _ _ h2).mono ?_; rintro e w1 ⟨rfl, ew⟩; replace ew := ew.symm; subst ew) | (go_at_call 115; refine (isFac_eq _ _ _ h3).mono ?_; rintro e w1 ⟨rfl, ew⟩; replace ew := ew.symm; subst ew))
    go_returns
    exact ⟨ret_bool HV.out, by go_grown⟩
  by_cases g7 : 0 ≤ ho
  rotate_left
  · have h4 : inB ho 0 1000 = false := decide_eq_false (fun H => g7 H.1)
    have HV : Hid (false = ltB ⟨ki, sz, su, ho⟩) := hid (by simp [ltB, h1, h2, h3, h4])
    go_enter Try.func73, Try.ntmps73
    go_wp2_with (first | (go_at_call 114; refine (isQtyA_eq _ _ _ h2).mono ?_; rintro e w1 ⟨rfl, ew⟩; replace ew := ew.symm; subst ew) | (go_at_call 115; refine (isFac_eq _ _ _ h3).mono ?_; rintro e w1 ⟨rfl, ew⟩; replace ew := ew.symm; subst ew))
    go_returns
    exact ⟨ret_bool HV.out, by go_grown⟩
  by_cases g8 : ho ≤ 1000
  rotate_left
  · have h4 : inB ho 0 1000 = false := decide_eq_false (fun H => g8 H.2)
    have h8 : decide (ho ≤ 1000) = false := decide_eq_false g8
    have HV : Hid (false = ltB ⟨ki, sz, su, ho⟩) := hid (by simp [ltB, h1, h2, h3, h4])
    go_enter Try.func73, Try.ntmps73
    go_wp2_with (first | (go_at_call 114; refine (isQtyA_eq _ _ _ h2).mono ?_; rintro e w1 ⟨rfl, ew⟩; replace ew := ew.symm; subst ew) | (go_at_call 115; refine (isFac_eq _ _ _ h3).mono ?_; rintro e w1 ⟨rfl, ew⟩; replace ew := ew.symm; subst ew))
    go_returns
    exact ⟨ret_bool HV.out, by go_grown⟩
  have h4 : inB ho 0 1000 = true := inB_y g7 g8
  have h8 : decide (ho ≤ 1000) = true := decide_eq_true g8
  have HV : Hid (true = ltB ⟨ki, sz, su, ho⟩) := hid (by simp [ltB, h1, h2, h3, h4])
  go_enter Try.func73, Try.ntmps73
  go_wp2_with (first | (go_at_call 114; refine (isQtyA_eq _ _ _ h2).mono ?_; rintro e w1 ⟨rfl, ew⟩; replace ew := ew.symm; subst ew) | (go_at_call 115; refine (isFac_eq _ _ _ h3).mono ?_; rintro e w1 ⟨rfl, ew⟩; replace ew := ew.symm; subst ew))
  go_returns
  exact ⟨ret_bool HV.out, by go_grown⟩
theorem lotsRight_eq (r : LT) (v : Bool) (w : World) (h : ltB r = v) : Calls Try.prog 73 #[r.val] w fun e w' => e = .returned (.bool v) ∧ Below w.heap.size w w' := by
  subst h; exact lotsRight_any r w
set_option maxRecDepth 20000 in
set_option maxHeartbeats 4000000 in
theorem l18Lots_any (r : LT) (w : World) : Calls Try.prog 81 #[r.val] w fun e w' => e = .returned (.bool (ltB r)) ∧ Below w.heap.size w w' := by
  obtain ⟨ki, sz, su, ho⟩ := r
  unfold LT.val
  cases h1 : inB ki 1 4
  · have HV : Hid (false = ltB ⟨ki, sz, su, ho⟩) := hid (by simp [ltB, h1])
    go_enter Try.func81, Try.ntmps81
    go_wp2_with (first | (go_at_call_of 67 ki; refine (l1In_eq _ _ _ _ _ h1).mono ?_; rintro e w1 ⟨rfl, ew⟩; replace ew := ew.symm; subst ew) | (go_at_call_of 67 sz; refine (l1In_eq _ _ _ _ _ h2).mono ?_; rintro e w1 ⟨rfl, ew⟩; replace ew := ew.symm; subst ew) | (go_at_call 120; refine (l1Fac_eq _ _ _ h3).mono ?_; rintro e w1 ⟨rfl, ew⟩; replace ew := ew.symm; subst ew) | (go_at_call_of 67 ho; refine (l1In_eq _ _ _ _ _ h4).mono ?_; rintro e w1 ⟨rfl, ew⟩; replace ew := ew.symm; subst ew))
    go_returns
    exact ⟨ret_bool HV.out, by go_grown⟩
  cases h2 : inB sz 1 1000000
  · have HV : Hid (false = ltB ⟨ki, sz, su, ho⟩) := hid (by simp [ltB, h1, h2])
    go_enter Try.func81, Try.ntmps81
    go_wp2_with (first | (go_at_call_of 67 ki; refine (l1In_eq _ _ _ _ _ h1).mono ?_; rintro e w1 ⟨rfl, ew⟩; replace ew := ew.symm; subst ew) | (go_at_call_of 67 sz; refine (l1In_eq _ _ _ _ _ h2).mono ?_; rintro e w1 ⟨rfl, ew⟩; replace ew := ew.symm; subst ew) | (go_at_call 120; refine (l1Fac_eq _ _ _ h3).mono ?_; rintro e w1 ⟨rfl, ew⟩; replace ew := ew.symm; subst ew) | (go_at_call_of 67 ho; refine (l1In_eq _ _ _ _ _ h4).mono ?_; rintro e w1 ⟨rfl, ew⟩; replace ew := ew.symm; subst ew))
    go_returns
    exact ⟨ret_bool HV.out, by go_grown⟩
  cases h3 : inB su 0 10000000
  · have HV : Hid (false = ltB ⟨ki, sz, su, ho⟩) := hid (by simp [ltB, h1, h2, h3])
    go_enter Try.func81, Try.ntmps81
    go_wp2_with (first | (go_at_call_of 67 ki; refine (l1In_eq _ _ _ _ _ h1).mono ?_; rintro e w1 ⟨rfl, ew⟩; replace ew := ew.symm; subst ew) | (go_at_call_of 67 sz; refine (l1In_eq _ _ _ _ _ h2).mono ?_; rintro e w1 ⟨rfl, ew⟩; replace ew := ew.symm; subst ew) | (go_at_call 120; refine (l1Fac_eq _ _ _ h3).mono ?_; rintro e w1 ⟨rfl, ew⟩; replace ew := ew.symm; subst ew) | (go_at_call_of 67 ho; refine (l1In_eq _ _ _ _ _ h4).mono ?_; rintro e w1 ⟨rfl, ew⟩; replace ew := ew.symm; subst ew))
    go_returns
    exact ⟨ret_bool HV.out, by go_grown⟩
  cases h4 : inB ho 0 1000
  · have HV : Hid (false = ltB ⟨ki, sz, su, ho⟩) := hid (by simp [ltB, h1, h2, h3, h4])
    go_enter Try.func81, Try.ntmps81
    go_wp2_with (first | (go_at_call_of 67 ki; refine (l1In_eq _ _ _ _ _ h1).mono ?_; rintro e w1 ⟨rfl, ew⟩; replace ew := ew.symm; subst ew) | (go_at_call_of 67 sz; refine (l1In_eq _ _ _ _ _ h2).mono ?_; rintro e w1 ⟨rfl, ew⟩; replace ew := ew.symm; subst ew) | (go_at_call 120; refine (l1Fac_eq _ _ _ h3).mono ?_; rintro e w1 ⟨rfl, ew⟩; replace ew := ew.symm; subst ew) | (go_at_call_of 67 ho; refine (l1In_eq _ _ _ _ _ h4).mono ?_; rintro e w1 ⟨rfl, ew⟩; replace ew := ew.symm; subst ew))
    go_returns
    exact ⟨ret_bool HV.out, by go_grown⟩
  have HV : Hid (true = ltB ⟨ki, sz, su, ho⟩) := hid (by simp [ltB, h1, h2, h3, h4])
  go_enter Try.func81, Try.ntmps81
  go_wp2_with (first | (go_at_call_of 67 ki; refine (l1In_eq _ _ _ _ _ h1).mono ?_; rintro e w1 ⟨rfl, ew⟩; replace ew := ew.symm; subst ew) | (go_at_call_of 67 sz; refine (l1In_eq _ _ _ _ _ h2).mono ?_; rintro e w1 ⟨rfl, ew⟩; replace ew := ew.symm; subst ew) | (go_at_call 120; refine (l1Fac_eq _ _ _ h3).mono ?_; rintro e w1 ⟨rfl, ew⟩; replace ew := ew.symm; subst ew) | (go_at_call_of 67 ho; refine (l1In_eq _ _ _ _ _ h4).mono ?_; rintro e w1 ⟨rfl, ew⟩; replace ew := ew.symm; subst ew))
  go_returns
  exact ⟨ret_bool HV.out, by go_grown⟩
theorem l18Lots_eq (r : LT) (v : Bool) (w : World) (h : ltB r = v) : Calls Try.prog 81 #[r.val] w fun e w' => e = .returned (.bool v) ∧ Below w.heap.size w w' := by
  subst h; exact l18Lots_any r w

/-- Needs of 1 to 40 buckets. -/
def nqB (z : Nat → Int) (n : Nat) : Bool := inB (n : Int) 1 40 && rgB 1000000 z n
theorem nqB_p {z : Nat → Int} {n : Nat} (h : nqB z n = true) : 1 ≤ n ∧ n ≤ 40 ∧ ∀ j, j < n → 0 ≤ z j ∧ z j ≤ 1000000 := by
  unfold nqB at h
  simp only [Bool.and_eq_true] at h
  have := inB_t h.1
  exact ⟨by omega, by omega, rgB_p n h.2⟩
theorem nqB_congr {z y : Nat → Int} {n : Nat} (h : ∀ j, j < n → z j = y j) : nqB z n = nqB y n := by unfold nqB; rw [rgB_congr n h]
set_option maxRecDepth 20000 in
set_option maxHeartbeats 2000000 in
theorem areNeeds_eq (ad : Option Addr) (len cap : Nat) (z : Nat → Int) (v : Bool) (w : World) (h : (len : Int) ≤ 1048576) (hr : IR w ad len z) (hv : nqB z len = v) : Calls Try.prog 74 #[.slice ad len cap] w fun e w' => e = .returned (.bool v) ∧ Below w.heap.size w w' := by
  obtain ⟨x, hx⟩ : ∃ x, rgB 1000000 z len = x := ⟨_, rfl⟩
  have HC : Hid (Calls Try.prog 62 #[.slice ad len cap, .func (.func 76) #[] #[]] w fun e w' => e = .returned (.bool x) ∧ Below w.heap.size w w') := allQt_eq ad len cap z x w h hr hx
  by_cases g1 : 1 ≤ (len : Int)
  rotate_left
  · have HV : Hid (false = v) := hid (by rw [← hv]; unfold nqB; rw [show inB (len : Int) 1 40 = false from decide_eq_false (fun H => g1 H.1)]; rfl)
    clear HC hv hr hx
    go_enter Try.func74, Try.ntmps74
    go_wp2
    go_returns
    exact ⟨ret_bool HV.out, Below.refl _ _⟩
  by_cases g2 : (len : Int) ≤ 40
  rotate_left
  · have HV : Hid (false = v) := hid (by rw [← hv]; unfold nqB; rw [show inB (len : Int) 1 40 = false from decide_eq_false (fun H => g2 H.2)]; rfl)
    clear HC hv hr hx
    go_enter Try.func74, Try.ntmps74
    go_wp2
    go_returns
    exact ⟨ret_bool HV.out, Below.refl _ _⟩
  have HV : Hid (x = v) := hid (by rw [← hv]; unfold nqB; rw [inB_y g1 g2, hx]; rfl)
  clear hv hr hx
  go_enter Try.func74, Try.ntmps74
  go_wp2_with (go_at_call 62; refine HC.out.mono ?_; rintro e w1 ⟨rfl, b1⟩; have HB1 : Hid (Below w.heap.size w w1) := b1; clear b1)
  go_returns
  exact ⟨ret_bool HV.out, HB1.out⟩
set_option maxRecDepth 20000 in
set_option maxHeartbeats 2000000 in
theorem areQtys_eq (n : Nat) (ad : Option Addr) (len cap : Nat) (z : Nat → Int) (v : Bool) (w : World) (hn : (n : Int) ≤ 1048576) (h : (len : Int) ≤ 1048576) (hr : IR w ad len z) (hv : (decide (len = n) && rgB 1000000 z len) = v) : Calls Try.prog 85 #[.int .i64 (n : Int), .slice ad len cap] w fun e w' => e = .returned (.bool v) ∧ Below w.heap.size w w' := by
  obtain ⟨x, hx⟩ : ∃ x, rgB 1000000 z len = x := ⟨_, rfl⟩
  have HC : Hid (Calls Try.prog 62 #[.slice ad len cap, .func (.func 76) #[] #[]] w fun e w' => e = .returned (.bool x) ∧ Below w.heap.size w w') := allQt_eq ad len cap z x w h hr hx
  by_cases g : len = n
  · subst g
    have HV : Hid (x = v) := hid (by rw [← hv, hx]; simp)
    clear hv hr hx
    go_enter Try.func85, Try.ntmps85
    go_wp2_with (go_at_call 62; refine HC.out.mono ?_; rintro e w1 ⟨rfl, b1⟩; have HB1 : Hid (Below w.heap.size w w1) := b1; clear b1)
    go_returns
    exact ⟨ret_bool HV.out, HB1.out⟩
  · have HV : Hid (false = v) := hid (by rw [← hv, decide_eq_false g]; rfl)
    have g1 : ¬ (len : Int) = (n : Int) := by omega
    have g2 : ((len : Int) == (n : Int)) = false := by simp; omega
    clear hv hr hx HC
    go_enter Try.func85, Try.ntmps85
    go_wp2
    go_returns
    exact ⟨ret_bool HV.out, Below.refl _ _⟩
set_option maxRecDepth 20000 in
set_option maxHeartbeats 2000000 in
theorem l18List_eq (ad : Option Addr) (len cap : Nat) (z : Nat → Int) (v : Bool) (w : World) (h : (len : Int) ≤ 1048576) (hr : IR w ad len z) (hv : nqB z len = v) : Calls Try.prog 82 #[.slice ad len cap] w fun e w' => e = .returned (.bool v) ∧ Below w.heap.size w w' := by
  subst hv
  have HR : Hid (IR w ad len z) := hr
  clear hr
  cases g1 : inB (len : Int) 1 40
  · have HV : Hid (false = nqB z len) := hid (by unfold nqB; rw [g1]; rfl)
    go_enter Try.func82, Try.ntmps82
    go_wp2_with (go_at_call 67; refine (l1In_eq _ _ _ _ _ g1).mono ?_; rintro e w1 ⟨rfl, ew⟩; replace ew := ew.symm; subst ew)
    go_returns
    exact ⟨ret_bool HV.out, Below.refl _ _⟩
  have HV : Hid (rgB 1000000 z len = nqB z len) := hid (by unfold nqB; rw [g1]; rfl)
  go_enter Try.func82, Try.ntmps82
  go_wp2_with (go_at_call 67; refine (l1In_eq _ _ _ _ _ g1).mono ?_; rintro e w1 ⟨rfl, ew⟩; replace ew := ew.symm; subst ew)
  clear g1
  go_loopw [3] (fun i wr => ∃ k : Nat, k ≤ len ∧ i = .int .i64 (k : Int) ∧ Hid (∀ j, j < k → inB (z j) 0 1000000 = true) ∧ Hid (Below w.heap.size w wr)) (fun i _ => len - (intOf i).toNat)
  case atStart => exact ⟨0, Nat.zero_le _, rfl, fun j hj => by omega, Below.refl _ _⟩
  case round =>
    obtain ⟨k, hk, rfl, hP, HB⟩ := hrel
    by_cases hlt : k < len
    · have hlt2 : (k : Int) < (len : Int) := by omega
      obtain ⟨kb, off, rfl, _⟩ := HR.out.addr (by omega)
      have c0 := (HR.out.below HB.out).cell hlt
      obtain ⟨x, hx⟩ : ∃ x, z k = x := ⟨_, rfl⟩
      have HXE : Hid (z k = x) := hx
      rw [hx] at c0
      clear hx
      cases g : inB x 0 1000000
      · have HF : Hid (false = nqB z len) := hid (by rw [← HV.out, rgB_f len hlt (by rw [HXE.out]; exact g)])
        go_wp2_with (go_at_call 96; refine (l12Qty_eq x _ _ g).mono ?_; rintro e w1 ⟨rfl, ew⟩; replace ew := ew.symm; subst ew)
        go_returns
        exact ⟨ret_bool HF.out, HB.out⟩
      · have HF : Hid (∀ j, j < k + 1 → inB (z j) 0 1000000 = true) := hid (fun j hj => by
          by_cases q : j = k
          · subst q; rw [HXE.out]; exact g
          · exact hP.out j (by omega))
        go_wp2_with (go_at_call 96; refine (l12Qty_eq x _ _ g).mono ?_; rintro e w1 ⟨rfl, ew⟩; replace ew := ew.symm; subst ew)
        go_roundw
        case rel => exact ⟨k + 1, by omega, by go_num, HF, HB⟩
        case measure => simp [intOf]; omega
    · obtain rfl : k = len := by omega
      have lkk : ¬ (k : Int) < (k : Int) := by omega
      have HF : Hid (true = nqB z k) := hid (by rw [← HV.out, rgB_t k hP.out])
      go_wp2
      go_returns
      exact ⟨ret_bool HF.out, HB.out⟩
/-- Numbers whose sums fit. -/
def SmB (z : Nat → Int) (n : Nat) : Prop := n ≤ 40 ∧ ∀ j, j < n → -100000000 ≤ z j ∧ z j ≤ 100000000
theorem smB_bd {z : Nat → Int} {n : Nat} (h : SmB z n) : ∀ k, k ≤ n → -100000000 * (k : Int) ≤ smQ z k ∧ smQ z k ≤ 100000000 * (k : Int)
  | 0, _ => by simp [smQ]
  | k + 1, hk => by
    have ih := smB_bd h k (by omega)
    have := h.2 k (by omega)
    rw [smQ_s]
    omega
set_option maxRecDepth 20000 in
set_option maxHeartbeats 2000000 in
theorem sum_any (ad : Option Addr) (len cap : Nat) (z : Nat → Int) (w : World) (hb : SmB z len) (hr : IR w ad len z) : Calls Try.prog 87 #[.slice ad len cap] w fun e w' => e = .returned (.int .i64 (smQ z len)) ∧ w' = w := by
  have HR : Hid (IR w ad len z) := hr
  have HS : Hid (SmB z len) := hb
  have h40 : (len : Int) ≤ 40 := by have := hb.1; omega
  clear hr hb
  go_enter Try.func87, Try.ntmps87
  go_wp2
  go_loopw [3, 8] (fun a i wr => ∃ k : Nat, k ≤ len ∧ a = .int .i64 (smQ z k) ∧ i = .int .i64 (k : Int) ∧ wr = w) (fun _ i _ => len - (intOf i).toNat)
  case atStart => exact ⟨0, Nat.zero_le _, rfl, rfl, by first | rfl | trivial⟩
  case round =>
    obtain ⟨k, hk, rfl, rfl, rfl⟩ := hrel
    by_cases hlt : k < len
    · have hlt2 : (k : Int) < (len : Int) := by omega
      obtain ⟨kb, off, rfl, _⟩ := HR.out.addr (by omega)
      have c0 := HR.out.cell hlt
      have hb0 := smB_bd HS.out k (by omega)
      have hb1 := smB_bd HS.out (k + 1) (by omega)
      have e1 : smQ z (k + 1) = smQ z k + z k := rfl
      have HE : Hid (smQ z (k + 1) = smQ z k + z k) := rfl
      have hw1 : IntKind.i64.wrap (smQ z k + z k) = smQ z k + z k := IntWalk.i64_in _ ⟨by omega, by omega⟩
      clear hb0 hb1 e1
      generalize z k = x at *
      generalize smQ z k = s at *
      go_wp2
      go_roundw
      case rel => exact ⟨k + 1, by omega, by rw [HE.out], by go_num, by first | rfl | trivial⟩
      case measure => simp [intOf]; omega
    · obtain rfl : k = len := by omega
      have lkk : ¬ (k : Int) < (k : Int) := by omega
      go_wp2
      go_returns
      exact ⟨rfl, rfl⟩
end Go.Proofs.Ytmbdeafpfdeigaa
