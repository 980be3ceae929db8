/- Small tests of quantities, prices, places, amounts and days, in the program and in the model. -/
import Derived.Test.YtlhgmdmbjpaakaaDoorNm
import Derived.Test.YtlhgmdmbjpaakaaDoorIr
import Derived.Outline
namespace Go.Proofs.YtlhgmdmbjpaakaaDoor
open Go.ChangeShapes Go.WideShapes Go.ChangeAt Go.RowKit
set_option linter.unusedVariables false
set_option linter.unusedSimpArgs false

theorem hid {P : Prop} (h : P) : Hid P := h
def inB (x lo hi : Int) : Bool := decide (lo ≤ x ∧ x ≤ hi)
theorem inB_t {x lo hi : Int} (h : inB x lo hi = true) : lo ≤ x ∧ x ≤ hi := of_decide_eq_true h
theorem inB_f {x lo hi : Int} (h : inB x lo hi = false) : ¬ (lo ≤ x ∧ x ≤ hi) := of_decide_eq_false h
theorem inB_y {x lo hi : Int} (h1 : lo ≤ x) (h2 : x ≤ hi) : inB x lo hi = true := decide_eq_true ⟨h1, h2⟩
theorem bd_N {n : Nat} {A W : World} (h : Below n A W) (q : Nat) : Below n A (W.drewN q) := ⟨h.os, h.tape, h.output, h.size, h.block⟩
theorem ret_i {a b : Int} (h : a = b) : Ending.returned (.int .i64 a) = .returned (.int .i64 b) := by rw [h]

theorem isDay_any (d : Int) (w : World) : Calls Tryd.prog 18 #[.int .i64 d] w fun e w' => e = .returned (.bool (inB d (0) 40000)) ∧ w' = w := by
  go_enter Tryd.func18, Tryd.ntmps18
  go_wp2
  all_goals go_ret
  all_goals exact ⟨ret_bool (by unfold inB; rw [Bool.eq_iff_iff]; simp; try omega), rfl⟩
theorem isDay_eq (d : Int) (v : Bool) (w : World) (h : inB d (0) 40000 = v) : Calls Tryd.prog 18 #[.int .i64 d] w fun e w' => e = .returned (.bool v) ∧ w' = w := by
  subst h; exact isDay_any d w
theorem isRate_any (d : Int) (w : World) : Calls Tryd.prog 15 #[.int .i64 d] w fun e w' => e = .returned (.bool (inB d (0) 100000)) ∧ w' = w := by
  go_enter Tryd.func15, Tryd.ntmps15
  go_wp2
  all_goals go_ret
  all_goals exact ⟨ret_bool (by unfold inB; rw [Bool.eq_iff_iff]; simp; try omega), rfl⟩
theorem isRate_eq (d : Int) (v : Bool) (w : World) (h : inB d (0) 100000 = v) : Calls Tryd.prog 15 #[.int .i64 d] w fun e w' => e = .returned (.bool v) ∧ w' = w := by
  subst h; exact isRate_any d w
theorem isAmt_any (d : Int) (w : World) : Calls Tryd.prog 32 #[.int .i64 d] w fun e w' => e = .returned (.bool (inB d (-100000000000) 100000000000)) ∧ w' = w := by
  go_enter Tryd.func32, Tryd.ntmps32
  go_wp2
  all_goals go_ret
  all_goals exact ⟨ret_bool (by unfold inB; rw [Bool.eq_iff_iff]; simp; try omega), rfl⟩
theorem isAmt_eq (d : Int) (v : Bool) (w : World) (h : inB d (-100000000000) 100000000000 = v) : Calls Tryd.prog 32 #[.int .i64 d] w fun e w' => e = .returned (.bool v) ∧ w' = w := by
  subst h; exact isAmt_any d w
theorem isAmtA_any (d : Int) (w : World) : Calls Tryd.prog 14 #[.int .i64 d] w fun e w' => e = .returned (.bool (inB d (1) 100000000000)) ∧ w' = w := by
  go_enter Tryd.func14, Tryd.ntmps14
  go_wp2
  all_goals go_ret
  all_goals exact ⟨ret_bool (by unfold inB; rw [Bool.eq_iff_iff]; simp; try omega), rfl⟩
theorem isAmtA_eq (d : Int) (v : Bool) (w : World) (h : inB d (1) 100000000000 = v) : Calls Tryd.prog 14 #[.int .i64 d] w fun e w' => e = .returned (.bool v) ∧ w' = w := by
  subst h; exact isAmtA_any d w
theorem l1In_any (x lo hi : Int) (w : World) : Calls Tryd.prog 26 #[.int .i64 x, .int .i64 lo, .int .i64 hi] w fun e w' => e = .returned (.bool (inB x lo hi)) ∧ w' = w := by
  go_enter Tryd.func26, Tryd.ntmps26
  go_wp2
  all_goals go_ret
  all_goals exact ⟨ret_bool (by unfold inB; rw [Bool.eq_iff_iff]; simp; try omega), rfl⟩
theorem l1In_eq (x lo hi : Int) (v : Bool) (w : World) (h : inB x lo hi = v) : Calls Tryd.prog 26 #[.int .i64 x, .int .i64 lo, .int .i64 hi] w fun e w' => e = .returned (.bool v) ∧ w' = w := by
  subst h; exact l1In_any x lo hi w
theorem l2Day_any (d : Int) (w : World) : Calls Tryd.prog 54 #[.int .i64 d] w fun e w' => e = .returned (.bool (inB d (0) 40000)) ∧ w' = w := by
  go_enter Tryd.func54, Tryd.ntmps54
  go_wp2_with (go_at_call 26; refine (l1In_any _ _ _ _).mono ?_; rintro e w' ⟨rfl, rfl⟩)
  all_goals go_ret
  all_goals exact ⟨rfl, rfl⟩
theorem l2Day_eq (d : Int) (v : Bool) (w : World) (h : inB d (0) 40000 = v) : Calls Tryd.prog 54 #[.int .i64 d] w fun e w' => e = .returned (.bool v) ∧ w' = w := by
  subst h; exact l2Day_any d w
theorem l1Amt_any (d : Int) (w : World) : Calls Tryd.prog 51 #[.int .i64 d] w fun e w' => e = .returned (.bool (inB d (-100000000000) 100000000000)) ∧ w' = w := by
  go_enter Tryd.func51, Tryd.ntmps51
  go_wp2_with (go_at_call 26; refine (l1In_any _ _ _ _).mono ?_; rintro e w' ⟨rfl, rfl⟩)
  all_goals go_ret
  all_goals exact ⟨rfl, rfl⟩
theorem l1Amt_eq (d : Int) (v : Bool) (w : World) (h : inB d (-100000000000) 100000000000 = v) : Calls Tryd.prog 51 #[.int .i64 d] w fun e w' => e = .returned (.bool v) ∧ w' = w := by
  subst h; exact l1Amt_any d w
theorem l13Rate_any (d : Int) (w : World) : Calls Tryd.prog 27 #[.int .i64 d] w fun e w' => e = .returned (.bool (inB d (0) 100000)) ∧ w' = w := by
  go_enter Tryd.func27, Tryd.ntmps27
  go_wp2_with (go_at_call 26; refine (l1In_any _ _ _ _).mono ?_; rintro e w' ⟨rfl, rfl⟩)
  all_goals go_ret
  all_goals exact ⟨rfl, rfl⟩
theorem l13Rate_eq (d : Int) (v : Bool) (w : World) (h : inB d (0) 100000 = v) : Calls Tryd.prog 27 #[.int .i64 d] w fun e w' => e = .returned (.bool v) ∧ w' = w := by
  subst h; exact l13Rate_any d w
end Go.Proofs.YtlhgmdmbjpaakaaDoor
