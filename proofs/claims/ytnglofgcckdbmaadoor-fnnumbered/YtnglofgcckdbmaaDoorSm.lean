/- Small tests of quantities, prices, places, amounts and days, in the program and in the model. -/
import Derived.Test.YtnglofgcckdbmaaDoorNm
import Derived.Test.YtnglofgcckdbmaaDoorIr
import Derived.Outline
namespace Go.Proofs.YtnglofgcckdbmaaDoor
open Go.ChangeShapes Go.WideShapes Go.ChangeAt Go.RowKit
set_option linter.unusedVariables false
set_option linter.unusedSimpArgs false

theorem hid {P : Prop} (h : P) : Hid P := h
def inB (x lo hi : Int) : Bool := decide (lo ≤ x ∧ x ≤ hi)
theorem inB_t {x lo hi : Int} (h : inB x lo hi = true) : lo ≤ x ∧ x ≤ hi := of_decide_eq_true h
theorem inB_f {x lo hi : Int} (h : inB x lo hi = false) : ¬ (lo ≤ x ∧ x ≤ hi) := of_decide_eq_false h
theorem inB_y {x lo hi : Int} (h1 : lo ≤ x) (h2 : x ≤ hi) : inB x lo hi = true := decide_eq_true ⟨h1, h2⟩
theorem bd_N {n : Nat} {A W : World} (h : Below n A W) (q : Nat) : Below n A (W.drewN q) := ⟨h.os, h.tape, h.output, h.size, h.block⟩
theorem ret_i {a b : Int} (h : a = b) : Ending.returned (.int .i64 a) = .returned (.int .i64 b) := by rw [h]

theorem isDay_any (d : Int) (w : World) : Calls Tryd.prog 60 #[.int .i64 d] w fun e w' => e = .returned (.bool (inB d (0) 40000)) ∧ w' = w := by
  go_enter Tryd.func60, Tryd.ntmps60
  go_wp2
  all_goals go_ret
  all_goals exact ⟨ret_bool (by unfold inB; rw [Bool.eq_iff_iff]; simp; try omega), rfl⟩
theorem isDay_eq (d : Int) (v : Bool) (w : World) (h : inB d (0) 40000 = v) : Calls Tryd.prog 60 #[.int .i64 d] w fun e w' => e = .returned (.bool v) ∧ w' = w := by
  subst h; exact isDay_any d w
theorem isAmt_any (d : Int) (w : World) : Calls Tryd.prog 76 #[.int .i64 d] w fun e w' => e = .returned (.bool (inB d (-100000000000) 100000000000)) ∧ w' = w := by
  go_enter Tryd.func76, Tryd.ntmps76
  go_wp2
  all_goals go_ret
  all_goals exact ⟨ret_bool (by unfold inB; rw [Bool.eq_iff_iff]; simp; try omega), rfl⟩
theorem isAmt_eq (d : Int) (v : Bool) (w : World) (h : inB d (-100000000000) 100000000000 = v) : Calls Tryd.prog 76 #[.int .i64 d] w fun e w' => e = .returned (.bool v) ∧ w' = w := by
  subst h; exact isAmt_any d w
theorem isAmtA_any (d : Int) (w : World) : Calls Tryd.prog 61 #[.int .i64 d] w fun e w' => e = .returned (.bool (inB d (1) 100000000000)) ∧ w' = w := by
  go_enter Tryd.func61, Tryd.ntmps61
  go_wp2
  all_goals go_ret
  all_goals exact ⟨ret_bool (by unfold inB; rw [Bool.eq_iff_iff]; simp; try omega), rfl⟩
theorem isAmtA_eq (d : Int) (v : Bool) (w : World) (h : inB d (1) 100000000000 = v) : Calls Tryd.prog 61 #[.int .i64 d] w fun e w' => e = .returned (.bool v) ∧ w' = w := by
  subst h; exact isAmtA_any d w
theorem l1In_any (x lo hi : Int) (w : World) : Calls Tryd.prog 29 #[.int .i64 x, .int .i64 lo, .int .i64 hi] w fun e w' => e = .returned (.bool (inB x lo hi)) ∧ w' = w := by
  go_enter Tryd.func29, Tryd.ntmps29
  go_wp2
  all_goals go_ret
  all_goals exact ⟨ret_bool (by unfold inB; rw [Bool.eq_iff_iff]; simp; try omega), rfl⟩
theorem l1In_eq (x lo hi : Int) (v : Bool) (w : World) (h : inB x lo hi = v) : Calls Tryd.prog 29 #[.int .i64 x, .int .i64 lo, .int .i64 hi] w fun e w' => e = .returned (.bool v) ∧ w' = w := by
  subst h; exact l1In_any x lo hi w
theorem l2Day_any (d : Int) (w : World) : Calls Tryd.prog 35 #[.int .i64 d] w fun e w' => e = .returned (.bool (inB d (0) 40000)) ∧ w' = w := by
  go_enter Tryd.func35, Tryd.ntmps35
  go_wp2_with (go_at_call 29; refine (l1In_any _ _ _ _).mono ?_; rintro e w' ⟨rfl, rfl⟩)
  all_goals go_ret
  all_goals exact ⟨rfl, rfl⟩
theorem l2Day_eq (d : Int) (v : Bool) (w : World) (h : inB d (0) 40000 = v) : Calls Tryd.prog 35 #[.int .i64 d] w fun e w' => e = .returned (.bool v) ∧ w' = w := by
  subst h; exact l2Day_any d w
theorem l1Amt_any (d : Int) (w : World) : Calls Tryd.prog 37 #[.int .i64 d] w fun e w' => e = .returned (.bool (inB d (-100000000000) 100000000000)) ∧ w' = w := by
  go_enter Tryd.func37, Tryd.ntmps37
  go_wp2_with (go_at_call 29; refine (l1In_any _ _ _ _).mono ?_; rintro e w' ⟨rfl, rfl⟩)
  all_goals go_ret
  all_goals exact ⟨rfl, rfl⟩
theorem l1Amt_eq (d : Int) (v : Bool) (w : World) (h : inB d (-100000000000) 100000000000 = v) : Calls Tryd.prog 37 #[.int .i64 d] w fun e w' => e = .returned (.bool v) ∧ w' = w := by
  subst h; exact l1Amt_any d w
end Go.Proofs.YtnglofgcckdbmaaDoor

