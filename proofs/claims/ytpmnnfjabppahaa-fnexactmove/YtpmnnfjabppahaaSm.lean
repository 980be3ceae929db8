/- Small tests of quantities, prices, places, amounts and days, in the program and in the model. -/
import Derived.Test.YtpmnnfjabppahaaNm
import Derived.Test.YtpmnnfjabppahaaIr
import Derived.Outline
namespace Go.Proofs.Ytpmnnfjabppahaa
open Go.ChangeShapes Go.WideShapes Go.ChangeAt Go.RowKit
set_option linter.unusedVariables false
set_option linter.unusedSimpArgs false

theorem hid {P : Prop} (h : P) : Hid P := h
def inB (x lo hi : Int) : Bool := decide (lo ≤ x ∧ x ≤ hi)
theorem inB_t {x lo hi : Int} (h : inB x lo hi = true) : lo ≤ x ∧ x ≤ hi := of_decide_eq_true h
theorem inB_f {x lo hi : Int} (h : inB x lo hi = false) : ¬ (lo ≤ x ∧ x ≤ hi) := of_decide_eq_false h
theorem inB_y {x lo hi : Int} (h1 : lo ≤ x) (h2 : x ≤ hi) : inB x lo hi = true := decide_eq_true ⟨h1, h2⟩
theorem bd_N {n : Nat} {A W : World} (h : Below n A W) (q : Nat) : Below n A (W.drewN q) := ⟨h.os, h.tape, h.output, h.size, h.block⟩
theorem ret_i {a b : Int} (h : a = b) : Ending.returned (.int .i64 a) = .returned (.int .i64 b) := by rw [h]

theorem isDay_any (d : Int) (w : World) : Calls Try.prog 73 #[.int .i64 d] w fun e w' => e = .returned (.bool (inB d (0) 40000)) ∧ w' = w := by
  go_enter Try.func73, Try.ntmps73
  go_wp2
  all_goals go_ret
  all_goals exact ⟨ret_bool (by unfold inB; rw [Bool.eq_iff_iff]; simp; try omega), rfl⟩
theorem isDay_eq (d : Int) (v : Bool) (w : World) (h : inB d (0) 40000 = v) : Calls Try.prog 73 #[.int .i64 d] w fun e w' => e = .returned (.bool v) ∧ w' = w := by
  subst h; exact isDay_any d w
theorem isQty_any (d : Int) (w : World) : Calls Try.prog 85 #[.int .i64 d] w fun e w' => e = .returned (.bool (inB d (0) 1000000)) ∧ w' = w := by
  go_enter Try.func85, Try.ntmps85
  go_wp2
  all_goals go_ret
  all_goals exact ⟨ret_bool (by unfold inB; rw [Bool.eq_iff_iff]; simp; try omega), rfl⟩
theorem isQty_eq (d : Int) (v : Bool) (w : World) (h : inB d (0) 1000000 = v) : Calls Try.prog 85 #[.int .i64 d] w fun e w' => e = .returned (.bool v) ∧ w' = w := by
  subst h; exact isQty_any d w
theorem isQtyA_any (d : Int) (w : World) : Calls Try.prog 72 #[.int .i64 d] w fun e w' => e = .returned (.bool (inB d (1) 1000000)) ∧ w' = w := by
  go_enter Try.func72, Try.ntmps72
  go_wp2
  all_goals go_ret
  all_goals exact ⟨ret_bool (by unfold inB; rw [Bool.eq_iff_iff]; simp; try omega), rfl⟩
theorem isQtyA_eq (d : Int) (v : Bool) (w : World) (h : inB d (1) 1000000 = v) : Calls Try.prog 72 #[.int .i64 d] w fun e w' => e = .returned (.bool v) ∧ w' = w := by
  subst h; exact isQtyA_any d w
theorem isCN_any (d : Int) (w : World) : Calls Try.prog 158 #[.int .i64 d] w fun e w' => e = .returned (.bool (inB d (1) 10000)) ∧ w' = w := by
  go_enter Try.func158, Try.ntmps158
  go_wp2
  all_goals go_ret
  all_goals exact ⟨ret_bool (by unfold inB; rw [Bool.eq_iff_iff]; simp; try omega), rfl⟩
theorem isCN_eq (d : Int) (v : Bool) (w : World) (h : inB d (1) 10000 = v) : Calls Try.prog 158 #[.int .i64 d] w fun e w' => e = .returned (.bool v) ∧ w' = w := by
  subst h; exact isCN_any d w
theorem l1In_any (x lo hi : Int) (w : World) : Calls Try.prog 63 #[.int .i64 x, .int .i64 lo, .int .i64 hi] w fun e w' => e = .returned (.bool (inB x lo hi)) ∧ w' = w := by
  go_enter Try.func63, Try.ntmps63
  go_wp2
  all_goals go_ret
  all_goals exact ⟨ret_bool (by unfold inB; rw [Bool.eq_iff_iff]; simp; try omega), rfl⟩
theorem l1In_eq (x lo hi : Int) (v : Bool) (w : World) (h : inB x lo hi = v) : Calls Try.prog 63 #[.int .i64 x, .int .i64 lo, .int .i64 hi] w fun e w' => e = .returned (.bool v) ∧ w' = w := by
  subst h; exact l1In_any x lo hi w
theorem isPlace_any (x n : Int) (w : World) : Calls Try.prog 106 #[.int .i64 x, .int .i64 n] w fun e w' => e = .returned (.bool (inB x 0 (n - 1))) ∧ w' = w := by
  go_enter Try.func106, Try.ntmps106
  go_wp2
  all_goals go_ret
  all_goals exact ⟨ret_bool (by unfold inB; rw [Bool.eq_iff_iff]; simp; try omega), rfl⟩
theorem isPlace_eq (x n : Int) (v : Bool) (w : World) (h : inB x 0 (n - 1) = v) : Calls Try.prog 106 #[.int .i64 x, .int .i64 n] w fun e w' => e = .returned (.bool v) ∧ w' = w := by
  subst h; exact isPlace_any x n w
theorem l2Day_any (d : Int) (w : World) : Calls Try.prog 78 #[.int .i64 d] w fun e w' => e = .returned (.bool (inB d (0) 40000)) ∧ w' = w := by
  go_enter Try.func78, Try.ntmps78
  go_wp2_with (go_at_call 63; refine (l1In_any _ _ _ _).mono ?_; rintro e w' ⟨rfl, rfl⟩)
  all_goals go_ret
  all_goals exact ⟨rfl, rfl⟩
theorem l2Day_eq (d : Int) (v : Bool) (w : World) (h : inB d (0) 40000 = v) : Calls Try.prog 78 #[.int .i64 d] w fun e w' => e = .returned (.bool v) ∧ w' = w := by
  subst h; exact l2Day_any d w
theorem l12Qty_any (d : Int) (w : World) : Calls Try.prog 67 #[.int .i64 d] w fun e w' => e = .returned (.bool (inB d (0) 1000000)) ∧ w' = w := by
  go_enter Try.func67, Try.ntmps67
  go_wp2_with (go_at_call 63; refine (l1In_any _ _ _ _).mono ?_; rintro e w' ⟨rfl, rfl⟩)
  all_goals go_ret
  all_goals exact ⟨rfl, rfl⟩
theorem l12Qty_eq (d : Int) (v : Bool) (w : World) (h : inB d (0) 1000000 = v) : Calls Try.prog 67 #[.int .i64 d] w fun e w' => e = .returned (.bool v) ∧ w' = w := by
  subst h; exact l12Qty_any d w
end Go.Proofs.Ytpmnnfjabppahaa
