/- Small tests of quantities, prices, places, amounts and days, in the program and in the model. -/
import Derived.Test.YtdgccdlaokbnhaaNm
import Derived.Test.YtdgccdlaokbnhaaIr
import Derived.Outline
namespace Go.Proofs.Ytdgccdlaokbnhaa
open Go.ChangeShapes Go.WideShapes Go.ChangeAt Go.RowKit
set_option linter.unusedVariables false
set_option linter.unusedSimpArgs false

theorem hid {P : Prop} (h : P) : Hid P := h
def inB (x lo hi : Int) : Bool := decide (lo ≤ x ∧ x ≤ hi)
theorem inB_t {x lo hi : Int} (h : inB x lo hi = true) : lo ≤ x ∧ x ≤ hi := of_decide_eq_true h
theorem inB_f {x lo hi : Int} (h : inB x lo hi = false) : ¬ (lo ≤ x ∧ x ≤ hi) := of_decide_eq_false h
theorem inB_y {x lo hi : Int} (h1 : lo ≤ x) (h2 : x ≤ hi) : inB x lo hi = true := decide_eq_true ⟨h1, h2⟩
theorem bd_N {n : Nat} {A W : World} (h : Below n A W) (q : Nat) : Below n A (W.drewN q) := ⟨h.os, h.tape, h.output, h.size, h.block⟩
theorem ret_i {a b : Int} (h : a = b) : Ending.returned (.int .i64 a) = .returned (.int .i64 b) := by rw [h]

theorem isQty_any (d : Int) (w : World) : Calls Try.prog 64 #[.int .i64 d] w fun e w' => e = .returned (.bool (inB d (0) 1000000)) ∧ w' = w := by
  go_enter Try.func64, Try.ntmps64
  go_wp2
  all_goals go_ret
  all_goals exact ⟨ret_bool (by unfold inB; rw [Bool.eq_iff_iff]; simp; try omega), rfl⟩
theorem isQty_eq (d : Int) (v : Bool) (w : World) (h : inB d (0) 1000000 = v) : Calls Try.prog 64 #[.int .i64 d] w fun e w' => e = .returned (.bool v) ∧ w' = w := by
  subst h; exact isQty_any d w
theorem isQtyA_any (d : Int) (w : World) : Calls Try.prog 80 #[.int .i64 d] w fun e w' => e = .returned (.bool (inB d (1) 1000000)) ∧ w' = w := by
  go_enter Try.func80, Try.ntmps80
  go_wp2
  all_goals go_ret
  all_goals exact ⟨ret_bool (by unfold inB; rw [Bool.eq_iff_iff]; simp; try omega), rfl⟩
theorem isQtyA_eq (d : Int) (v : Bool) (w : World) (h : inB d (1) 1000000 = v) : Calls Try.prog 80 #[.int .i64 d] w fun e w' => e = .returned (.bool v) ∧ w' = w := by
  subst h; exact isQtyA_any d w
theorem isAmt_any (d : Int) (w : World) : Calls Try.prog 74 #[.int .i64 d] w fun e w' => e = .returned (.bool (inB d (-100000000000) 100000000000)) ∧ w' = w := by
  go_enter Try.func74, Try.ntmps74
  go_wp2
  all_goals go_ret
  all_goals exact ⟨ret_bool (by unfold inB; rw [Bool.eq_iff_iff]; simp; try omega), rfl⟩
theorem isAmt_eq (d : Int) (v : Bool) (w : World) (h : inB d (-100000000000) 100000000000 = v) : Calls Try.prog 74 #[.int .i64 d] w fun e w' => e = .returned (.bool v) ∧ w' = w := by
  subst h; exact isAmt_any d w
theorem isAmt0_any (d : Int) (w : World) : Calls Try.prog 65 #[.int .i64 d] w fun e w' => e = .returned (.bool (inB d (0) 100000000000)) ∧ w' = w := by
  go_enter Try.func65, Try.ntmps65
  go_wp2
  all_goals go_ret
  all_goals exact ⟨ret_bool (by unfold inB; rw [Bool.eq_iff_iff]; simp; try omega), rfl⟩
theorem isAmt0_eq (d : Int) (v : Bool) (w : World) (h : inB d (0) 100000000000 = v) : Calls Try.prog 65 #[.int .i64 d] w fun e w' => e = .returned (.bool v) ∧ w' = w := by
  subst h; exact isAmt0_any d w
theorem isPrice_any (d : Int) (w : World) : Calls Try.prog 94 #[.int .i64 d] w fun e w' => e = .returned (.bool (inB d (0) 100000)) ∧ w' = w := by
  go_enter Try.func94, Try.ntmps94
  go_wp2
  all_goals go_ret
  all_goals exact ⟨ret_bool (by unfold inB; rw [Bool.eq_iff_iff]; simp; try omega), rfl⟩
theorem isPrice_eq (d : Int) (v : Bool) (w : World) (h : inB d (0) 100000 = v) : Calls Try.prog 94 #[.int .i64 d] w fun e w' => e = .returned (.bool v) ∧ w' = w := by
  subst h; exact isPrice_any d w
theorem l1In_any (x lo hi : Int) (w : World) : Calls Try.prog 60 #[.int .i64 x, .int .i64 lo, .int .i64 hi] w fun e w' => e = .returned (.bool (inB x lo hi)) ∧ w' = w := by
  go_enter Try.func60, Try.ntmps60
  go_wp2
  all_goals go_ret
  all_goals exact ⟨ret_bool (by unfold inB; rw [Bool.eq_iff_iff]; simp; try omega), rfl⟩
theorem l1In_eq (x lo hi : Int) (v : Bool) (w : World) (h : inB x lo hi = v) : Calls Try.prog 60 #[.int .i64 x, .int .i64 lo, .int .i64 hi] w fun e w' => e = .returned (.bool v) ∧ w' = w := by
  subst h; exact l1In_any x lo hi w

theorem l12Qty_any (d : Int) (w : World) : Calls Try.prog 71 #[.int .i64 d] w fun e w' => e = .returned (.bool (inB d (0) 1000000)) ∧ w' = w := by
  go_enter Try.func71, Try.ntmps71
  go_wp2_with (go_at_call 60; refine (l1In_any _ _ _ _).mono ?_; rintro e w' ⟨rfl, rfl⟩)
  all_goals go_ret
  all_goals exact ⟨rfl, rfl⟩
theorem l12Qty_eq (d : Int) (v : Bool) (w : World) (h : inB d (0) 1000000 = v) : Calls Try.prog 71 #[.int .i64 d] w fun e w' => e = .returned (.bool v) ∧ w' = w := by
  subst h; exact l12Qty_any d w
theorem l12Price_any (d : Int) (w : World) : Calls Try.prog 68 #[.int .i64 d] w fun e w' => e = .returned (.bool (inB d (0) 100000)) ∧ w' = w := by
  go_enter Try.func68, Try.ntmps68
  go_wp2_with (go_at_call 60; refine (l1In_any _ _ _ _).mono ?_; rintro e w' ⟨rfl, rfl⟩)
  all_goals go_ret
  all_goals exact ⟨rfl, rfl⟩
theorem l12Price_eq (d : Int) (v : Bool) (w : World) (h : inB d (0) 100000 = v) : Calls Try.prog 68 #[.int .i64 d] w fun e w' => e = .returned (.bool v) ∧ w' = w := by
  subst h; exact l12Price_any d w
theorem l1Amount_any (d : Int) (w : World) : Calls Try.prog 69 #[.int .i64 d] w fun e w' => e = .returned (.bool (inB d (-100000000000) 100000000000)) ∧ w' = w := by
  go_enter Try.func69, Try.ntmps69
  go_wp2_with (go_at_call 60; refine (l1In_any _ _ _ _).mono ?_; rintro e w' ⟨rfl, rfl⟩)
  all_goals go_ret
  all_goals exact ⟨rfl, rfl⟩
theorem l1Amount_eq (d : Int) (v : Bool) (w : World) (h : inB d (-100000000000) 100000000000 = v) : Calls Try.prog 69 #[.int .i64 d] w fun e w' => e = .returned (.bool v) ∧ w' = w := by
  subst h; exact l1Amount_any d w
end Go.Proofs.Ytdgccdlaokbnhaa
