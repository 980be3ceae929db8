/- Small tests of quantities, prices, places, amounts and days, in the program and in the model. -/
import Derived.Test.YtmbdeafpfdeigaaNm
import Derived.Test.YtmbdeafpfdeigaaIr
import Derived.Outline
namespace Go.Proofs.Ytmbdeafpfdeigaa
open Go.ChangeShapes Go.WideShapes Go.ChangeAt Go.RowKit
set_option linter.unusedVariables false
set_option linter.unusedSimpArgs false

theorem hid {P : Prop} (h : P) : Hid P := h
def inB (x lo hi : Int) : Bool := decide (lo ≤ x ∧ x ≤ hi)
theorem inB_t {x lo hi : Int} (h : inB x lo hi = true) : lo ≤ x ∧ x ≤ hi := of_decide_eq_true h
theorem inB_f {x lo hi : Int} (h : inB x lo hi = false) : ¬ (lo ≤ x ∧ x ≤ hi) := of_decide_eq_false h
theorem inB_y {x lo hi : Int} (h1 : lo ≤ x) (h2 : x ≤ hi) : inB x lo hi = true := decide_eq_true ⟨h1, h2⟩
theorem bd_N {n : Nat} {A W : World} (h : Below n A W) (q : Nat) : Below n A (W.drewN q) := ⟨h.os, h.tape, h.output, h.size, h.block⟩
theorem ret_i {a b : Int} (h : a = b) : Ending.returned (.int .i64 a) = .returned (.int .i64 b) := by rw [h]

theorem isDay_any (d : Int) (w : World) : Calls Try.prog 99 #[.int .i64 d] w fun e w' => e = .returned (.bool (inB d (0) 40000)) ∧ w' = w := by
  go_enter Try.func99, Try.ntmps99
  go_wp2
  all_goals go_ret
  all_goals exact ⟨ret_bool (by unfold inB; rw [Bool.eq_iff_iff]; simp; try omega), rfl⟩
theorem isDay_eq (d : Int) (v : Bool) (w : World) (h : inB d (0) 40000 = v) : Calls Try.prog 99 #[.int .i64 d] w fun e w' => e = .returned (.bool v) ∧ w' = w := by
  subst h; exact isDay_any d w
theorem isQty_any (d : Int) (w : World) : Calls Try.prog 76 #[.int .i64 d] w fun e w' => e = .returned (.bool (inB d (0) 1000000)) ∧ w' = w := by
  go_enter Try.func76, Try.ntmps76
  go_wp2
  all_goals go_ret
  all_goals exact ⟨ret_bool (by unfold inB; rw [Bool.eq_iff_iff]; simp; try omega), rfl⟩
theorem isQty_eq (d : Int) (v : Bool) (w : World) (h : inB d (0) 1000000 = v) : Calls Try.prog 76 #[.int .i64 d] w fun e w' => e = .returned (.bool v) ∧ w' = w := by
  subst h; exact isQty_any d w
theorem isQtyA_any (d : Int) (w : World) : Calls Try.prog 114 #[.int .i64 d] w fun e w' => e = .returned (.bool (inB d (1) 1000000)) ∧ w' = w := by
  go_enter Try.func114, Try.ntmps114
  go_wp2
  all_goals go_ret
  all_goals exact ⟨ret_bool (by unfold inB; rw [Bool.eq_iff_iff]; simp; try omega), rfl⟩
theorem isQtyA_eq (d : Int) (v : Bool) (w : World) (h : inB d (1) 1000000 = v) : Calls Try.prog 114 #[.int .i64 d] w fun e w' => e = .returned (.bool v) ∧ w' = w := by
  subst h; exact isQtyA_any d w
theorem isPrice_any (d : Int) (w : World) : Calls Try.prog 63 #[.int .i64 d] w fun e w' => e = .returned (.bool (inB d (0) 100000)) ∧ w' = w := by
  go_enter Try.func63, Try.ntmps63
  go_wp2
  all_goals go_ret
  all_goals exact ⟨ret_bool (by unfold inB; rw [Bool.eq_iff_iff]; simp; try omega), rfl⟩
theorem isPrice_eq (d : Int) (v : Bool) (w : World) (h : inB d (0) 100000 = v) : Calls Try.prog 63 #[.int .i64 d] w fun e w' => e = .returned (.bool v) ∧ w' = w := by
  subst h; exact isPrice_any d w
theorem isHun_any (d : Int) (w : World) : Calls Try.prog 146 #[.int .i64 d] w fun e w' => e = .returned (.bool (inB d (0) 100)) ∧ w' = w := by
  go_enter Try.func146, Try.ntmps146
  go_wp2
  all_goals go_ret
  all_goals exact ⟨ret_bool (by unfold inB; rw [Bool.eq_iff_iff]; simp; try omega), rfl⟩
theorem isHun_eq (d : Int) (v : Bool) (w : World) (h : inB d (0) 100 = v) : Calls Try.prog 146 #[.int .i64 d] w fun e w' => e = .returned (.bool v) ∧ w' = w := by
  subst h; exact isHun_any d w
theorem isAmt_any (d : Int) (w : World) : Calls Try.prog 157 #[.int .i64 d] w fun e w' => e = .returned (.bool (inB d (-100000000000) 100000000000)) ∧ w' = w := by
  go_enter Try.func157, Try.ntmps157
  go_wp2
  all_goals go_ret
  all_goals exact ⟨ret_bool (by unfold inB; rw [Bool.eq_iff_iff]; simp; try omega), rfl⟩
theorem isAmt_eq (d : Int) (v : Bool) (w : World) (h : inB d (-100000000000) 100000000000 = v) : Calls Try.prog 157 #[.int .i64 d] w fun e w' => e = .returned (.bool v) ∧ w' = w := by
  subst h; exact isAmt_any d w
theorem isAmt0_any (d : Int) (w : World) : Calls Try.prog 65 #[.int .i64 d] w fun e w' => e = .returned (.bool (inB d (0) 100000000000)) ∧ w' = w := by
  go_enter Try.func65, Try.ntmps65
  go_wp2
  all_goals go_ret
  all_goals exact ⟨ret_bool (by unfold inB; rw [Bool.eq_iff_iff]; simp; try omega), rfl⟩
theorem isAmt0_eq (d : Int) (v : Bool) (w : World) (h : inB d (0) 100000000000 = v) : Calls Try.prog 65 #[.int .i64 d] w fun e w' => e = .returned (.bool v) ∧ w' = w := by
  subst h; exact isAmt0_any d w
theorem l1In_any (x lo hi : Int) (w : World) : Calls Try.prog 67 #[.int .i64 x, .int .i64 lo, .int .i64 hi] w fun e w' => e = .returned (.bool (inB x lo hi)) ∧ w' = w := by
  go_enter Try.func67, Try.ntmps67
  go_wp2
  all_goals go_ret
  all_goals exact ⟨ret_bool (by unfold inB; rw [Bool.eq_iff_iff]; simp; try omega), rfl⟩
theorem l1In_eq (x lo hi : Int) (v : Bool) (w : World) (h : inB x lo hi = v) : Calls Try.prog 67 #[.int .i64 x, .int .i64 lo, .int .i64 hi] w fun e w' => e = .returned (.bool v) ∧ w' = w := by
  subst h; exact l1In_any x lo hi w
theorem isPlace_any (x n : Int) (w : World) : Calls Try.prog 98 #[.int .i64 x, .int .i64 n] w fun e w' => e = .returned (.bool (inB x 0 (n - 1))) ∧ w' = w := by
  go_enter Try.func98, Try.ntmps98
  go_wp2
  all_goals go_ret
  all_goals exact ⟨ret_bool (by unfold inB; rw [Bool.eq_iff_iff]; simp; try omega), rfl⟩
theorem isPlace_eq (x n : Int) (v : Bool) (w : World) (h : inB x 0 (n - 1) = v) : Calls Try.prog 98 #[.int .i64 x, .int .i64 n] w fun e w' => e = .returned (.bool v) ∧ w' = w := by
  subst h; exact isPlace_any x n w
theorem l2Day_any (d : Int) (w : World) : Calls Try.prog 106 #[.int .i64 d] w fun e w' => e = .returned (.bool (inB d (0) 40000)) ∧ w' = w := by
  go_enter Try.func106, Try.ntmps106
  go_wp2_with (go_at_call 67; refine (l1In_any _ _ _ _).mono ?_; rintro e w' ⟨rfl, rfl⟩)
  all_goals go_ret
  all_goals exact ⟨rfl, rfl⟩
theorem l2Day_eq (d : Int) (v : Bool) (w : World) (h : inB d (0) 40000 = v) : Calls Try.prog 106 #[.int .i64 d] w fun e w' => e = .returned (.bool v) ∧ w' = w := by
  subst h; exact l2Day_any d w
theorem l12Qty_any (d : Int) (w : World) : Calls Try.prog 96 #[.int .i64 d] w fun e w' => e = .returned (.bool (inB d (0) 1000000)) ∧ w' = w := by
  go_enter Try.func96, Try.ntmps96
  go_wp2_with (go_at_call 67; refine (l1In_any _ _ _ _).mono ?_; rintro e w' ⟨rfl, rfl⟩)
  all_goals go_ret
  all_goals exact ⟨rfl, rfl⟩
theorem l12Qty_eq (d : Int) (v : Bool) (w : World) (h : inB d (0) 1000000 = v) : Calls Try.prog 96 #[.int .i64 d] w fun e w' => e = .returned (.bool v) ∧ w' = w := by
  subst h; exact l12Qty_any d w
theorem l12Price_any (d : Int) (w : World) : Calls Try.prog 66 #[.int .i64 d] w fun e w' => e = .returned (.bool (inB d (0) 100000)) ∧ w' = w := by
  go_enter Try.func66, Try.ntmps66
  go_wp2_with (go_at_call 67; refine (l1In_any _ _ _ _).mono ?_; rintro e w' ⟨rfl, rfl⟩)
  all_goals go_ret
  all_goals exact ⟨rfl, rfl⟩
theorem l12Price_eq (d : Int) (v : Bool) (w : World) (h : inB d (0) 100000 = v) : Calls Try.prog 66 #[.int .i64 d] w fun e w' => e = .returned (.bool v) ∧ w' = w := by
  subst h; exact l12Price_any d w
theorem l1Amt_any (d : Int) (w : World) : Calls Try.prog 134 #[.int .i64 d] w fun e w' => e = .returned (.bool (inB d (-100000000000) 100000000000)) ∧ w' = w := by
  go_enter Try.func134, Try.ntmps134
  go_wp2_with (go_at_call 67; refine (l1In_any _ _ _ _).mono ?_; rintro e w' ⟨rfl, rfl⟩)
  all_goals go_ret
  all_goals exact ⟨rfl, rfl⟩
theorem l1Amt_eq (d : Int) (v : Bool) (w : World) (h : inB d (-100000000000) 100000000000 = v) : Calls Try.prog 134 #[.int .i64 d] w fun e w' => e = .returned (.bool v) ∧ w' = w := by
  subst h; exact l1Amt_any d w
theorem l9Max_any (a b : Int) (w : World) : Calls Try.prog 113 #[.int .i64 a, .int .i64 b] w fun e w' => e = .returned (.int .i64 (max a b)) ∧ w' = w := by
  by_cases h : b < a
  · have HM : Hid (max a b = a) := hid (by omega)
    go_enter Try.func113, Try.ntmps113
    go_wp2
    go_ret
    exact ⟨ret_i HM.out.symm, rfl⟩
  · have HM : Hid (max a b = b) := hid (by omega)
    have h2 : a ≤ b := by omega
    go_enter Try.func113, Try.ntmps113
    go_wp2
    go_ret
    exact ⟨ret_i HM.out.symm, rfl⟩
end Go.Proofs.Ytmbdeafpfdeigaa
