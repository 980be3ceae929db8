/- Contracts of the program's rounding of a cut by each of the six modes: each answers 'rnd'. Conditions: the numbers lie within what the callers have tested. -/
import Derived.Test.YtmbdeafpfdeigaaCu
namespace Go.Proofs.Ytmbdeafpfdeigaa
open Go.ChangeShapes Go.WideShapes Go.ChangeAt Go.RowKit
set_option linter.unusedVariables false
set_option linter.unusedSimpArgs false

set_option maxHeartbeats 1000000 in
theorem round_1 (d r q : Int) (neg : Bool) (w : World) (hd : -1000000000000000000 ≤ d) (hd1 : d ≤ 1000000000000000000) (hr : 0 ≤ r) (hrq : r < q) (hq : q ≤ 10000000000) :
    Calls Try.prog 160 #[.agg #[.int .i64 1, .func (.func 168) #[] #[]], .agg #[.int .i64 d, .int .i64 r, .int .i64 q, .bool neg]] w fun e w' => e = .returned (.int .i64 (rnd d r q neg 1)) ∧ Below w.heap.size w w' := by
  cases neg
  all_goals
    go_enter Try.func160, Try.ntmps160
    go_wp2
    go_returns
    exact ⟨ret_int (by simp [rnd, fur, *] <;> omega), by go_grown⟩

set_option maxHeartbeats 1000000 in
theorem round_2 (d r q : Int) (neg : Bool) (w : World) (hd : -1000000000000000000 ≤ d) (hd1 : d ≤ 1000000000000000000) (hr : 0 ≤ r) (hrq : r < q) (hq : q ≤ 10000000000) :
    Calls Try.prog 160 #[.agg #[.int .i64 2, .func (.func 169) #[] #[]], .agg #[.int .i64 d, .int .i64 r, .int .i64 q, .bool neg]] w fun e w' => e = .returned (.int .i64 (rnd d r q neg 2)) ∧ Below w.heap.size w w' := by
  by_cases h : 0 < r
  all_goals cases neg
  all_goals
    go_enter Try.func160, Try.ntmps160
    go_wp2
    go_returns
    exact ⟨ret_int (by simp [rnd, fur, *] <;> omega), by go_grown⟩

set_option maxHeartbeats 1000000 in
theorem round_3 (d r q : Int) (neg : Bool) (w : World) (hd : -1000000000000000000 ≤ d) (hd1 : d ≤ 1000000000000000000) (hr : 0 ≤ r) (hrq : r < q) (hq : q ≤ 10000000000) :
    Calls Try.prog 160 #[.agg #[.int .i64 3, .func (.func 170) #[] #[]], .agg #[.int .i64 d, .int .i64 r, .int .i64 q, .bool neg]] w fun e w' => e = .returned (.int .i64 (rnd d r q neg 3)) ∧ Below w.heap.size w w' := by
  by_cases h : q ≤ 2 * r
  all_goals cases neg
  all_goals
    go_enter Try.func160, Try.ntmps160
    go_wp2
    go_returns
    exact ⟨ret_int (by simp [rnd, fur, *] <;> omega), by go_grown⟩

end Go.Proofs.Ytmbdeafpfdeigaa
