/- Contracts of the program's rounding of a cut by each of the six modes: each answers 'rnd'. Conditions: the numbers lie within what the callers have tested. -/
import Derived.Test.YtmbdeafpfdeigaaCu
namespace Go.Proofs.Ytmbdeafpfdeigaa
open Go.ChangeShapes Go.WideShapes Go.ChangeAt Go.RowKit
set_option linter.unusedVariables false
set_option linter.unusedSimpArgs false

set_option maxHeartbeats 1000000 in
theorem round_4 (d r q : Int) (neg : Bool) (w : World) (hd : -1000000000000000000 ≤ d) (hd1 : d ≤ 1000000000000000000) (hr : 0 ≤ r) (hrq : r < q) (hq : q ≤ 10000000000) :
    Calls Try.prog 160 #[.agg #[.int .i64 4, .func (.func 171) #[] #[]], .agg #[.int .i64 d, .int .i64 r, .int .i64 q, .bool neg]] w fun e w' => e = .returned (.int .i64 (rnd d r q neg 4)) ∧ Below w.heap.size w w' := by
  obtain ⟨t, ht⟩ : ∃ t, d.tmod 2 = t := ⟨_, rfl⟩
  by_cases h : 2 * r = q
  · have hb : (2 * r == q) = true := by simpa using h
    have HH : Hid (2 * r = q) := h
    clear h
    by_cases h2 : t = 0
    all_goals cases neg
    all_goals
      first | have hb2 : (t == 0) = true := by (simpa using h2) | have hb2 : (t == 0) = false := by (simpa using h2)
      have HT : Hid (d.tmod 2 = t) := ht
      go_enter Try.func160, Try.ntmps160
      go_wp2
      go_returns
      exact ⟨ret_int (by simp [rnd, fur, HH.out, HT.out, h2]), by go_grown⟩
  · have hb : (2 * r == q) = false := by simpa using h
    by_cases h2 : q ≤ 2 * r
    all_goals cases neg
    all_goals
      go_enter Try.func160, Try.ntmps160
      go_wp2
      go_returns
      exact ⟨ret_int (by simp [rnd, fur, *] <;> omega), by go_grown⟩

set_option maxHeartbeats 1000000 in
theorem round_5 (d r q : Int) (neg : Bool) (w : World) (hd : -1000000000000000000 ≤ d) (hd1 : d ≤ 1000000000000000000) (hr : 0 ≤ r) (hrq : r < q) (hq : q ≤ 10000000000) :
    Calls Try.prog 160 #[.agg #[.int .i64 5, .func (.func 172) #[] #[]], .agg #[.int .i64 d, .int .i64 r, .int .i64 q, .bool neg]] w fun e w' => e = .returned (.int .i64 (rnd d r q neg 5)) ∧ Below w.heap.size w w' := by
  by_cases h : 0 < r
  all_goals cases neg
  all_goals
    go_enter Try.func160, Try.ntmps160
    go_wp2
    go_returns
    exact ⟨ret_int (by simp [rnd, fur, *] <;> omega), by go_grown⟩

set_option maxHeartbeats 1000000 in
theorem round_6 (d r q : Int) (neg : Bool) (w : World) (hd : -1000000000000000000 ≤ d) (hd1 : d ≤ 1000000000000000000) (hr : 0 ≤ r) (hrq : r < q) (hq : q ≤ 10000000000) :
    Calls Try.prog 160 #[.agg #[.int .i64 6, .func (.func 173) #[] #[]], .agg #[.int .i64 d, .int .i64 r, .int .i64 q, .bool neg]] w fun e w' => e = .returned (.int .i64 (rnd d r q neg 6)) ∧ Below w.heap.size w w' := by
  by_cases h : 0 < r
  all_goals cases neg
  all_goals
    go_enter Try.func160, Try.ntmps160
    go_wp2
    go_returns
    exact ⟨ret_int (by simp [rnd, fur, *] <;> omega), by go_grown⟩

end Go.Proofs.Ytmbdeafpfdeigaa
