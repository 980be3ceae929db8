/- The contract of the program's cut of a quotient. Conditions: the numbers lie within what the callers have tested. -/
import Derived.Test.YtmbdeafpfdeigaaMd
import Derived.Test.YtmbdeafpfdeigaaDv
namespace Go.Proofs.Ytmbdeafpfdeigaa
open Go.ChangeShapes Go.WideShapes Go.ChangeAt Go.RowKit
set_option linter.unusedVariables false
set_option linter.unusedSimpArgs false

theorem ret_int {k : IntKind} {a b : Int} (h : a = b) : Ending.returned (.int k a) = .returned (.int k b) := by rw [h]

theorem cutOf_any (p q : Int) (w : World) (h0 : -1000000000000000000 ≤ p) (h1 : p ≤ 1000000000000000000) (hq : 1 ≤ q) (hq1 : q ≤ 10000000000) :
    Calls Try.prog 161 #[.int .i64 p, .int .i64 q] w fun e w' => e = .returned (.agg #[.int .i64 (p.tdiv q), .int .i64 (cr p q), .int .i64 q, .bool (decide (p < 0))]) ∧ Below w.heap.size w w' := by
  obtain ⟨c0, c1, cp, cn⟩ := cut_facts p q hq
  by_cases h : p < 0
  · obtain ⟨n1, n2, n3, n4⟩ := cn h
    have hdec : decide (p < 0) = true := decide_eq_true h
    clear cp cn n4
    obtain ⟨d, hd⟩ : ∃ d, p.tdiv q = d := ⟨_, rfl⟩
    obtain ⟨r, hr⟩ : ∃ r, cr p q = r := ⟨_, rfl⟩
    rw [hd] at n1 n2
    rw [hr] at n3 c0 c1
    by_cases hr0 : r = 0
    · subst hr0
      go_enter Try.func161, Try.ntmps161
      go_wp2
      go_returns
      exact ⟨by simp [hr, hdec, hd], by go_grown⟩
    · go_enter Try.func161, Try.ntmps161
      go_wp2
      go_returns
      exact ⟨by simp [hr, hdec, hd], by go_grown⟩
  · obtain ⟨n1, n2, n3, n4, n5⟩ := cp (by omega)
    have hdec : decide (p < 0) = false := decide_eq_false h
    have hp : 0 ≤ p := by omega
    clear cp cn n5
    obtain ⟨d, hd⟩ : ∃ d, p.tdiv q = d := ⟨_, rfl⟩
    obtain ⟨r, hr⟩ : ∃ r, cr p q = r := ⟨_, rfl⟩
    rw [hd] at n1 n2 n3
    rw [hr] at n4 c0 c1
    go_enter Try.func161, Try.ntmps161
    go_wp2
    go_returns
    exact ⟨by simp [hr, hdec, hd], by go_grown⟩

end Go.Proofs.Ytmbdeafpfdeigaa
