/- How many rates there are: the law's own test. -/
import Derived.Test.YtghphlnpginmhaaOr
namespace Go.Proofs.Ytghphlnpginmhaa
open Go.ChangeShapes Go.WideShapes Go.ChangeAt Go.RowKit
set_option linter.unusedVariables false
theorem szR4_any (ad : Option Addr) (len cap : Nat) (L : Int) (w : World) (g0 : 0 ≤ L) (g1 : L ≤ 1048576) (hl : (len : Int) ≤ 9223372036854775807) :
    Calls Try.prog 28 #[.slice ad len cap, .int .i64 L] w fun e w' => ∃ v : Int, e = .returned (.int .i64 v) ∧ (v = -1 ∨ (0 ≤ v ∧ v ≤ 1048576 ∧ (len : Int) ≤ 1048576)) ∧ w' = w := by
  by_cases h : (len : Int) ≤ L
  · have h2 : ¬ L - (len : Int) < 0 := by omega
    go_enter Try.func28, Try.ntmps28
    go_wp2
    go_returns
    exact ⟨L - (len : Int), rfl, .inr ⟨by omega, by omega, by omega⟩, rfl⟩
  · have h2 : L - (len : Int) < 0 := by omega
    go_enter Try.func28, Try.ntmps28
    go_wp2
    go_returns
    exact ⟨-1, rfl, .inl rfl, rfl⟩
end Go.Proofs.Ytghphlnpginmhaa
