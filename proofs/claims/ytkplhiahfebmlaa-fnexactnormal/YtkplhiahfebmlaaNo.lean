/- Contracts of the two functions that tell an account's sign by its kind: both answer what 'norm' says. No conditions. -/
import Derived.Test.YtkplhiahfebmlaaProg
import Derived.WalkKit
import Derived.ProofKit
import Derived.WalkLawsBesides
namespace Go.Proofs.Ytkplhiahfebmlaa
open Go.ChangeShapes Go.WideShapes Go.ChangeAt Go.RowKit
set_option linter.unusedVariables false

def norm (k : Int) : Int := if k = 1 ∨ k = 5 then 1 else if k = 2 ∨ k = 3 ∨ k = 4 then -1 else 0
theorem ret_int {a b : Int} (h : a = b) : Ending.returned (.int .i64 a) = .returned (.int .i64 b) := by rw [h]
theorem eq_t {a b : Int} (h : a = b) : (a == b) = true := by simpa using h
theorem eq_f {a b : Int} (h : ¬ a = b) : (a == b) = false := by simpa using h

theorem spec_any (k : Int) (w : World) : Calls Try.prog 4 #[.int .i64 k] w fun e w' => e = .returned (.int .i64 (norm k)) ∧ w' = w := by
  rcases (by omega : k = 1 ∨ k = 2 ∨ k = 3 ∨ k = 4 ∨ k = 5 ∨ (k ≠ 1 ∧ k ≠ 2 ∧ k ≠ 3 ∧ k ≠ 4 ∧ k ≠ 5)) with rfl | rfl | rfl | rfl | rfl | ⟨h1, h2, h3, h4, h5⟩
  all_goals
    try (have g1 := eq_f h1; have g2 := eq_f h2; have g3 := eq_f h3; have g4 := eq_f h4; have g5 := eq_f h5)
    go_enter Try.func4, Try.ntmps4
    go_wp2
    all_goals go_ret
    all_goals exact ⟨ret_int (by unfold norm; simp [*]), rfl⟩

theorem impl_any (k : Int) (w : World) : Calls Try.prog 5 #[.int .i64 k] w fun e w' => e = .returned (.int .i64 (norm k)) ∧ w' = w := by
  rcases (by omega : k = 1 ∨ k = 2 ∨ k = 3 ∨ k = 4 ∨ k = 5 ∨ (k ≠ 1 ∧ k ≠ 2 ∧ k ≠ 3 ∧ k ≠ 4 ∧ k ≠ 5)) with rfl | rfl | rfl | rfl | rfl | ⟨h1, h2, h3, h4, h5⟩
  all_goals
    try (have g1 := eq_f h1; have g2 := eq_f h2; have g3 := eq_f h3; have g4 := eq_f h4; have g5 := eq_f h5)
    go_enter Try.func5, Try.ntmps5
    go_wp2
    all_goals go_ret
    all_goals exact ⟨ret_int (by unfold norm; simp [*]), rfl⟩

end Go.Proofs.Ytkplhiahfebmlaa
