/- Draws of an amount, with bounds. -/
import Derived.Test.YtnglofgcckdbmaaXA
namespace Go.Proofs.Ytnglofgcckdbmaa
open Go.ChangeShapes Go.WideShapes Go.ChangeAt Go.RowKit
set_option linter.unusedVariables false
set_option linter.unusedSimpArgs false

theorem am_list {y : Int} (h : y ∈ [(0 : Int), 1, -1, 100000000000, -100000000000, 99999999999, 99, 100, 101]) : -100000000000 ≤ y ∧ y ≤ 100000000000 := by simp at h; omega

end Go.Proofs.Ytnglofgcckdbmaa

