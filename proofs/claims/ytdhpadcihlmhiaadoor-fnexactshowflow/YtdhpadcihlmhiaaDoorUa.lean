/- Small tests that the texts on flows share. -/
import Derived.Test.YtdhpadcihlmhiaaDoorSi
import Derived.BigQuiet
import Derived.Deep.QuietTactic
namespace Go.Proofs.YtdhpadcihlmhiaaDoor
open Go.ChangeShapes Go.WideShapes Go.ChangeAt Go.RowKit
set_option linter.unusedVariables false
set_option linter.unusedSimpArgs false

theorem from0_any (x : Int) (w : World) : Calls Tryd.prog 129 #[.int .i64 x] w fun e w' => e = .returned (.bool (inB x 0 100000000000)) ∧ w' = w := by
  go_enter Tryd.func129, Tryd.ntmps129
  go_wp2
  all_goals go_ret
  all_goals exact ⟨ret_bool (by unfold inB; rw [Bool.eq_iff_iff]; simp; try omega), rfl⟩
theorem from0_eq {x : Int} {v : Bool} {w : World} (h : inB x 0 100000000000 = v) : Calls Tryd.prog 129 #[.int .i64 x] w fun e w' => e = .returned (.bool v) ∧ w' = w := h ▸ from0_any x w
theorem implName_eq {s : ByteArray} {v : Bool} {w : World} (hs : s.size ≤ maxLen) (h : nameB s = v) : Calls Tryd.prog 137 #[.string s] w fun e w' => e = .returned (.bool v) ∧ w' = w := h ▸ implName_any s w hs
end Go.Proofs.YtdhpadcihlmhiaaDoor
