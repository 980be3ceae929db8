/- The program's iterator over open hours: what it hands over, whatever the loop's body that keeps what lay below n0. -/
import Derived.RangeFuncFrom
import Derived.RangeFuncNested
import Derived.RangeFuncBound
import Derived.RangeFuncCalls
import Derived.RangeFuncLeaves
import Derived.Shelf.Abstract
import Derived.Shelf.RegionOpen
import Derived.OwnWalkIn
import Derived.TacticsInMore
import Derived.LoopNIn
import Derived.LoopIn
import Derived.Test.YtogolmbgboihdaaOa
import Derived.Test.YtogolmbgboihdaaFb
namespace Go.Proofs.Ytogolmbgboihdaa
open Go.ChangeShapes Go.WideShapes Go.ChangeAt Go.RowKit
set_option linter.unusedVariables false
set_option linter.unusedSimpArgs false

set_option maxRecDepth 20000 in
set_option maxHeartbeats 4000000 in
theorem isOpenAt_eq (x0 x1 x2 h : Int) (v : Bool) (w : World) (h0 : 0 ≤ h) (h1 : h ≤ 5001) (hv : opB x0 x1 h = v) :
    Calls Try.prog 106 #[.agg #[.int .i64 x0, .int .i64 x1, .int .i64 x2], .int .i64 h] w fun e w' => e = .returned (.bool v) ∧ Below w.heap.size w w' := by
  subst hv
  have e : Int.tmod h 24 = h % 24 := Int.tmod_eq_emod_of_nonneg h0
  by_cases g0 : x0 ≤ h % 24
  · have HV : Hid (decide (h % 24 < x1) = opB x0 x1 h) := hid (by unfold opB; rw [Bool.eq_iff_iff]; simp; omega)
    go_enter Try.func106, Try.ntmps106
    go_wp2
    all_goals go_returns
    all_goals exact ⟨ret_bool (by unfold opB; rw [Bool.eq_iff_iff]; simp; try omega), by go_grown⟩
  · go_enter Try.func106, Try.ntmps106
    go_wp2
    all_goals go_returns
    all_goals exact ⟨ret_bool (by unfold opB; rw [Bool.eq_iff_iff]; simp; try omega), by go_grown⟩
end Go.Proofs.Ytogolmbgboihdaa
