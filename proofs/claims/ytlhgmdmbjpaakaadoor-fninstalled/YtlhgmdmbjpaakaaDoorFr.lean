/- What the laws of this seat share: the two listed tables as the text lays them, and the facts on their cells that the contracts ask. -/
import Derived.Test.YtlhgmdmbjpaakaaDoorRows
import Derived.WalkKit
import Derived.ProofKit
import Derived.LaidMore
import Derived.OpenShut
import Derived.ShutString
import Derived.Stop.Joined
import Derived.Below
import Derived.Handy
import Derived.Lib.LaidTab
import Derived.FnData
import Derived.Test.YtlhgmdmbjpaakaaDoorAe
namespace Go.Proofs.YtlhgmdmbjpaakaaDoor
open Go.ChangeShapes Go.WideShapes Go.ChangeAt Go.WideMaps Go.WideElems Go.RowKit Go.Proofs.YtlhgmdmbjpaakaaDoor.Dt
set_option linter.unusedVariables false

theorem own : ownKnob Tryd.prog.godebug = none := by kernel_rfl
theorem laidOut : laidOutB Tryd.prog = true := by kernel_rfl

def laid1 : List (String × DataW Unit) := [("loop.example/g00040/impl.monthLengths", Rows.laid_loop_example_g00040_impl_monthLengths)]

set_option maxRecDepth 100000 in
theorem door_met1 (os : Os) (args : Array Value) : laidMetH Tryd.prog laid1 ((World.doorLaid Tryd.prog 400 os).forCall (fun _ _ => 0) ⟨#[], args, []⟩).memory :=
  laidMetH_of_parts3 (fuel := 8) (laidMet_of_run' 8 (by kernel_rfl) (by kernel_rfl)) (by kernel_rfl) (by kernel_rfl)

theorem tabM : (Rows.laid_loop_example_g00040_impl_monthLengths : DataW Unit) = Lib.tabData .i64 [31, 28, 31, 30, 31, 30, 31, 31, 30, 31, 30, 31] := by kernel_rfl

theorem gM : Tryd.prog.globalNamed "loop.example/g00040/impl.monthLengths" = some 0 := by kernel_rfl
theorem tM : (Tryd.prog.globals[0]?).map (·.type) = some 81 := by kernel_rfl

theorem ML_of {W : World} (h : W.var? Tryd.prog "loop.example/g00040/impl.monthLengths" = some (([31, 28, 31, 30, 31, 30, 31, 31, 30, 31, 30, 31] : List Int).map fun z => Value.int .i64 z).toArray) : ML W := by
  refine ⟨?_, ?_, ?_, ?_, ?_, ?_, ?_, ?_, ?_, ?_, ?_, ?_⟩ <;> (rw [World.var?_cell gM h]; rfl)

theorem size_of {W : World} {b o : Nat} {v : Value} (h : W.cell? ⟨b, o, none⟩ = some v) : b < W.heap.size := by
  unfold World.cell? at h
  rcases Nat.lt_or_ge b W.heap.size with g | g
  · exact g
  · simp [Array.getElem?_eq_none g] at h

theorem of_laid1 {W : World} (h : laidMetH Tryd.prog laid1 W) : ML W := by
  rw [MakeChecks.laidMetH_plain _ _ _ (by kernel_rfl)] at h
  obtain ⟨ps, ⟨g0, t0, cs0, f0, p0, q0, hg0, ht0, hv0, hd0, _, _⟩, _⟩ := h
  obtain rfl := Option.some.inj (gM.symm.trans hg0)
  obtain rfl := Option.some.inj (tM.symm.trans ht0)
  rw [tabM] at hd0
  refine ML_of ?_
  rw [hv0, ← Lib.cells_of_tab Tryd.underlying81 Tryd.underlying3 (by kernel_rfl) (by kernel_rfl) hd0]

theorem ml_pos {W : World} (h : ML W) : 0 < W.heap.size := size_of h.1

end Go.Proofs.YtlhgmdmbjpaakaaDoor
