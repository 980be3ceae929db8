/- What the laws of this seat share: the eight listed refusals as the text lays them, and that none of them is nil. -/
import Derived.Test.YtapailihjlfkgaaDoorRows
import Derived.WalkKit
import Derived.ProofKit
import Derived.LaidMore
import Derived.LaidLaws
import Derived.OpenShut
import Derived.ShutString
import Derived.Stop.Joined
import Derived.Below
import Derived.Handy
import Derived.FnData
import Derived.Test.YtapailihjlfkgaaDoorTa
namespace Go.Proofs.YtapailihjlfkgaaDoor
open Go.ChangeShapes Go.WideShapes Go.ChangeAt Go.WideMaps Go.WideElems Go.RowKit
set_option linter.unusedVariables false

theorem own : ownKnob Tryd.prog.godebug = none := by kernel_rfl
theorem laidOut : laidOutB Tryd.prog = true := by kernel_rfl

def laid8 : List (String × DataW Unit) := [("loop.example/g00040/impl.errNoName", Rows.laid_loop_example_g00040_impl_errNoName), ("loop.example/g00040/impl.errNoKind", Rows.laid_loop_example_g00040_impl_errNoKind), ("loop.example/g00040/impl.errTwice", Rows.laid_loop_example_g00040_impl_errTwice), ("loop.example/g00040/impl.errGap", Rows.laid_loop_example_g00040_impl_errGap), ("loop.example/g00040/impl.errOtherKind", Rows.laid_loop_example_g00040_impl_errOtherKind), ("loop.example/g00040/impl.errTooDeep", Rows.laid_loop_example_g00040_impl_errTooDeep), ("loop.example/g00040/impl.errTooMany", Rows.laid_loop_example_g00040_impl_errTooMany), ("loop.example/g00040/impl.errBooks", Rows.laid_loop_example_g00040_impl_errBooks)]

set_option maxRecDepth 100000 in
theorem door_met8 (os : Os) (args : Array Value) : laidMetH Tryd.prog laid8 ((World.doorLaid Tryd.prog 400 os).forCall (fun _ _ => 0) ⟨#[], args, []⟩).memory :=
  laidMetH_of_parts3 (fuel := 8) (laidMet_of_run' 8 (by kernel_rfl) (by kernel_rfl)) (by kernel_rfl) (by kernel_rfl)

theorem g1 : Tryd.prog.globalNamed "loop.example/g00040/impl.errBooks" = some 0 := by kernel_rfl
theorem g2 : Tryd.prog.globalNamed "loop.example/g00040/impl.errTooMany" = some 2 := by kernel_rfl
theorem g3 : Tryd.prog.globalNamed "loop.example/g00040/impl.errNoName" = some 3 := by kernel_rfl
theorem g4 : Tryd.prog.globalNamed "loop.example/g00040/impl.errTwice" = some 4 := by kernel_rfl
theorem g5 : Tryd.prog.globalNamed "loop.example/g00040/impl.errNoKind" = some 5 := by kernel_rfl
theorem g6 : Tryd.prog.globalNamed "loop.example/g00040/impl.errGap" = some 6 := by kernel_rfl
theorem g7 : Tryd.prog.globalNamed "loop.example/g00040/impl.errOtherKind" = some 7 := by kernel_rfl
theorem g8 : Tryd.prog.globalNamed "loop.example/g00040/impl.errTooDeep" = some 8 := by kernel_rfl

theorem not_nil {H : Type} {enc : TypeId × Value → H} {W : World} {sp : Nat → Bool} {fuel : Nat} {n name : String} {g t : Nat} {cs : Array Value} {d : DataW H} {p : List MemPlace} {ms : Array (String × TypeId)} (hg : Tryd.prog.globalNamed n = some g) (hv : W.var? Tryd.prog n = some cs) (ht : Tryd.prog.underlying t = some (.interface ms))
    (h : DataW.trod enc Tryd.prog W 0 sp false fuel t cs.toList = some (.iface name d, p)) : ∃ ty v, W.cell? ⟨g, 0, none⟩ = some (.iface ty v) := by
  obtain ⟨_, u, v, e, _⟩ := iface_of_trod ht h
  refine ⟨u, v, ?_⟩
  rw [World.var?_cell hg hv 0, ← Array.getElem?_toList, e]
  rfl

theorem t1 : (Tryd.prog.globals[0]?).map (·.type) = some 73 := by kernel_rfl
theorem t2 : (Tryd.prog.globals[2]?).map (·.type) = some 73 := by kernel_rfl
theorem t3 : (Tryd.prog.globals[3]?).map (·.type) = some 73 := by kernel_rfl
theorem t4 : (Tryd.prog.globals[4]?).map (·.type) = some 73 := by kernel_rfl
theorem t5 : (Tryd.prog.globals[5]?).map (·.type) = some 73 := by kernel_rfl
theorem t6 : (Tryd.prog.globals[6]?).map (·.type) = some 73 := by kernel_rfl
theorem t7 : (Tryd.prog.globals[7]?).map (·.type) = some 73 := by kernel_rfl
theorem t8 : (Tryd.prog.globals[8]?).map (·.type) = some 73 := by kernel_rfl

theorem of_laid8 {W : World} (h : laidMetH Tryd.prog laid8 W) : EL W := by
  rw [MakeChecks.laidMetH_plain _ _ _ (by kernel_rfl)] at h
  obtain ⟨ps, ⟨a3, b3, cs3, f3, p3, q3, hg3, ht3, hv3, hd3, ⟨a5, b5, cs5, f5, p5, q5, hg5, ht5, hv5, hd5, ⟨a4, b4, cs4, f4, p4, q4, hg4, ht4, hv4, hd4, ⟨a6, b6, cs6, f6, p6, q6, hg6, ht6, hv6, hd6, ⟨a7, b7, cs7, f7, p7, q7, hg7, ht7, hv7, hd7, ⟨a8, b8, cs8, f8, p8, q8, hg8, ht8, hv8, hd8, ⟨a2, b2, cs2, f2, p2, q2, hg2, ht2, hv2, hd2, ⟨a1, b1, cs1, f1, p1, q1, hg1, ht1, hv1, hd1, _, _⟩, _⟩, _⟩, _⟩, _⟩, _⟩, _⟩, _⟩, _⟩ := h
  obtain rfl := Option.some.inj (g1.symm.trans hg1)
  obtain rfl := Option.some.inj (g2.symm.trans hg2)
  obtain rfl := Option.some.inj (g3.symm.trans hg3)
  obtain rfl := Option.some.inj (g4.symm.trans hg4)
  obtain rfl := Option.some.inj (g5.symm.trans hg5)
  obtain rfl := Option.some.inj (g6.symm.trans hg6)
  obtain rfl := Option.some.inj (g7.symm.trans hg7)
  obtain rfl := Option.some.inj (g8.symm.trans hg8)
  obtain rfl := Option.some.inj (t1.symm.trans ht1)
  obtain rfl := Option.some.inj (t2.symm.trans ht2)
  obtain rfl := Option.some.inj (t3.symm.trans ht3)
  obtain rfl := Option.some.inj (t4.symm.trans ht4)
  obtain rfl := Option.some.inj (t5.symm.trans ht5)
  obtain rfl := Option.some.inj (t6.symm.trans ht6)
  obtain rfl := Option.some.inj (t7.symm.trans ht7)
  obtain rfl := Option.some.inj (t8.symm.trans ht8)
  intro g h1 h2
  rcases (by omega : g = 0 ∨ g = 2 ∨ g = 3 ∨ g = 4 ∨ g = 5 ∨ g = 6 ∨ g = 7 ∨ g = 8) with rfl | rfl | rfl | rfl | rfl | rfl | rfl | rfl
  · exact not_nil g1 hv1 Tryd.underlying73 hd1
  · exact not_nil g2 hv2 Tryd.underlying73 hd2
  · exact not_nil g3 hv3 Tryd.underlying73 hd3
  · exact not_nil g4 hv4 Tryd.underlying73 hd4
  · exact not_nil g5 hv5 Tryd.underlying73 hd5
  · exact not_nil g6 hv6 Tryd.underlying73 hd6
  · exact not_nil g7 hv7 Tryd.underlying73 hd7
  · exact not_nil g8 hv8 Tryd.underlying73 hd8

theorem trodVars_len {H : Type} {enc : TypeId × Value → H} {P : Program} {w : World} {sp : Nat → Bool} : ∀ {ns : List String} {gs : List (DataW H)} {ps : List MemPlace}, DataW.TrodVars enc P w sp ns gs ps → gs.length = ns.length
  | [], [], _, _ => rfl
  | [], _ :: _, _, h => h.elim
  | _ :: _, [], _, h => h.elim
  | _ :: _, _ :: _, _, ⟨_, _, _, _, _, _, _, _, _, _, hs, _⟩ => by simp [trodVars_len hs]
theorem eight {H : Type} {gs : List (DataW H)} (h : gs.length = 8) : ∃ x1 x2 x3 x4 x5 x6 x7 x8, gs = [x1, x2, x3, x4, x5, x6, x7, x8] := by
  match gs, h with
  | [x1, x2, x3, x4, x5, x6, x7, x8], _ => exact ⟨_, _, _, _, _, _, _, _, rfl⟩

end Go.Proofs.YtapailihjlfkgaaDoor
