/- The listed tables and refusals as the text lays them: ten of them. -/
import Derived.Test.YtgnhpjlfdkpaiaaDoorFr
import Derived.Test.YtgnhpjlfdkpaiaaDoorRV2
import Derived.Lib.LaidTab
namespace Go.Proofs.YtgnhpjlfdkpaiaaDoor
open Go.ChangeShapes Go.WideShapes Go.ChangeAt Go.WideMaps Go.WideElems Go.RowKit
set_option linter.unusedVariables false

def laid10 : List (String × DataW Unit) := [("math/bits.deBruijn32tab", Rows.laid_math_bits_deBruijn32tab), ("math/bits.deBruijn64tab", Rows.laid_math_bits_deBruijn64tab), ("internal/strconv.uint64pow10", Rows.laid_internal_strconv_uint64pow10), ("loop.example/g00040/impl.errNoName", Rows.laid_loop_example_g00040_impl_errNoName), ("loop.example/g00040/impl.errNoKind", Rows.laid_loop_example_g00040_impl_errNoKind), ("loop.example/g00040/impl.errTwice", Rows.laid_loop_example_g00040_impl_errTwice), ("loop.example/g00040/impl.errGap", Rows.laid_loop_example_g00040_impl_errGap), ("loop.example/g00040/impl.errOtherKind", Rows.laid_loop_example_g00040_impl_errOtherKind), ("loop.example/g00040/impl.errTooDeep", Rows.laid_loop_example_g00040_impl_errTooDeep), ("loop.example/g00040/impl.errTooMany", Rows.laid_loop_example_g00040_impl_errTooMany)]
set_option maxRecDepth 100000 in
theorem door_met10 (os : Os) (args : Array Value) : laidMetH Tryd.prog laid10 ((World.doorLaid Tryd.prog 400 os).forCall (fun _ _ => 0) ⟨#[], args, []⟩).memory :=
  laidMetH_of_parts3 (fuel := 8) (laidMet_of_run' 8 (by kernel_rfl) (by kernel_rfl)) (by kernel_rfl) (by kernel_rfl)
theorem tab_eq : (Rows.laid_internal_strconv_uint64pow10 : DataW Unit) = Lib.tabData .u64 Lib.pow10Tab := by kernel_rfl
theorem tPow : (Tryd.prog.globals[7]?).map (·.type) = some 222 := by kernel_rfl

theorem of_laid10 {W : World} (h : laidMetH Tryd.prog laid10 W) : EL W ∧ TP W := by
  rw [MakeChecks.laidMetH_plain _ _ _ (by kernel_rfl)] at h
  obtain ⟨ps, ⟨z0, zt0, zc0, zf0, zp0, zq0, yg0, yt0, yv0, yd0, ⟨z1, zt1, zc1, zf1, zp1, zq1, yg1, yt1, yv1, yd1, ⟨z9, zt9, zc9, zf9, zp9, zq9, yg9, yt9, yv9, yd9, ⟨a3, b3, cs3, f3, p3, q3, hg3, ht3, hv3, hd3, ⟨a5, b5, cs5, f5, p5, q5, hg5, ht5, hv5, hd5, ⟨a4, b4, cs4, f4, p4, q4, hg4, ht4, hv4, hd4, ⟨a6, b6, cs6, f6, p6, q6, hg6, ht6, hv6, hd6, ⟨a7, b7, cs7, f7, p7, q7, hg7, ht7, hv7, hd7, ⟨a8, b8, cs8, f8, p8, q8, hg8, ht8, hv8, hd8, ⟨a2, b2, cs2, f2, p2, q2, hg2, ht2, hv2, hd2, _, _⟩, _⟩, _⟩, _⟩, _⟩, _⟩, _⟩, _⟩, _⟩, _⟩, _⟩ := h
  obtain rfl := Option.some.inj (g2.symm.trans hg2)
  obtain rfl := Option.some.inj (g3.symm.trans hg3)
  obtain rfl := Option.some.inj (g4.symm.trans hg4)
  obtain rfl := Option.some.inj (g5.symm.trans hg5)
  obtain rfl := Option.some.inj (g6.symm.trans hg6)
  obtain rfl := Option.some.inj (g7.symm.trans hg7)
  obtain rfl := Option.some.inj (g8.symm.trans hg8)
  obtain rfl := Option.some.inj (t2.symm.trans ht2)
  obtain rfl := Option.some.inj (t3.symm.trans ht3)
  obtain rfl := Option.some.inj (t4.symm.trans ht4)
  obtain rfl := Option.some.inj (t5.symm.trans ht5)
  obtain rfl := Option.some.inj (t6.symm.trans ht6)
  obtain rfl := Option.some.inj (t7.symm.trans ht7)
  obtain rfl := Option.some.inj (t8.symm.trans ht8)
  obtain rfl := Option.some.inj (gPow.symm.trans yg9)
  obtain rfl := Option.some.inj (tPow.symm.trans yt9)
  rw [tab_eq] at yd9
  refine ⟨?_, ?_⟩
  rotate_left
  · unfold TP Lib.TabIs
    rw [yv9, ← Lib.cells_of_tab Tryd.underlying222 Tryd.underlying213 (by kernel_rfl) (by kernel_rfl) yd9]
  intro g h1 h2
  rcases (by omega : g = 0 ∨ g = 1 ∨ g = 2 ∨ g = 3 ∨ g = 4 ∨ g = 5 ∨ g = 6) with rfl | rfl | rfl | rfl | rfl | rfl | rfl
  · exact not_nil g2 hv2 Tryd.underlying192 hd2
  · exact not_nil g3 hv3 Tryd.underlying192 hd3
  · exact not_nil g4 hv4 Tryd.underlying192 hd4
  · exact not_nil g5 hv5 Tryd.underlying192 hd5
  · exact not_nil g6 hv6 Tryd.underlying192 hd6
  · exact not_nil g7 hv7 Tryd.underlying192 hd7
  · exact not_nil g8 hv8 Tryd.underlying192 hd8


end Go.Proofs.YtgnhpjlfdkpaiaaDoor
