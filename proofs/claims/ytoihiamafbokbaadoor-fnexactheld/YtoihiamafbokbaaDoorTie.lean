/-
  DERIVED. GIVEN WITH THE SEED: THE PROGRAM's TIES (one call each: nine closed facts by the kernel) AND EACH ROW's TIE, after the 31st guide's Derived/Test/Toyas{Tie, Card}.lean. No idea stands in it: it is a product of the set-up. Laid BY PROGRAM, IN A SANDBOX (cutbox-door.mjs). By AI agents, Wed Nov 11 2026. No macro, syntax, notation, axiom, sorry.
-/
import Derived.Test.YtoihiamafbokbaaDoorRows
import Derived.LaidByTextLater
import Derived.SevenTiedAt
import Derived.LaidSub
import Derived.LaidOnce
namespace Go.Proofs.YtoihiamafbokbaaDoor
open Go
set_option maxRecDepth 100000
theorem seatTie1 : Tryd.prog.laidByTextLater [("loop.example/g00040/impl.errNoName", Rows.laid_loop_example_g00040_impl_errNoName), ("loop.example/g00040/impl.errNoKind", Rows.laid_loop_example_g00040_impl_errNoKind), ("loop.example/g00040/impl.errTwice", Rows.laid_loop_example_g00040_impl_errTwice), ("loop.example/g00040/impl.errGap", Rows.laid_loop_example_g00040_impl_errGap), ("loop.example/g00040/impl.errOtherKind", Rows.laid_loop_example_g00040_impl_errOtherKind), ("loop.example/g00040/impl.errTooDeep", Rows.laid_loop_example_g00040_impl_errTooDeep), ("loop.example/g00040/impl.errTooMany", Rows.laid_loop_example_g00040_impl_errTooMany)] [.sentinel, .sentinel, .sentinel, .sentinel, .sentinel, .sentinel, .sentinel] true :=
  Program.laidByTextLater_by_one 142 8 2 (by kernel_rfl) (by kernel_rfl) (by kernel_rfl) (by kernel_rfl) (by kernel_rfl) (by kernel_rfl) (fun _ _ => by kernel_rfl)
theorem noOwnUnsafe : Tryd.pinned.checked.prog.headLifts.contains "ownunsafe" = false := by kernel_rfl
theorem tie : Tryd.prog.laidByTextLater [("loop.example/g00040/impl.errNoName", Rows.laid_loop_example_g00040_impl_errNoName), ("loop.example/g00040/impl.errNoKind", Rows.laid_loop_example_g00040_impl_errNoKind), ("loop.example/g00040/impl.errTwice", Rows.laid_loop_example_g00040_impl_errTwice), ("loop.example/g00040/impl.errGap", Rows.laid_loop_example_g00040_impl_errGap), ("loop.example/g00040/impl.errOtherKind", Rows.laid_loop_example_g00040_impl_errOtherKind), ("loop.example/g00040/impl.errTooDeep", Rows.laid_loop_example_g00040_impl_errTooDeep), ("loop.example/g00040/impl.errTooMany", Rows.laid_loop_example_g00040_impl_errTooMany)] [.sentinel, .sentinel, .sentinel, .sentinel, .sentinel, .sentinel, .sentinel] true :=
  Program.laidByTextLater.sub seatTie1 ["loop.example/g00040/impl.errNoName", "loop.example/g00040/impl.errNoKind", "loop.example/g00040/impl.errTwice", "loop.example/g00040/impl.errGap", "loop.example/g00040/impl.errOtherKind", "loop.example/g00040/impl.errTooDeep", "loop.example/g00040/impl.errTooMany"] (by kernel_rfl) (by kernel_rfl)
theorem fnExactGroupOk_row_tie : Rows.fnExactGroupOkRow.laidByTextAt .later Tryd.pinned [.sentinel, .sentinel, .sentinel, .sentinel, .sentinel, .sentinel, .sentinel] true :=
  OpenClaim.laidByTextAt_later rfl rfl tie noOwnUnsafe
theorem fnExactHeld_row_tie : Rows.fnExactHeldRow.laidByTextAt .later Tryd.pinned [.sentinel, .sentinel, .sentinel, .sentinel, .sentinel, .sentinel, .sentinel] true :=
  OpenClaim.laidByTextAt_later rfl rfl tie noOwnUnsafe
theorem fnExactGroupOkUpto_row_tie : Rows.fnExactGroupOkUptoRow.laidByTextAt .later Tryd.pinned [.sentinel, .sentinel, .sentinel, .sentinel, .sentinel, .sentinel, .sentinel] true :=
  OpenClaim.laidByTextAt_later rfl rfl tie noOwnUnsafe
theorem fnExactHeldUpto_row_tie : Rows.fnExactHeldUptoRow.laidByTextAt .later Tryd.pinned [.sentinel, .sentinel, .sentinel, .sentinel, .sentinel, .sentinel, .sentinel] true :=
  OpenClaim.laidByTextAt_later rfl rfl tie noOwnUnsafe
end Go.Proofs.YtoihiamafbokbaaDoor
