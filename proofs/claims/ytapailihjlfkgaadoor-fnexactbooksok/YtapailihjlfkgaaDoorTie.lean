/-
  DERIVED. GIVEN WITH THE SEED: THE PROGRAM's TIES (one call each: nine closed facts by the kernel) AND EACH ROW's TIE, after the 31st guide's Derived/Test/Toyas{Tie, Card}.lean. No idea stands in it: it is a product of the set-up. Laid BY PROGRAM, IN A SANDBOX (cutbox-door.mjs). By AI agents, Wed Nov 11 2026. No macro, syntax, notation, axiom, sorry.
-/
import Derived.Test.YtapailihjlfkgaaDoorRows
import Derived.LaidByTextLater
import Derived.SevenTiedAt
import Derived.LaidSub
import Derived.LaidOnce
namespace Go.Proofs.YtapailihjlfkgaaDoor
open Go
set_option maxRecDepth 100000
theorem seatTie1 : Tryd.prog.laidByTextLater [("loop.example/g00040/impl.errNoName", Rows.laid_loop_example_g00040_impl_errNoName), ("loop.example/g00040/impl.errNoKind", Rows.laid_loop_example_g00040_impl_errNoKind), ("loop.example/g00040/impl.errTwice", Rows.laid_loop_example_g00040_impl_errTwice), ("loop.example/g00040/impl.errGap", Rows.laid_loop_example_g00040_impl_errGap), ("loop.example/g00040/impl.errOtherKind", Rows.laid_loop_example_g00040_impl_errOtherKind), ("loop.example/g00040/impl.errTooDeep", Rows.laid_loop_example_g00040_impl_errTooDeep), ("loop.example/g00040/impl.errTooMany", Rows.laid_loop_example_g00040_impl_errTooMany), ("loop.example/g00040/impl.errBooks", Rows.laid_loop_example_g00040_impl_errBooks), ("loop.example/g00040/impl.errEntry", Rows.laid_loop_example_g00040_impl_errEntry)] [.sentinel, .sentinel, .sentinel, .sentinel, .sentinel, .sentinel, .sentinel, .sentinel, .sentinel] true :=
  Program.laidByTextLater_by_one 180 8 2 (by kernel_rfl) (by kernel_rfl) (by kernel_rfl) (by kernel_rfl) (by kernel_rfl) (by kernel_rfl) (fun _ _ => by kernel_rfl)
theorem noOwnUnsafe : Tryd.pinned.checked.prog.headLifts.contains "ownunsafe" = false := by kernel_rfl
theorem tie : Tryd.prog.laidByTextLater [("loop.example/g00040/impl.errNoName", Rows.laid_loop_example_g00040_impl_errNoName), ("loop.example/g00040/impl.errNoKind", Rows.laid_loop_example_g00040_impl_errNoKind), ("loop.example/g00040/impl.errTwice", Rows.laid_loop_example_g00040_impl_errTwice), ("loop.example/g00040/impl.errGap", Rows.laid_loop_example_g00040_impl_errGap), ("loop.example/g00040/impl.errOtherKind", Rows.laid_loop_example_g00040_impl_errOtherKind), ("loop.example/g00040/impl.errTooDeep", Rows.laid_loop_example_g00040_impl_errTooDeep), ("loop.example/g00040/impl.errTooMany", Rows.laid_loop_example_g00040_impl_errTooMany), ("loop.example/g00040/impl.errBooks", Rows.laid_loop_example_g00040_impl_errBooks), ("loop.example/g00040/impl.errEntry", Rows.laid_loop_example_g00040_impl_errEntry)] [.sentinel, .sentinel, .sentinel, .sentinel, .sentinel, .sentinel, .sentinel, .sentinel, .sentinel] true :=
  Program.laidByTextLater.sub seatTie1 ["loop.example/g00040/impl.errNoName", "loop.example/g00040/impl.errNoKind", "loop.example/g00040/impl.errTwice", "loop.example/g00040/impl.errGap", "loop.example/g00040/impl.errOtherKind", "loop.example/g00040/impl.errTooDeep", "loop.example/g00040/impl.errTooMany", "loop.example/g00040/impl.errBooks", "loop.example/g00040/impl.errEntry"] (by kernel_rfl) (by kernel_rfl)
theorem fnYearClosed_row_tie : Rows.fnYearClosedRow.laidByTextAt .later Tryd.pinned [.sentinel, .sentinel, .sentinel, .sentinel, .sentinel, .sentinel, .sentinel, .sentinel, .sentinel] true :=
  OpenClaim.laidByTextAt_later rfl rfl tie noOwnUnsafe
theorem tie2 : Tryd.prog.laidByTextLater [("loop.example/g00040/impl.errNoName", Rows.laid_loop_example_g00040_impl_errNoName), ("loop.example/g00040/impl.errNoKind", Rows.laid_loop_example_g00040_impl_errNoKind), ("loop.example/g00040/impl.errTwice", Rows.laid_loop_example_g00040_impl_errTwice), ("loop.example/g00040/impl.errGap", Rows.laid_loop_example_g00040_impl_errGap), ("loop.example/g00040/impl.errOtherKind", Rows.laid_loop_example_g00040_impl_errOtherKind), ("loop.example/g00040/impl.errTooDeep", Rows.laid_loop_example_g00040_impl_errTooDeep), ("loop.example/g00040/impl.errTooMany", Rows.laid_loop_example_g00040_impl_errTooMany), ("loop.example/g00040/impl.errBooks", Rows.laid_loop_example_g00040_impl_errBooks)] [.sentinel, .sentinel, .sentinel, .sentinel, .sentinel, .sentinel, .sentinel, .sentinel] true :=
  Program.laidByTextLater.sub seatTie1 ["loop.example/g00040/impl.errNoName", "loop.example/g00040/impl.errNoKind", "loop.example/g00040/impl.errTwice", "loop.example/g00040/impl.errGap", "loop.example/g00040/impl.errOtherKind", "loop.example/g00040/impl.errTooDeep", "loop.example/g00040/impl.errTooMany", "loop.example/g00040/impl.errBooks"] (by kernel_rfl) (by kernel_rfl)
theorem fnMovesJoined_row_tie : Rows.fnMovesJoinedRow.laidByTextAt .later Tryd.pinned [.sentinel, .sentinel, .sentinel, .sentinel, .sentinel, .sentinel, .sentinel, .sentinel] true :=
  OpenClaim.laidByTextAt_later rfl rfl tie2 noOwnUnsafe
theorem fnExactBooksOk_row_tie : Rows.fnExactBooksOkRow.laidByTextAt .later Tryd.pinned [.sentinel, .sentinel, .sentinel, .sentinel, .sentinel, .sentinel, .sentinel, .sentinel] true :=
  OpenClaim.laidByTextAt_later rfl rfl tie2 noOwnUnsafe
theorem fnYearClosedUpto_row_tie : Rows.fnYearClosedUptoRow.laidByTextAt .later Tryd.pinned [.sentinel, .sentinel, .sentinel, .sentinel, .sentinel, .sentinel, .sentinel, .sentinel, .sentinel] true :=
  OpenClaim.laidByTextAt_later rfl rfl tie noOwnUnsafe
theorem fnMovesJoinedUpto_row_tie : Rows.fnMovesJoinedUptoRow.laidByTextAt .later Tryd.pinned [.sentinel, .sentinel, .sentinel, .sentinel, .sentinel, .sentinel, .sentinel, .sentinel] true :=
  OpenClaim.laidByTextAt_later rfl rfl tie2 noOwnUnsafe
theorem fnExactBooksOkUpto_row_tie : Rows.fnExactBooksOkUptoRow.laidByTextAt .later Tryd.pinned [.sentinel, .sentinel, .sentinel, .sentinel, .sentinel, .sentinel, .sentinel, .sentinel] true :=
  OpenClaim.laidByTextAt_later rfl rfl tie2 noOwnUnsafe
end Go.Proofs.YtapailihjlfkgaaDoor
