/-
  DERIVED. GIVEN WITH THE SEED: THE PROGRAM's TIES (one call each: nine closed facts by the kernel) AND EACH ROW's TIE, after the 31st guide's Derived/Test/Toyas{Tie, Card}.lean. No idea stands in it: it is a product of the set-up. Laid BY PROGRAM, IN A SANDBOX (cutbox-door.mjs). By AI agents, Wed Nov 11 2026. No macro, syntax, notation, axiom, sorry.
-/
import Derived.Test.YtgnhpjlfdkpaiaaDoorRows
import Derived.LaidByTextLater
import Derived.SevenTiedAt
import Derived.LaidSub
import Derived.LaidOnce
namespace Go.Proofs.YtgnhpjlfdkpaiaaDoor
open Go
set_option maxRecDepth 100000
theorem seatTie1 : Tryd.prog.laidByTextLater [("math/bits.deBruijn32tab", Rows.laid_math_bits_deBruijn32tab), ("math/bits.deBruijn64tab", Rows.laid_math_bits_deBruijn64tab), ("internal/strconv.uint64pow10", Rows.laid_internal_strconv_uint64pow10), ("loop.example/g00040/impl.errNoName", Rows.laid_loop_example_g00040_impl_errNoName), ("loop.example/g00040/impl.errNoKind", Rows.laid_loop_example_g00040_impl_errNoKind), ("loop.example/g00040/impl.errTwice", Rows.laid_loop_example_g00040_impl_errTwice), ("loop.example/g00040/impl.errGap", Rows.laid_loop_example_g00040_impl_errGap), ("loop.example/g00040/impl.errOtherKind", Rows.laid_loop_example_g00040_impl_errOtherKind), ("loop.example/g00040/impl.errTooDeep", Rows.laid_loop_example_g00040_impl_errTooDeep), ("loop.example/g00040/impl.errTooMany", Rows.laid_loop_example_g00040_impl_errTooMany)] [.data, .data, .data, .sentinel, .sentinel, .sentinel, .sentinel, .sentinel, .sentinel, .sentinel] true :=
  Program.laidByTextLater_by_one 157 8 65 (by kernel_rfl) (by kernel_rfl) (by kernel_rfl) (by kernel_rfl) (by kernel_rfl) (by kernel_rfl) (fun _ _ => by kernel_rfl)
theorem noOwnUnsafe : Tryd.pinned.checked.prog.headLifts.contains "ownunsafe" = false := by kernel_rfl
theorem tie : Tryd.prog.laidByTextLater [("loop.example/g00040/impl.errNoName", Rows.laid_loop_example_g00040_impl_errNoName), ("loop.example/g00040/impl.errNoKind", Rows.laid_loop_example_g00040_impl_errNoKind), ("loop.example/g00040/impl.errTwice", Rows.laid_loop_example_g00040_impl_errTwice), ("loop.example/g00040/impl.errGap", Rows.laid_loop_example_g00040_impl_errGap), ("loop.example/g00040/impl.errOtherKind", Rows.laid_loop_example_g00040_impl_errOtherKind), ("loop.example/g00040/impl.errTooDeep", Rows.laid_loop_example_g00040_impl_errTooDeep), ("loop.example/g00040/impl.errTooMany", Rows.laid_loop_example_g00040_impl_errTooMany)] [.sentinel, .sentinel, .sentinel, .sentinel, .sentinel, .sentinel, .sentinel] true :=
  Program.laidByTextLater.sub seatTie1 ["loop.example/g00040/impl.errNoName", "loop.example/g00040/impl.errNoKind", "loop.example/g00040/impl.errTwice", "loop.example/g00040/impl.errGap", "loop.example/g00040/impl.errOtherKind", "loop.example/g00040/impl.errTooDeep", "loop.example/g00040/impl.errTooMany"] (by kernel_rfl) (by kernel_rfl)
theorem fnPosted_row_tie : Rows.fnPostedRow.laidByTextAt .later Tryd.pinned [.sentinel, .sentinel, .sentinel, .sentinel, .sentinel, .sentinel, .sentinel] true :=
  OpenClaim.laidByTextAt_later rfl rfl tie noOwnUnsafe
theorem fnSpreadWhole_row_tie : Rows.fnSpreadWholeRow.laidByTextAt .later Tryd.pinned [.sentinel, .sentinel, .sentinel, .sentinel, .sentinel, .sentinel, .sentinel] true :=
  OpenClaim.laidByTextAt_later rfl rfl tie noOwnUnsafe
theorem fnExactFrameOk_row_tie : Rows.fnExactFrameOkRow.laidByTextAt .later Tryd.pinned [.sentinel, .sentinel, .sentinel, .sentinel, .sentinel, .sentinel, .sentinel] true :=
  OpenClaim.laidByTextAt_later rfl rfl tie noOwnUnsafe
theorem fnExactEntryOk_row_tie : Rows.fnExactEntryOkRow.laidByTextAt .later Tryd.pinned [.sentinel, .sentinel, .sentinel, .sentinel, .sentinel, .sentinel, .sentinel] true :=
  OpenClaim.laidByTextAt_later rfl rfl tie noOwnUnsafe
theorem fnExactLedgerOk_row_tie : Rows.fnExactLedgerOkRow.laidByTextAt .later Tryd.pinned [.sentinel, .sentinel, .sentinel, .sentinel, .sentinel, .sentinel, .sentinel] true :=
  OpenClaim.laidByTextAt_later rfl rfl tie noOwnUnsafe
theorem fnExactPost_row_tie : Rows.fnExactPostRow.laidByTextAt .later Tryd.pinned [.sentinel, .sentinel, .sentinel, .sentinel, .sentinel, .sentinel, .sentinel] true :=
  OpenClaim.laidByTextAt_later rfl rfl tie noOwnUnsafe
theorem fnExactTrial_row_tie : Rows.fnExactTrialRow.laidByTextAt .later Tryd.pinned [.sentinel, .sentinel, .sentinel, .sentinel, .sentinel, .sentinel, .sentinel] true :=
  OpenClaim.laidByTextAt_later rfl rfl tie noOwnUnsafe
theorem fnExactSpread_row_tie : Rows.fnExactSpreadRow.laidByTextAt .later Tryd.pinned [.sentinel, .sentinel, .sentinel, .sentinel, .sentinel, .sentinel, .sentinel] true :=
  OpenClaim.laidByTextAt_later rfl rfl tie noOwnUnsafe
theorem tie2 : Tryd.prog.laidByTextLater [("math/bits.deBruijn32tab", Rows.laid_math_bits_deBruijn32tab), ("math/bits.deBruijn64tab", Rows.laid_math_bits_deBruijn64tab), ("internal/strconv.uint64pow10", Rows.laid_internal_strconv_uint64pow10), ("loop.example/g00040/impl.errNoName", Rows.laid_loop_example_g00040_impl_errNoName), ("loop.example/g00040/impl.errNoKind", Rows.laid_loop_example_g00040_impl_errNoKind), ("loop.example/g00040/impl.errTwice", Rows.laid_loop_example_g00040_impl_errTwice), ("loop.example/g00040/impl.errGap", Rows.laid_loop_example_g00040_impl_errGap), ("loop.example/g00040/impl.errOtherKind", Rows.laid_loop_example_g00040_impl_errOtherKind), ("loop.example/g00040/impl.errTooDeep", Rows.laid_loop_example_g00040_impl_errTooDeep), ("loop.example/g00040/impl.errTooMany", Rows.laid_loop_example_g00040_impl_errTooMany)] [.data, .data, .data, .sentinel, .sentinel, .sentinel, .sentinel, .sentinel, .sentinel, .sentinel] true :=
  Program.laidByTextLater.sub seatTie1 ["math/bits.deBruijn32tab", "math/bits.deBruijn64tab", "internal/strconv.uint64pow10", "loop.example/g00040/impl.errNoName", "loop.example/g00040/impl.errNoKind", "loop.example/g00040/impl.errTwice", "loop.example/g00040/impl.errGap", "loop.example/g00040/impl.errOtherKind", "loop.example/g00040/impl.errTooDeep", "loop.example/g00040/impl.errTooMany"] (by kernel_rfl) (by kernel_rfl)
theorem fnReversed_row_tie : Rows.fnReversedRow.laidByTextAt .later Tryd.pinned [.data, .data, .data, .sentinel, .sentinel, .sentinel, .sentinel, .sentinel, .sentinel, .sentinel] true :=
  OpenClaim.laidByTextAt_later rfl rfl tie2 noOwnUnsafe
theorem fnExactReverse_row_tie : Rows.fnExactReverseRow.laidByTextAt .later Tryd.pinned [.data, .data, .data, .sentinel, .sentinel, .sentinel, .sentinel, .sentinel, .sentinel, .sentinel] true :=
  OpenClaim.laidByTextAt_later rfl rfl tie2 noOwnUnsafe
theorem fnPostedUpto_row_tie : Rows.fnPostedUptoRow.laidByTextAt .later Tryd.pinned [.sentinel, .sentinel, .sentinel, .sentinel, .sentinel, .sentinel, .sentinel] true :=
  OpenClaim.laidByTextAt_later rfl rfl tie noOwnUnsafe
theorem fnReversedUpto_row_tie : Rows.fnReversedUptoRow.laidByTextAt .later Tryd.pinned [.data, .data, .data, .sentinel, .sentinel, .sentinel, .sentinel, .sentinel, .sentinel, .sentinel] true :=
  OpenClaim.laidByTextAt_later rfl rfl tie2 noOwnUnsafe
theorem fnSpreadWholeUpto_row_tie : Rows.fnSpreadWholeUptoRow.laidByTextAt .later Tryd.pinned [.sentinel, .sentinel, .sentinel, .sentinel, .sentinel, .sentinel, .sentinel] true :=
  OpenClaim.laidByTextAt_later rfl rfl tie noOwnUnsafe
theorem fnExactFrameOkUpto_row_tie : Rows.fnExactFrameOkUptoRow.laidByTextAt .later Tryd.pinned [.sentinel, .sentinel, .sentinel, .sentinel, .sentinel, .sentinel, .sentinel] true :=
  OpenClaim.laidByTextAt_later rfl rfl tie noOwnUnsafe
theorem fnExactEntryOkUpto_row_tie : Rows.fnExactEntryOkUptoRow.laidByTextAt .later Tryd.pinned [.sentinel, .sentinel, .sentinel, .sentinel, .sentinel, .sentinel, .sentinel] true :=
  OpenClaim.laidByTextAt_later rfl rfl tie noOwnUnsafe
theorem fnExactLedgerOkUpto_row_tie : Rows.fnExactLedgerOkUptoRow.laidByTextAt .later Tryd.pinned [.sentinel, .sentinel, .sentinel, .sentinel, .sentinel, .sentinel, .sentinel] true :=
  OpenClaim.laidByTextAt_later rfl rfl tie noOwnUnsafe
theorem fnExactPostUpto_row_tie : Rows.fnExactPostUptoRow.laidByTextAt .later Tryd.pinned [.sentinel, .sentinel, .sentinel, .sentinel, .sentinel, .sentinel, .sentinel] true :=
  OpenClaim.laidByTextAt_later rfl rfl tie noOwnUnsafe
theorem fnExactReverseUpto_row_tie : Rows.fnExactReverseUptoRow.laidByTextAt .later Tryd.pinned [.data, .data, .data, .sentinel, .sentinel, .sentinel, .sentinel, .sentinel, .sentinel, .sentinel] true :=
  OpenClaim.laidByTextAt_later rfl rfl tie2 noOwnUnsafe
theorem fnExactTrialUpto_row_tie : Rows.fnExactTrialUptoRow.laidByTextAt .later Tryd.pinned [.sentinel, .sentinel, .sentinel, .sentinel, .sentinel, .sentinel, .sentinel] true :=
  OpenClaim.laidByTextAt_later rfl rfl tie noOwnUnsafe
theorem fnExactSpreadUpto_row_tie : Rows.fnExactSpreadUptoRow.laidByTextAt .later Tryd.pinned [.sentinel, .sentinel, .sentinel, .sentinel, .sentinel, .sentinel, .sentinel] true :=
  OpenClaim.laidByTextAt_later rfl rfl tie noOwnUnsafe
end Go.Proofs.YtgnhpjlfdkpaiaaDoor
