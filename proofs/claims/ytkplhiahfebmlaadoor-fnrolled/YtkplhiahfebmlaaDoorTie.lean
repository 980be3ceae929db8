/-
  DERIVED. GIVEN WITH THE SEED: THE PROGRAM's TIES (one call each: nine closed facts by the kernel) AND EACH ROW's TIE, after the 31st guide's Derived/Test/Toyas{Tie, Card}.lean. No idea stands in it: it is a product of the set-up. Laid BY PROGRAM, IN A SANDBOX (cutbox-door.mjs). By AI agents, Wed Nov 11 2026. No macro, syntax, notation, axiom, sorry.
-/
import Derived.Test.YtkplhiahfebmlaaDoorRows
import Derived.LaidByTextLater
import Derived.SevenTiedAt
import Derived.LaidSub
import Derived.LaidOnce
namespace Go.Proofs.YtkplhiahfebmlaaDoor
open Go
set_option maxRecDepth 100000
theorem seatTie1 : Tryd.prog.laidByTextLater [("unicode/utf8.acceptRanges", Rows.laid_unicode_utf8_acceptRanges), ("errors.errorType", Rows.laid_errors_errorType), ("loop.example/g00040/impl.errNoEnd", Rows.laid_loop_example_g00040_impl_errNoEnd), ("loop.example/g00040/impl.errNoAccount", Rows.laid_loop_example_g00040_impl_errNoAccount), ("loop.example/g00040/impl.errNoName", Rows.laid_loop_example_g00040_impl_errNoName), ("loop.example/g00040/impl.errNoKind", Rows.laid_loop_example_g00040_impl_errNoKind), ("loop.example/g00040/impl.errTwice", Rows.laid_loop_example_g00040_impl_errTwice), ("loop.example/g00040/impl.errGap", Rows.laid_loop_example_g00040_impl_errGap), ("loop.example/g00040/impl.errOtherKind", Rows.laid_loop_example_g00040_impl_errOtherKind), ("loop.example/g00040/impl.errTooDeep", Rows.laid_loop_example_g00040_impl_errTooDeep), ("loop.example/g00040/impl.errTooMany", Rows.laid_loop_example_g00040_impl_errTooMany)] [.data, .handle, .sentinel, .sentinel, .sentinel, .sentinel, .sentinel, .sentinel, .sentinel, .sentinel, .sentinel] true :=
  Program.laidByTextLater_by_one 197 8 33 (by kernel_rfl) (by kernel_rfl) (by kernel_rfl) (by kernel_rfl) (by kernel_rfl) (by kernel_rfl) (fun _ _ => by kernel_rfl)
theorem pin_laid_unicode_utf8_first : Tryd.pinned.checked.prog.pinnedFits "unicode/utf8.first" = true := by kernel_rfl
theorem noOwnUnsafe : Tryd.pinned.checked.prog.headLifts.contains "ownunsafe" = false := by kernel_rfl
theorem tie : Tryd.prog.laidByTextLater [("loop.example/g00040/impl.errNoName", Rows.laid_loop_example_g00040_impl_errNoName), ("loop.example/g00040/impl.errNoKind", Rows.laid_loop_example_g00040_impl_errNoKind), ("loop.example/g00040/impl.errTwice", Rows.laid_loop_example_g00040_impl_errTwice), ("loop.example/g00040/impl.errGap", Rows.laid_loop_example_g00040_impl_errGap), ("loop.example/g00040/impl.errOtherKind", Rows.laid_loop_example_g00040_impl_errOtherKind), ("loop.example/g00040/impl.errTooDeep", Rows.laid_loop_example_g00040_impl_errTooDeep), ("loop.example/g00040/impl.errTooMany", Rows.laid_loop_example_g00040_impl_errTooMany)] [.sentinel, .sentinel, .sentinel, .sentinel, .sentinel, .sentinel, .sentinel] true :=
  Program.laidByTextLater.sub seatTie1 ["loop.example/g00040/impl.errNoName", "loop.example/g00040/impl.errNoKind", "loop.example/g00040/impl.errTwice", "loop.example/g00040/impl.errGap", "loop.example/g00040/impl.errOtherKind", "loop.example/g00040/impl.errTooDeep", "loop.example/g00040/impl.errTooMany"] (by kernel_rfl) (by kernel_rfl)
theorem fnRolled_row_tie : Rows.fnRolledRow.laidByTextAt .later Tryd.pinned [.sentinel, .sentinel, .sentinel, .sentinel, .sentinel, .sentinel, .sentinel] true :=
  OpenClaim.laidByTextAt_later rfl rfl tie noOwnUnsafe
theorem fnExactChartOk_row_tie : Rows.fnExactChartOkRow.laidByTextAt .later Tryd.pinned [.sentinel, .sentinel, .sentinel, .sentinel, .sentinel, .sentinel, .sentinel] true :=
  OpenClaim.laidByTextAt_later rfl rfl tie noOwnUnsafe
theorem fnExactFindAccount_row_tie : Rows.fnExactFindAccountRow.laidByTextAt .later Tryd.pinned [.sentinel, .sentinel, .sentinel, .sentinel, .sentinel, .sentinel, .sentinel] true :=
  OpenClaim.laidByTextAt_later rfl rfl tie noOwnUnsafe
theorem fnExactLeaf_row_tie : Rows.fnExactLeafRow.laidByTextAt .later Tryd.pinned [.sentinel, .sentinel, .sentinel, .sentinel, .sentinel, .sentinel, .sentinel] true :=
  OpenClaim.laidByTextAt_later rfl rfl tie noOwnUnsafe
theorem fnExactUnder_row_tie : Rows.fnExactUnderRow.laidByTextAt .later Tryd.pinned [.sentinel, .sentinel, .sentinel, .sentinel, .sentinel, .sentinel, .sentinel] true :=
  OpenClaim.laidByTextAt_later rfl rfl tie noOwnUnsafe
theorem fnExactRoll_row_tie : Rows.fnExactRollRow.laidByTextAt .later Tryd.pinned [.sentinel, .sentinel, .sentinel, .sentinel, .sentinel, .sentinel, .sentinel] true :=
  OpenClaim.laidByTextAt_later rfl rfl tie noOwnUnsafe
theorem fnExactShowChart_row_tie : Rows.fnExactShowChartRow.laidByTextAt .later Tryd.pinned [.sentinel, .sentinel, .sentinel, .sentinel, .sentinel, .sentinel, .sentinel] true :=
  OpenClaim.laidByTextAt_later rfl rfl tie noOwnUnsafe
theorem fits2 : Tryd.pinned.checked.prog.listedFits [("unicode/utf8.acceptRanges", Rows.laid_unicode_utf8_acceptRanges), ("errors.errorType", Rows.laid_errors_errorType), ("loop.example/g00040/impl.errNoEnd", Rows.laid_loop_example_g00040_impl_errNoEnd), ("loop.example/g00040/impl.errNoAccount", Rows.laid_loop_example_g00040_impl_errNoAccount), ("loop.example/g00040/impl.errNoName", Rows.laid_loop_example_g00040_impl_errNoName), ("loop.example/g00040/impl.errNoKind", Rows.laid_loop_example_g00040_impl_errNoKind), ("loop.example/g00040/impl.errTwice", Rows.laid_loop_example_g00040_impl_errTwice), ("loop.example/g00040/impl.errGap", Rows.laid_loop_example_g00040_impl_errGap), ("loop.example/g00040/impl.errOtherKind", Rows.laid_loop_example_g00040_impl_errOtherKind), ("loop.example/g00040/impl.errTooDeep", Rows.laid_loop_example_g00040_impl_errTooDeep), ("loop.example/g00040/impl.errTooMany", Rows.laid_loop_example_g00040_impl_errTooMany), ("unicode/utf8.first", Rows.laid_unicode_utf8_first)] = true := by
  unfold Program.listedFits
  rw [noOwnUnsafe]
  kernel_rfl
theorem tie2 : Tryd.prog.laidByTextLater [("unicode/utf8.acceptRanges", Rows.laid_unicode_utf8_acceptRanges), ("errors.errorType", Rows.laid_errors_errorType), ("loop.example/g00040/impl.errNoEnd", Rows.laid_loop_example_g00040_impl_errNoEnd), ("loop.example/g00040/impl.errNoAccount", Rows.laid_loop_example_g00040_impl_errNoAccount), ("loop.example/g00040/impl.errNoName", Rows.laid_loop_example_g00040_impl_errNoName), ("loop.example/g00040/impl.errNoKind", Rows.laid_loop_example_g00040_impl_errNoKind), ("loop.example/g00040/impl.errTwice", Rows.laid_loop_example_g00040_impl_errTwice), ("loop.example/g00040/impl.errGap", Rows.laid_loop_example_g00040_impl_errGap), ("loop.example/g00040/impl.errOtherKind", Rows.laid_loop_example_g00040_impl_errOtherKind), ("loop.example/g00040/impl.errTooDeep", Rows.laid_loop_example_g00040_impl_errTooDeep), ("loop.example/g00040/impl.errTooMany", Rows.laid_loop_example_g00040_impl_errTooMany)] [.data, .handle, .sentinel, .sentinel, .sentinel, .sentinel, .sentinel, .sentinel, .sentinel, .sentinel, .sentinel] true :=
  Program.laidByTextLater.sub seatTie1 ["unicode/utf8.acceptRanges", "errors.errorType", "loop.example/g00040/impl.errNoEnd", "loop.example/g00040/impl.errNoAccount", "loop.example/g00040/impl.errNoName", "loop.example/g00040/impl.errNoKind", "loop.example/g00040/impl.errTwice", "loop.example/g00040/impl.errGap", "loop.example/g00040/impl.errOtherKind", "loop.example/g00040/impl.errTooDeep", "loop.example/g00040/impl.errTooMany"] (by kernel_rfl) (by kernel_rfl)
theorem fnExactReadChart_row_tie : Rows.fnExactReadChartRow.laidByTextAt .later Tryd.pinned [.data, .handle, .sentinel, .sentinel, .sentinel, .sentinel, .sentinel, .sentinel, .sentinel, .sentinel, .sentinel, .pinned] true :=
  OpenClaim.laidByTextAt_pinned rfl rfl tie2 rfl rfl rfl rfl (fun y hy _e => by
    simp only [Rows.fnExactReadChartRow, List.zip_cons_cons, List.zip_nil_right, List.mem_cons, List.mem_nil_iff, or_false] at hy
    rcases hy with rfl | rfl | rfl | rfl | rfl | rfl | rfl | rfl | rfl | rfl | rfl | rfl
    · cases _e
    · cases _e
    · cases _e
    · cases _e
    · cases _e
    · cases _e
    · cases _e
    · cases _e
    · cases _e
    · cases _e
    · cases _e
    · exact ⟨pin_laid_unicode_utf8_first, by kernel_rfl⟩) fits2
theorem fnRolledUpto_row_tie : Rows.fnRolledUptoRow.laidByTextAt .later Tryd.pinned [.sentinel, .sentinel, .sentinel, .sentinel, .sentinel, .sentinel, .sentinel] true :=
  OpenClaim.laidByTextAt_later rfl rfl tie noOwnUnsafe
theorem fnExactChartOkUpto_row_tie : Rows.fnExactChartOkUptoRow.laidByTextAt .later Tryd.pinned [.sentinel, .sentinel, .sentinel, .sentinel, .sentinel, .sentinel, .sentinel] true :=
  OpenClaim.laidByTextAt_later rfl rfl tie noOwnUnsafe
theorem fnExactFindAccountUpto_row_tie : Rows.fnExactFindAccountUptoRow.laidByTextAt .later Tryd.pinned [.sentinel, .sentinel, .sentinel, .sentinel, .sentinel, .sentinel, .sentinel] true :=
  OpenClaim.laidByTextAt_later rfl rfl tie noOwnUnsafe
theorem fnExactLeafUpto_row_tie : Rows.fnExactLeafUptoRow.laidByTextAt .later Tryd.pinned [.sentinel, .sentinel, .sentinel, .sentinel, .sentinel, .sentinel, .sentinel] true :=
  OpenClaim.laidByTextAt_later rfl rfl tie noOwnUnsafe
theorem fnExactUnderUpto_row_tie : Rows.fnExactUnderUptoRow.laidByTextAt .later Tryd.pinned [.sentinel, .sentinel, .sentinel, .sentinel, .sentinel, .sentinel, .sentinel] true :=
  OpenClaim.laidByTextAt_later rfl rfl tie noOwnUnsafe
theorem fnExactRollUpto_row_tie : Rows.fnExactRollUptoRow.laidByTextAt .later Tryd.pinned [.sentinel, .sentinel, .sentinel, .sentinel, .sentinel, .sentinel, .sentinel] true :=
  OpenClaim.laidByTextAt_later rfl rfl tie noOwnUnsafe
theorem fnExactShowChartUpto_row_tie : Rows.fnExactShowChartUptoRow.laidByTextAt .later Tryd.pinned [.sentinel, .sentinel, .sentinel, .sentinel, .sentinel, .sentinel, .sentinel] true :=
  OpenClaim.laidByTextAt_later rfl rfl tie noOwnUnsafe
theorem fnExactReadChartUpto_row_tie : Rows.fnExactReadChartUptoRow.laidByTextAt .later Tryd.pinned [.data, .handle, .sentinel, .sentinel, .sentinel, .sentinel, .sentinel, .sentinel, .sentinel, .sentinel, .sentinel, .pinned] true :=
  OpenClaim.laidByTextAt_pinned rfl rfl tie2 rfl rfl rfl rfl (fun y hy _e => by
    simp only [Rows.fnExactReadChartUptoRow, List.zip_cons_cons, List.zip_nil_right, List.mem_cons, List.mem_nil_iff, or_false] at hy
    rcases hy with rfl | rfl | rfl | rfl | rfl | rfl | rfl | rfl | rfl | rfl | rfl | rfl
    · cases _e
    · cases _e
    · cases _e
    · cases _e
    · cases _e
    · cases _e
    · cases _e
    · cases _e
    · cases _e
    · cases _e
    · cases _e
    · exact ⟨pin_laid_unicode_utf8_first, by kernel_rfl⟩) fits2
end Go.Proofs.YtkplhiahfebmlaaDoor
