/-
  DERIVED. GIVEN WITH THE SEED: THE CARDS: each row of YtdhpadcihlmhiaaDoorRows.lean that lists a variable, with what it lists TIED to the program's text (the seventh form; the later family's looks); each row that meets fmt, with fmt's text TOLD by the authors' own Lean function (tested against real Go, not proved from fmt's source: count such statements apart). THE CARD IS WHAT COUNTS. Prove the row's statement (the work); the ties are given (YtdhpadcihlmhiaaDoorTie.lean); close each card by the builder's one call (the guide's Derived/Test/ToyasCard.lean, 'card_holds'). Laid BY PROGRAM, IN A SANDBOX (cutbox-door.mjs). By AI agents, Wed Nov 11 2026. No macro, syntax, notation, axiom, sorry.
-/
import Derived.Test.YtdhpadcihlmhiaaDoorRows
import GoSem.ClaimSeven
namespace Go.Proofs.YtdhpadcihlmhiaaDoor
namespace Rows

/-- THE TIED CARD OF 'laws.FnNoGap'. -/
def fnNoGapCard : Claim7 := { stood := { row := fnNoGapRow, standIns := [], harness := (true, "ad61da41ca757ced5fc3b5b98d1450ab654463affced2dfc7a25b023ae947adb"), looks := false }, kinds := [], alts := [], laidByText := true, laidKinds := [.data, .data, .data], laidTests := true, laidLooks := .later }
def FnNoGapCardSaid : Prop := Claim7.holds Tryd.pinned (.plain (OpenSpec.ofChange fnNoGapSpec)) fnNoGapCard

/-- THE TIED CARD OF 'laws.FnFlowBack'. -/
def fnFlowBackCard : Claim7 := { stood := { row := fnFlowBackRow, standIns := [], harness := (true, "ad61da41ca757ced5fc3b5b98d1450ab654463affced2dfc7a25b023ae947adb"), looks := false }, kinds := [], alts := [], laidByText := true, laidKinds := [.data, .data, .data, .data, .pinned], laidTests := true, laidLooks := .later }
def FnFlowBackCardSaid : Prop := Claim7.holds Tryd.pinned (.plain (OpenSpec.ofChange fnFlowBackSpec)) fnFlowBackCard

/-- THE TIED CARD OF 'laws.FnExactRegisterOk'. -/
def fnExactRegisterOkCard : Claim7 := { stood := { row := fnExactRegisterOkRow, standIns := [], harness := (true, "ad61da41ca757ced5fc3b5b98d1450ab654463affced2dfc7a25b023ae947adb"), looks := false }, kinds := [], alts := [], laidByText := true, laidKinds := [.data, .data, .data], laidTests := true, laidLooks := .later }
def FnExactRegisterOkCardSaid : Prop := Claim7.holds Tryd.pinned (.plain (OpenSpec.ofChange fnExactRegisterOkSpec)) fnExactRegisterOkCard

/-- THE TIED CARD OF 'laws.FnExactIssue'. -/
def fnExactIssueCard : Claim7 := { stood := { row := fnExactIssueRow, standIns := [], harness := (true, "ad61da41ca757ced5fc3b5b98d1450ab654463affced2dfc7a25b023ae947adb"), looks := false }, kinds := [], alts := [], laidByText := true, laidKinds := [.data, .data, .data], laidTests := true, laidLooks := .later }
def FnExactIssueCardSaid : Prop := Claim7.holds Tryd.pinned (.plain (OpenSpec.ofChange fnExactIssueSpec)) fnExactIssueCard

/-- THE TIED CARD OF 'laws.FnExactVoid'. -/
def fnExactVoidCard : Claim7 := { stood := { row := fnExactVoidRow, standIns := [], harness := (true, "ad61da41ca757ced5fc3b5b98d1450ab654463affced2dfc7a25b023ae947adb"), looks := false }, kinds := [], alts := [], laidByText := true, laidKinds := [.data, .data, .data], laidTests := true, laidLooks := .later }
def FnExactVoidCardSaid : Prop := Claim7.holds Tryd.pinned (.plain (OpenSpec.ofChange fnExactVoidSpec)) fnExactVoidCard

/-- THE TIED CARD OF 'laws.FnExactShowPaper'. -/
def fnExactShowPaperCard : Claim7 := { stood := { row := fnExactShowPaperRow, standIns := [], harness := (true, "ad61da41ca757ced5fc3b5b98d1450ab654463affced2dfc7a25b023ae947adb"), looks := false }, kinds := [], alts := [], laidByText := true, laidKinds := [.data, .data, .data], laidTests := true, laidLooks := .later }
def FnExactShowPaperCardSaid : Prop := Claim7.holds Tryd.pinned (.plain (OpenSpec.ofChange fnExactShowPaperSpec)) fnExactShowPaperCard

/-- THE TIED CARD OF 'laws.FnExactFindPaper'. -/
def fnExactFindPaperCard : Claim7 := { stood := { row := fnExactFindPaperRow, standIns := [], harness := (true, "ad61da41ca757ced5fc3b5b98d1450ab654463affced2dfc7a25b023ae947adb"), looks := false }, kinds := [], alts := [], laidByText := true, laidKinds := [.data, .data, .data], laidTests := true, laidLooks := .later }
def FnExactFindPaperCardSaid : Prop := Claim7.holds Tryd.pinned (.plain (OpenSpec.ofChange fnExactFindPaperSpec)) fnExactFindPaperCard

/-- THE TIED CARD OF 'laws.FnExactParseFlow'. -/
def fnExactParseFlowCard : Claim7 := { stood := { row := fnExactParseFlowRow, standIns := [], harness := (true, "ad61da41ca757ced5fc3b5b98d1450ab654463affced2dfc7a25b023ae947adb"), looks := false }, kinds := [], alts := [], laidByText := true, laidKinds := [.data, .data, .data, .data, .pinned], laidTests := true, laidLooks := .later }
def FnExactParseFlowCardSaid : Prop := Claim7.holds Tryd.pinned (.plain (OpenSpec.ofChange fnExactParseFlowSpec)) fnExactParseFlowCard

/-- THE TIED CARD OF 'laws.FnExactShowFlow'. -/
def fnExactShowFlowCard : Claim7 := { stood := { row := fnExactShowFlowRow, standIns := [], harness := (true, "ad61da41ca757ced5fc3b5b98d1450ab654463affced2dfc7a25b023ae947adb"), looks := false }, kinds := [], alts := [], laidByText := true, laidKinds := [.data, .data, .data], laidTests := true, laidLooks := .later }
def FnExactShowFlowCardSaid : Prop := Claim7.holds Tryd.pinned (.plain (OpenSpec.ofChange fnExactShowFlowSpec)) fnExactShowFlowCard

/-- THE TIED CARD OF 'laws.FnExactNeeded'. -/
def fnExactNeededCard : Claim7 := { stood := { row := fnExactNeededRow, standIns := [], harness := (true, "ad61da41ca757ced5fc3b5b98d1450ab654463affced2dfc7a25b023ae947adb"), looks := false }, kinds := [], alts := [], laidByText := true, laidKinds := [.data, .data, .data], laidTests := true, laidLooks := .later }
def FnExactNeededCardSaid : Prop := Claim7.holds Tryd.pinned (.plain (OpenSpec.ofChange fnExactNeededSpec)) fnExactNeededCard

/-- THE SECOND FORM's CARD OF 'laws.FnNoGap'. -/
def fnNoGapUptoCard : Claim7 := { stood := { row := fnNoGapUptoRow, standIns := [], harness := (true, "ad61da41ca757ced5fc3b5b98d1450ab654463affced2dfc7a25b023ae947adb"), looks := false }, kinds := [], alts := [], laidByText := true, laidKinds := [.data, .data, .data], laidTests := true, laidLooks := .later }
def FnNoGapUptoCardSaid : Prop := Claim7.holds Tryd.pinned (.plain (OpenSpec.upto fnNoGapSpec)) fnNoGapUptoCard

/-- THE SECOND FORM's CARD OF 'laws.FnFlowBack'. -/
def fnFlowBackUptoCard : Claim7 := { stood := { row := fnFlowBackUptoRow, standIns := [], harness := (true, "ad61da41ca757ced5fc3b5b98d1450ab654463affced2dfc7a25b023ae947adb"), looks := false }, kinds := [], alts := [], laidByText := true, laidKinds := [.data, .data, .data, .data, .pinned], laidTests := true, laidLooks := .later }
def FnFlowBackUptoCardSaid : Prop := Claim7.holds Tryd.pinned (.plain (OpenSpec.upto fnFlowBackSpec)) fnFlowBackUptoCard

/-- THE SECOND FORM's CARD OF 'laws.FnExactRegisterOk'. -/
def fnExactRegisterOkUptoCard : Claim7 := { stood := { row := fnExactRegisterOkUptoRow, standIns := [], harness := (true, "ad61da41ca757ced5fc3b5b98d1450ab654463affced2dfc7a25b023ae947adb"), looks := false }, kinds := [], alts := [], laidByText := true, laidKinds := [.data, .data, .data], laidTests := true, laidLooks := .later }
def FnExactRegisterOkUptoCardSaid : Prop := Claim7.holds Tryd.pinned (.plain (OpenSpec.upto fnExactRegisterOkSpec)) fnExactRegisterOkUptoCard

/-- THE SECOND FORM's CARD OF 'laws.FnExactIssue'. -/
def fnExactIssueUptoCard : Claim7 := { stood := { row := fnExactIssueUptoRow, standIns := [], harness := (true, "ad61da41ca757ced5fc3b5b98d1450ab654463affced2dfc7a25b023ae947adb"), looks := false }, kinds := [], alts := [], laidByText := true, laidKinds := [.data, .data, .data], laidTests := true, laidLooks := .later }
def FnExactIssueUptoCardSaid : Prop := Claim7.holds Tryd.pinned (.plain (OpenSpec.upto fnExactIssueSpec)) fnExactIssueUptoCard

/-- THE SECOND FORM's CARD OF 'laws.FnExactVoid'. -/
def fnExactVoidUptoCard : Claim7 := { stood := { row := fnExactVoidUptoRow, standIns := [], harness := (true, "ad61da41ca757ced5fc3b5b98d1450ab654463affced2dfc7a25b023ae947adb"), looks := false }, kinds := [], alts := [], laidByText := true, laidKinds := [.data, .data, .data], laidTests := true, laidLooks := .later }
def FnExactVoidUptoCardSaid : Prop := Claim7.holds Tryd.pinned (.plain (OpenSpec.upto fnExactVoidSpec)) fnExactVoidUptoCard

/-- THE SECOND FORM's CARD OF 'laws.FnExactShowPaper'. -/
def fnExactShowPaperUptoCard : Claim7 := { stood := { row := fnExactShowPaperUptoRow, standIns := [], harness := (true, "ad61da41ca757ced5fc3b5b98d1450ab654463affced2dfc7a25b023ae947adb"), looks := false }, kinds := [], alts := [], laidByText := true, laidKinds := [.data, .data, .data], laidTests := true, laidLooks := .later }
def FnExactShowPaperUptoCardSaid : Prop := Claim7.holds Tryd.pinned (.plain (OpenSpec.upto fnExactShowPaperSpec)) fnExactShowPaperUptoCard

/-- THE SECOND FORM's CARD OF 'laws.FnExactFindPaper'. -/
def fnExactFindPaperUptoCard : Claim7 := { stood := { row := fnExactFindPaperUptoRow, standIns := [], harness := (true, "ad61da41ca757ced5fc3b5b98d1450ab654463affced2dfc7a25b023ae947adb"), looks := false }, kinds := [], alts := [], laidByText := true, laidKinds := [.data, .data, .data], laidTests := true, laidLooks := .later }
def FnExactFindPaperUptoCardSaid : Prop := Claim7.holds Tryd.pinned (.plain (OpenSpec.upto fnExactFindPaperSpec)) fnExactFindPaperUptoCard

/-- THE SECOND FORM's CARD OF 'laws.FnExactParseFlow'. -/
def fnExactParseFlowUptoCard : Claim7 := { stood := { row := fnExactParseFlowUptoRow, standIns := [], harness := (true, "ad61da41ca757ced5fc3b5b98d1450ab654463affced2dfc7a25b023ae947adb"), looks := false }, kinds := [], alts := [], laidByText := true, laidKinds := [.data, .data, .data, .data, .pinned], laidTests := true, laidLooks := .later }
def FnExactParseFlowUptoCardSaid : Prop := Claim7.holds Tryd.pinned (.plain (OpenSpec.upto fnExactParseFlowSpec)) fnExactParseFlowUptoCard

/-- THE SECOND FORM's CARD OF 'laws.FnExactShowFlow'. -/
def fnExactShowFlowUptoCard : Claim7 := { stood := { row := fnExactShowFlowUptoRow, standIns := [], harness := (true, "ad61da41ca757ced5fc3b5b98d1450ab654463affced2dfc7a25b023ae947adb"), looks := false }, kinds := [], alts := [], laidByText := true, laidKinds := [.data, .data, .data], laidTests := true, laidLooks := .later }
def FnExactShowFlowUptoCardSaid : Prop := Claim7.holds Tryd.pinned (.plain (OpenSpec.upto fnExactShowFlowSpec)) fnExactShowFlowUptoCard

/-- THE SECOND FORM's CARD OF 'laws.FnExactNeeded'. -/
def fnExactNeededUptoCard : Claim7 := { stood := { row := fnExactNeededUptoRow, standIns := [], harness := (true, "ad61da41ca757ced5fc3b5b98d1450ab654463affced2dfc7a25b023ae947adb"), looks := false }, kinds := [], alts := [], laidByText := true, laidKinds := [.data, .data, .data], laidTests := true, laidLooks := .later }
def FnExactNeededUptoCardSaid : Prop := Claim7.holds Tryd.pinned (.plain (OpenSpec.upto fnExactNeededSpec)) fnExactNeededUptoCard
end Rows
end Go.Proofs.YtdhpadcihlmhiaaDoor
