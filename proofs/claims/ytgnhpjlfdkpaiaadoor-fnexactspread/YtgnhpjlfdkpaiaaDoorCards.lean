/-
  DERIVED. GIVEN WITH THE SEED: THE CARDS: each row of YtgnhpjlfdkpaiaaDoorRows.lean that lists a variable, with what it lists TIED to the program's text (the seventh form; the later family's looks); each row that meets fmt, with fmt's text TOLD by the authors' own Lean function (tested against real Go, not proved from fmt's source: count such statements apart). THE CARD IS WHAT COUNTS. Prove the row's statement (the work); the ties are given (YtgnhpjlfdkpaiaaDoorTie.lean); close each card by the builder's one call (the guide's Derived/Test/ToyasCard.lean, 'card_holds'). Laid BY PROGRAM, IN A SANDBOX (cutbox-door.mjs). By AI agents, Wed Nov 11 2026. No macro, syntax, notation, axiom, sorry.
-/
import Derived.Test.YtgnhpjlfdkpaiaaDoorRows
import GoSem.ClaimSeven
namespace Go.Proofs.YtgnhpjlfdkpaiaaDoor
namespace Rows

/-- THE TIED CARD OF 'laws.FnPosted'. -/
def fnPostedCard : Claim7 := { stood := { row := fnPostedRow, standIns := [], harness := (true, "ccd1ef061b523aabb51411168b790821f25efaf6af84088de9bcc3d19a071f20"), looks := false }, kinds := [], alts := [], laidByText := true, laidKinds := [.sentinel, .sentinel, .sentinel, .sentinel, .sentinel, .sentinel, .sentinel], laidTests := true, laidLooks := .later }
def FnPostedCardSaid : Prop := Claim7.holds Tryd.pinned (.plain (OpenSpec.ofChange fnPostedSpec)) fnPostedCard

/-- THE TIED CARD OF 'laws.FnReversed'. -/
def fnReversedCard : Claim7 := { stood := { row := fnReversedRow, standIns := [], harness := (true, "ccd1ef061b523aabb51411168b790821f25efaf6af84088de9bcc3d19a071f20"), looks := false }, kinds := [], alts := [], laidByText := true, laidKinds := [.data, .data, .data, .sentinel, .sentinel, .sentinel, .sentinel, .sentinel, .sentinel, .sentinel], laidTests := true, laidLooks := .later }
def FnReversedCardSaid : Prop := Claim7.holds Tryd.pinned (.plain (OpenSpec.ofChange fnReversedSpec)) fnReversedCard

/-- THE TIED CARD OF 'laws.FnSpreadWhole'. -/
def fnSpreadWholeCard : Claim7 := { stood := { row := fnSpreadWholeRow, standIns := [], harness := (true, "ccd1ef061b523aabb51411168b790821f25efaf6af84088de9bcc3d19a071f20"), looks := false }, kinds := [], alts := [], laidByText := true, laidKinds := [.sentinel, .sentinel, .sentinel, .sentinel, .sentinel, .sentinel, .sentinel], laidTests := true, laidLooks := .later }
def FnSpreadWholeCardSaid : Prop := Claim7.holds Tryd.pinned (.plain (OpenSpec.ofChange fnSpreadWholeSpec)) fnSpreadWholeCard

/-- THE TIED CARD OF 'laws.FnExactFrameOk'. -/
def fnExactFrameOkCard : Claim7 := { stood := { row := fnExactFrameOkRow, standIns := [], harness := (true, "ccd1ef061b523aabb51411168b790821f25efaf6af84088de9bcc3d19a071f20"), looks := false }, kinds := [], alts := [], laidByText := true, laidKinds := [.sentinel, .sentinel, .sentinel, .sentinel, .sentinel, .sentinel, .sentinel], laidTests := true, laidLooks := .later }
def FnExactFrameOkCardSaid : Prop := Claim7.holds Tryd.pinned (.plain (OpenSpec.ofChange fnExactFrameOkSpec)) fnExactFrameOkCard

/-- THE TIED CARD OF 'laws.FnExactEntryOk'. -/
def fnExactEntryOkCard : Claim7 := { stood := { row := fnExactEntryOkRow, standIns := [], harness := (true, "ccd1ef061b523aabb51411168b790821f25efaf6af84088de9bcc3d19a071f20"), looks := false }, kinds := [], alts := [], laidByText := true, laidKinds := [.sentinel, .sentinel, .sentinel, .sentinel, .sentinel, .sentinel, .sentinel], laidTests := true, laidLooks := .later }
def FnExactEntryOkCardSaid : Prop := Claim7.holds Tryd.pinned (.plain (OpenSpec.ofChange fnExactEntryOkSpec)) fnExactEntryOkCard

/-- THE TIED CARD OF 'laws.FnExactLedgerOk'. -/
def fnExactLedgerOkCard : Claim7 := { stood := { row := fnExactLedgerOkRow, standIns := [], harness := (true, "ccd1ef061b523aabb51411168b790821f25efaf6af84088de9bcc3d19a071f20"), looks := false }, kinds := [], alts := [], laidByText := true, laidKinds := [.sentinel, .sentinel, .sentinel, .sentinel, .sentinel, .sentinel, .sentinel], laidTests := true, laidLooks := .later }
def FnExactLedgerOkCardSaid : Prop := Claim7.holds Tryd.pinned (.plain (OpenSpec.ofChange fnExactLedgerOkSpec)) fnExactLedgerOkCard

/-- THE TIED CARD OF 'laws.FnExactPost'. -/
def fnExactPostCard : Claim7 := { stood := { row := fnExactPostRow, standIns := [], harness := (true, "ccd1ef061b523aabb51411168b790821f25efaf6af84088de9bcc3d19a071f20"), looks := false }, kinds := [], alts := [], laidByText := true, laidKinds := [.sentinel, .sentinel, .sentinel, .sentinel, .sentinel, .sentinel, .sentinel], laidTests := true, laidLooks := .later }
def FnExactPostCardSaid : Prop := Claim7.holds Tryd.pinned (.plain (OpenSpec.ofChange fnExactPostSpec)) fnExactPostCard

/-- THE TIED CARD OF 'laws.FnExactReverse'. -/
def fnExactReverseCard : Claim7 := { stood := { row := fnExactReverseRow, standIns := [], harness := (true, "ccd1ef061b523aabb51411168b790821f25efaf6af84088de9bcc3d19a071f20"), looks := false }, kinds := [], alts := [], laidByText := true, laidKinds := [.data, .data, .data, .sentinel, .sentinel, .sentinel, .sentinel, .sentinel, .sentinel, .sentinel], laidTests := true, laidLooks := .later }
def FnExactReverseCardSaid : Prop := Claim7.holds Tryd.pinned (.plain (OpenSpec.ofChange fnExactReverseSpec)) fnExactReverseCard

/-- THE TIED CARD OF 'laws.FnExactTrial'. -/
def fnExactTrialCard : Claim7 := { stood := { row := fnExactTrialRow, standIns := [], harness := (true, "ccd1ef061b523aabb51411168b790821f25efaf6af84088de9bcc3d19a071f20"), looks := false }, kinds := [], alts := [], laidByText := true, laidKinds := [.sentinel, .sentinel, .sentinel, .sentinel, .sentinel, .sentinel, .sentinel], laidTests := true, laidLooks := .later }
def FnExactTrialCardSaid : Prop := Claim7.holds Tryd.pinned (.plain (OpenSpec.ofChange fnExactTrialSpec)) fnExactTrialCard

/-- THE TIED CARD OF 'laws.FnExactSpread'. -/
def fnExactSpreadCard : Claim7 := { stood := { row := fnExactSpreadRow, standIns := [], harness := (true, "ccd1ef061b523aabb51411168b790821f25efaf6af84088de9bcc3d19a071f20"), looks := false }, kinds := [], alts := [], laidByText := true, laidKinds := [.sentinel, .sentinel, .sentinel, .sentinel, .sentinel, .sentinel, .sentinel], laidTests := true, laidLooks := .later }
def FnExactSpreadCardSaid : Prop := Claim7.holds Tryd.pinned (.plain (OpenSpec.ofChange fnExactSpreadSpec)) fnExactSpreadCard

/-- THE SECOND FORM's CARD OF 'laws.FnPosted'. -/
def fnPostedUptoCard : Claim7 := { stood := { row := fnPostedUptoRow, standIns := [], harness := (true, "ccd1ef061b523aabb51411168b790821f25efaf6af84088de9bcc3d19a071f20"), looks := false }, kinds := [], alts := [], laidByText := true, laidKinds := [.sentinel, .sentinel, .sentinel, .sentinel, .sentinel, .sentinel, .sentinel], laidTests := true, laidLooks := .later }
def FnPostedUptoCardSaid : Prop := Claim7.holds Tryd.pinned (.plain (OpenSpec.upto fnPostedSpec)) fnPostedUptoCard

/-- THE SECOND FORM's CARD OF 'laws.FnReversed'. -/
def fnReversedUptoCard : Claim7 := { stood := { row := fnReversedUptoRow, standIns := [], harness := (true, "ccd1ef061b523aabb51411168b790821f25efaf6af84088de9bcc3d19a071f20"), looks := false }, kinds := [], alts := [], laidByText := true, laidKinds := [.data, .data, .data, .sentinel, .sentinel, .sentinel, .sentinel, .sentinel, .sentinel, .sentinel], laidTests := true, laidLooks := .later }
def FnReversedUptoCardSaid : Prop := Claim7.holds Tryd.pinned (.plain (OpenSpec.upto fnReversedSpec)) fnReversedUptoCard

/-- THE SECOND FORM's CARD OF 'laws.FnSpreadWhole'. -/
def fnSpreadWholeUptoCard : Claim7 := { stood := { row := fnSpreadWholeUptoRow, standIns := [], harness := (true, "ccd1ef061b523aabb51411168b790821f25efaf6af84088de9bcc3d19a071f20"), looks := false }, kinds := [], alts := [], laidByText := true, laidKinds := [.sentinel, .sentinel, .sentinel, .sentinel, .sentinel, .sentinel, .sentinel], laidTests := true, laidLooks := .later }
def FnSpreadWholeUptoCardSaid : Prop := Claim7.holds Tryd.pinned (.plain (OpenSpec.upto fnSpreadWholeSpec)) fnSpreadWholeUptoCard

/-- THE SECOND FORM's CARD OF 'laws.FnExactFrameOk'. -/
def fnExactFrameOkUptoCard : Claim7 := { stood := { row := fnExactFrameOkUptoRow, standIns := [], harness := (true, "ccd1ef061b523aabb51411168b790821f25efaf6af84088de9bcc3d19a071f20"), looks := false }, kinds := [], alts := [], laidByText := true, laidKinds := [.sentinel, .sentinel, .sentinel, .sentinel, .sentinel, .sentinel, .sentinel], laidTests := true, laidLooks := .later }
def FnExactFrameOkUptoCardSaid : Prop := Claim7.holds Tryd.pinned (.plain (OpenSpec.upto fnExactFrameOkSpec)) fnExactFrameOkUptoCard

/-- THE SECOND FORM's CARD OF 'laws.FnExactEntryOk'. -/
def fnExactEntryOkUptoCard : Claim7 := { stood := { row := fnExactEntryOkUptoRow, standIns := [], harness := (true, "ccd1ef061b523aabb51411168b790821f25efaf6af84088de9bcc3d19a071f20"), looks := false }, kinds := [], alts := [], laidByText := true, laidKinds := [.sentinel, .sentinel, .sentinel, .sentinel, .sentinel, .sentinel, .sentinel], laidTests := true, laidLooks := .later }
def FnExactEntryOkUptoCardSaid : Prop := Claim7.holds Tryd.pinned (.plain (OpenSpec.upto fnExactEntryOkSpec)) fnExactEntryOkUptoCard

/-- THE SECOND FORM's CARD OF 'laws.FnExactLedgerOk'. -/
def fnExactLedgerOkUptoCard : Claim7 := { stood := { row := fnExactLedgerOkUptoRow, standIns := [], harness := (true, "ccd1ef061b523aabb51411168b790821f25efaf6af84088de9bcc3d19a071f20"), looks := false }, kinds := [], alts := [], laidByText := true, laidKinds := [.sentinel, .sentinel, .sentinel, .sentinel, .sentinel, .sentinel, .sentinel], laidTests := true, laidLooks := .later }
def FnExactLedgerOkUptoCardSaid : Prop := Claim7.holds Tryd.pinned (.plain (OpenSpec.upto fnExactLedgerOkSpec)) fnExactLedgerOkUptoCard

/-- THE SECOND FORM's CARD OF 'laws.FnExactPost'. -/
def fnExactPostUptoCard : Claim7 := { stood := { row := fnExactPostUptoRow, standIns := [], harness := (true, "ccd1ef061b523aabb51411168b790821f25efaf6af84088de9bcc3d19a071f20"), looks := false }, kinds := [], alts := [], laidByText := true, laidKinds := [.sentinel, .sentinel, .sentinel, .sentinel, .sentinel, .sentinel, .sentinel], laidTests := true, laidLooks := .later }
def FnExactPostUptoCardSaid : Prop := Claim7.holds Tryd.pinned (.plain (OpenSpec.upto fnExactPostSpec)) fnExactPostUptoCard

/-- THE SECOND FORM's CARD OF 'laws.FnExactReverse'. -/
def fnExactReverseUptoCard : Claim7 := { stood := { row := fnExactReverseUptoRow, standIns := [], harness := (true, "ccd1ef061b523aabb51411168b790821f25efaf6af84088de9bcc3d19a071f20"), looks := false }, kinds := [], alts := [], laidByText := true, laidKinds := [.data, .data, .data, .sentinel, .sentinel, .sentinel, .sentinel, .sentinel, .sentinel, .sentinel], laidTests := true, laidLooks := .later }
def FnExactReverseUptoCardSaid : Prop := Claim7.holds Tryd.pinned (.plain (OpenSpec.upto fnExactReverseSpec)) fnExactReverseUptoCard

/-- THE SECOND FORM's CARD OF 'laws.FnExactTrial'. -/
def fnExactTrialUptoCard : Claim7 := { stood := { row := fnExactTrialUptoRow, standIns := [], harness := (true, "ccd1ef061b523aabb51411168b790821f25efaf6af84088de9bcc3d19a071f20"), looks := false }, kinds := [], alts := [], laidByText := true, laidKinds := [.sentinel, .sentinel, .sentinel, .sentinel, .sentinel, .sentinel, .sentinel], laidTests := true, laidLooks := .later }
def FnExactTrialUptoCardSaid : Prop := Claim7.holds Tryd.pinned (.plain (OpenSpec.upto fnExactTrialSpec)) fnExactTrialUptoCard

/-- THE SECOND FORM's CARD OF 'laws.FnExactSpread'. -/
def fnExactSpreadUptoCard : Claim7 := { stood := { row := fnExactSpreadUptoRow, standIns := [], harness := (true, "ccd1ef061b523aabb51411168b790821f25efaf6af84088de9bcc3d19a071f20"), looks := false }, kinds := [], alts := [], laidByText := true, laidKinds := [.sentinel, .sentinel, .sentinel, .sentinel, .sentinel, .sentinel, .sentinel], laidTests := true, laidLooks := .later }
def FnExactSpreadUptoCardSaid : Prop := Claim7.holds Tryd.pinned (.plain (OpenSpec.upto fnExactSpreadSpec)) fnExactSpreadUptoCard
end Rows
end Go.Proofs.YtgnhpjlfdkpaiaaDoor
