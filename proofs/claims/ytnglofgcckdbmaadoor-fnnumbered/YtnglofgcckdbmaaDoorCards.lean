/-
  DERIVED. GIVEN WITH THE SEED: THE CARDS: each row of YtnglofgcckdbmaaDoorRows.lean that lists a variable, with what it lists TIED to the program's text (the seventh form; the later family's looks); each row that meets fmt, with fmt's text TOLD by the authors' own Lean function (tested against real Go, not proved from fmt's source: count such statements apart). THE CARD IS WHAT COUNTS. Prove the row's statement (the work); the ties are given (YtnglofgcckdbmaaDoorTie.lean); close each card by the builder's one call (the guide's Derived/Test/ToyasCard.lean, 'card_holds'). Laid BY PROGRAM, IN A SANDBOX (cutbox-door.mjs). By AI agents, Wed Nov 11 2026. No macro, syntax, notation, axiom, sorry.
-/
import Derived.Test.YtnglofgcckdbmaaDoorRows
import GoSem.ClaimSeven
namespace Go.Proofs.YtnglofgcckdbmaaDoor
namespace Rows

/-- THE TIED CARD OF 'laws.FnNumbered'. -/
def fnNumberedCard : Claim7 := { stood := { row := fnNumberedRow, standIns := [], harness := (true, "fa73a453c2f2545ad4b819b1dd11e2d0132bea918db9e415d584eb8546f30be5"), looks := false }, kinds := [], alts := [], laidByText := true, laidKinds := [.data, .data, .data], laidTests := true, laidLooks := .later }
def FnNumberedCardSaid : Prop := Claim7.holds Tryd.pinned (.plain (OpenSpec.ofChange fnNumberedSpec)) fnNumberedCard

/-- THE TIED CARD OF 'laws.FnExactAccountNumber'. -/
def fnExactAccountNumberCard : Claim7 := { stood := { row := fnExactAccountNumberRow, standIns := [], harness := (true, "fa73a453c2f2545ad4b819b1dd11e2d0132bea918db9e415d584eb8546f30be5"), looks := false }, kinds := [], alts := [], laidByText := true, laidKinds := [.data, .data, .data], laidTests := true, laidLooks := .later }
def FnExactAccountNumberCardSaid : Prop := Claim7.holds Tryd.pinned (.plain (OpenSpec.ofChange fnExactAccountNumberSpec)) fnExactAccountNumberCard

/-- THE TIED CARD OF 'laws.FnExactMakeNumber'. -/
def fnExactMakeNumberCard : Claim7 := { stood := { row := fnExactMakeNumberRow, standIns := [], harness := (true, "fa73a453c2f2545ad4b819b1dd11e2d0132bea918db9e415d584eb8546f30be5"), looks := false }, kinds := [], alts := [], laidByText := true, laidKinds := [.data, .data, .data], laidTests := true, laidLooks := .later }
def FnExactMakeNumberCardSaid : Prop := Claim7.holds Tryd.pinned (.plain (OpenSpec.ofChange fnExactMakeNumberSpec)) fnExactMakeNumberCard

/-- THE TIED CARD OF 'laws.FnExactWriteBank'. -/
def fnExactWriteBankCard : Claim7 := { stood := { row := fnExactWriteBankRow, standIns := [], harness := (true, "fa73a453c2f2545ad4b819b1dd11e2d0132bea918db9e415d584eb8546f30be5"), looks := false }, kinds := [], alts := [], laidByText := true, laidKinds := [.data, .data, .data, .sentinel], laidTests := true, laidLooks := .later }
def FnExactWriteBankCardSaid : Prop := Claim7.holds Tryd.pinned (.plain (OpenSpec.ofChange fnExactWriteBankSpec)) fnExactWriteBankCard

/-- THE SECOND FORM's CARD OF 'laws.FnNumbered'. -/
def fnNumberedUptoCard : Claim7 := { stood := { row := fnNumberedUptoRow, standIns := [], harness := (true, "fa73a453c2f2545ad4b819b1dd11e2d0132bea918db9e415d584eb8546f30be5"), looks := false }, kinds := [], alts := [], laidByText := true, laidKinds := [.data, .data, .data], laidTests := true, laidLooks := .later }
def FnNumberedUptoCardSaid : Prop := Claim7.holds Tryd.pinned (.plain (OpenSpec.upto fnNumberedSpec)) fnNumberedUptoCard

/-- THE SECOND FORM's CARD OF 'laws.FnExactAccountNumber'. -/
def fnExactAccountNumberUptoCard : Claim7 := { stood := { row := fnExactAccountNumberUptoRow, standIns := [], harness := (true, "fa73a453c2f2545ad4b819b1dd11e2d0132bea918db9e415d584eb8546f30be5"), looks := false }, kinds := [], alts := [], laidByText := true, laidKinds := [.data, .data, .data], laidTests := true, laidLooks := .later }
def FnExactAccountNumberUptoCardSaid : Prop := Claim7.holds Tryd.pinned (.plain (OpenSpec.upto fnExactAccountNumberSpec)) fnExactAccountNumberUptoCard

/-- THE SECOND FORM's CARD OF 'laws.FnExactMakeNumber'. -/
def fnExactMakeNumberUptoCard : Claim7 := { stood := { row := fnExactMakeNumberUptoRow, standIns := [], harness := (true, "fa73a453c2f2545ad4b819b1dd11e2d0132bea918db9e415d584eb8546f30be5"), looks := false }, kinds := [], alts := [], laidByText := true, laidKinds := [.data, .data, .data], laidTests := true, laidLooks := .later }
def FnExactMakeNumberUptoCardSaid : Prop := Claim7.holds Tryd.pinned (.plain (OpenSpec.upto fnExactMakeNumberSpec)) fnExactMakeNumberUptoCard

/-- THE SECOND FORM's CARD OF 'laws.FnExactWriteBank'. -/
def fnExactWriteBankUptoCard : Claim7 := { stood := { row := fnExactWriteBankUptoRow, standIns := [], harness := (true, "fa73a453c2f2545ad4b819b1dd11e2d0132bea918db9e415d584eb8546f30be5"), looks := false }, kinds := [], alts := [], laidByText := true, laidKinds := [.data, .data, .data, .sentinel], laidTests := true, laidLooks := .later }
def FnExactWriteBankUptoCardSaid : Prop := Claim7.holds Tryd.pinned (.plain (OpenSpec.upto fnExactWriteBankSpec)) fnExactWriteBankUptoCard
end Rows
end Go.Proofs.YtnglofgcckdbmaaDoor
