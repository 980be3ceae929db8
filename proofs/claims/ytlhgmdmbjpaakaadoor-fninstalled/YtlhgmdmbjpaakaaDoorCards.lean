/-
  DERIVED. GIVEN WITH THE SEED: THE CARDS: each row of YtlhgmdmbjpaakaaDoorRows.lean that lists a variable, with what it lists TIED to the program's text (the seventh form; the later family's looks); each row that meets fmt, with fmt's text TOLD by the authors' own Lean function (tested against real Go, not proved from fmt's source: count such statements apart). THE CARD IS WHAT COUNTS. Prove the row's statement (the work); the ties are given (YtlhgmdmbjpaakaaDoorTie.lean); close each card by the builder's one call (the guide's Derived/Test/ToyasCard.lean, 'card_holds'). Laid BY PROGRAM, IN A SANDBOX (cutbox-door.mjs). By AI agents, Wed Nov 11 2026. No macro, syntax, notation, axiom, sorry.
-/
import Derived.Test.YtlhgmdmbjpaakaaDoorRows
import GoSem.ClaimSeven
namespace Go.Proofs.YtlhgmdmbjpaakaaDoor
namespace Rows

/-- THE TIED CARD OF 'laws.FnInstalled'. -/
def fnInstalledCard : Claim7 := { stood := { row := fnInstalledRow, standIns := [], harness := (true, "c1d291513df1955023e2651060fbbdc84d4b392fc56135ea0bcd4c51d8c34ec8"), looks := false }, kinds := [], alts := [], laidByText := true, laidKinds := [.data], laidTests := true, laidLooks := .later }
def FnInstalledCardSaid : Prop := Claim7.holds Tryd.pinned (.plain (OpenSpec.ofChange fnInstalledSpec)) fnInstalledCard

/-- THE TIED CARD OF 'laws.FnExactInstalments'. -/
def fnExactInstalmentsCard : Claim7 := { stood := { row := fnExactInstalmentsRow, standIns := [], harness := (true, "c1d291513df1955023e2651060fbbdc84d4b392fc56135ea0bcd4c51d8c34ec8"), looks := false }, kinds := [], alts := [], laidByText := true, laidKinds := [.data], laidTests := true, laidLooks := .later }
def FnExactInstalmentsCardSaid : Prop := Claim7.holds Tryd.pinned (.plain (OpenSpec.ofChange fnExactInstalmentsSpec)) fnExactInstalmentsCard

/-- THE SECOND FORM's CARD OF 'laws.FnInstalled'. -/
def fnInstalledUptoCard : Claim7 := { stood := { row := fnInstalledUptoRow, standIns := [], harness := (true, "c1d291513df1955023e2651060fbbdc84d4b392fc56135ea0bcd4c51d8c34ec8"), looks := false }, kinds := [], alts := [], laidByText := true, laidKinds := [.data], laidTests := true, laidLooks := .later }
def FnInstalledUptoCardSaid : Prop := Claim7.holds Tryd.pinned (.plain (OpenSpec.upto fnInstalledSpec)) fnInstalledUptoCard

/-- THE SECOND FORM's CARD OF 'laws.FnExactInstalments'. -/
def fnExactInstalmentsUptoCard : Claim7 := { stood := { row := fnExactInstalmentsUptoRow, standIns := [], harness := (true, "c1d291513df1955023e2651060fbbdc84d4b392fc56135ea0bcd4c51d8c34ec8"), looks := false }, kinds := [], alts := [], laidByText := true, laidKinds := [.data], laidTests := true, laidLooks := .later }
def FnExactInstalmentsUptoCardSaid : Prop := Claim7.holds Tryd.pinned (.plain (OpenSpec.upto fnExactInstalmentsSpec)) fnExactInstalmentsUptoCard
end Rows
end Go.Proofs.YtlhgmdmbjpaakaaDoor
