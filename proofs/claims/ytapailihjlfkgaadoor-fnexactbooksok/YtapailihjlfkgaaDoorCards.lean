/-
  DERIVED. GIVEN WITH THE SEED: THE CARDS: each row of YtapailihjlfkgaaDoorRows.lean that lists a variable, with what it lists TIED to the program's text (the seventh form; the later family's looks); each row that meets fmt, with fmt's text TOLD by the authors' own Lean function (tested against real Go, not proved from fmt's source: count such statements apart). THE CARD IS WHAT COUNTS. Prove the row's statement (the work); the ties are given (YtapailihjlfkgaaDoorTie.lean); close each card by the builder's one call (the guide's Derived/Test/ToyasCard.lean, 'card_holds'). Laid BY PROGRAM, IN A SANDBOX (cutbox-door.mjs). By AI agents, Wed Nov 11 2026. No macro, syntax, notation, axiom, sorry.
-/
import Derived.Test.YtapailihjlfkgaaDoorRows
import GoSem.ClaimSeven
namespace Go.Proofs.YtapailihjlfkgaaDoor
namespace Rows

/-- THE TIED CARD OF 'laws.FnYearClosed'. -/
def fnYearClosedCard : Claim7 := { stood := { row := fnYearClosedRow, standIns := [], harness := (true, "1b3ad8908929a5629ed3bfa3ea198e5e029466e0b3b99bd2dd7cdeac3e79b181"), looks := false }, kinds := [], alts := [], laidByText := true, laidKinds := [.sentinel, .sentinel, .sentinel, .sentinel, .sentinel, .sentinel, .sentinel, .sentinel, .sentinel], laidTests := true, laidLooks := .later }
def FnYearClosedCardSaid : Prop := Claim7.holds Tryd.pinned (.plain (OpenSpec.ofChange fnYearClosedSpec)) fnYearClosedCard

/-- THE TIED CARD OF 'laws.FnMovesJoined'. -/
def fnMovesJoinedCard : Claim7 := { stood := { row := fnMovesJoinedRow, standIns := [], harness := (true, "1b3ad8908929a5629ed3bfa3ea198e5e029466e0b3b99bd2dd7cdeac3e79b181"), looks := false }, kinds := [], alts := [], laidByText := true, laidKinds := [.sentinel, .sentinel, .sentinel, .sentinel, .sentinel, .sentinel, .sentinel, .sentinel], laidTests := true, laidLooks := .later }
def FnMovesJoinedCardSaid : Prop := Claim7.holds Tryd.pinned (.plain (OpenSpec.ofChange fnMovesJoinedSpec)) fnMovesJoinedCard

/-- THE TIED CARD OF 'laws.FnExactBooksOk'. -/
def fnExactBooksOkCard : Claim7 := { stood := { row := fnExactBooksOkRow, standIns := [], harness := (true, "1b3ad8908929a5629ed3bfa3ea198e5e029466e0b3b99bd2dd7cdeac3e79b181"), looks := false }, kinds := [], alts := [], laidByText := true, laidKinds := [.sentinel, .sentinel, .sentinel, .sentinel, .sentinel, .sentinel, .sentinel, .sentinel], laidTests := true, laidLooks := .later }
def FnExactBooksOkCardSaid : Prop := Claim7.holds Tryd.pinned (.plain (OpenSpec.ofChange fnExactBooksOkSpec)) fnExactBooksOkCard

/-- THE SECOND FORM's CARD OF 'laws.FnYearClosed'. -/
def fnYearClosedUptoCard : Claim7 := { stood := { row := fnYearClosedUptoRow, standIns := [], harness := (true, "1b3ad8908929a5629ed3bfa3ea198e5e029466e0b3b99bd2dd7cdeac3e79b181"), looks := false }, kinds := [], alts := [], laidByText := true, laidKinds := [.sentinel, .sentinel, .sentinel, .sentinel, .sentinel, .sentinel, .sentinel, .sentinel, .sentinel], laidTests := true, laidLooks := .later }
def FnYearClosedUptoCardSaid : Prop := Claim7.holds Tryd.pinned (.plain (OpenSpec.upto fnYearClosedSpec)) fnYearClosedUptoCard

/-- THE SECOND FORM's CARD OF 'laws.FnMovesJoined'. -/
def fnMovesJoinedUptoCard : Claim7 := { stood := { row := fnMovesJoinedUptoRow, standIns := [], harness := (true, "1b3ad8908929a5629ed3bfa3ea198e5e029466e0b3b99bd2dd7cdeac3e79b181"), looks := false }, kinds := [], alts := [], laidByText := true, laidKinds := [.sentinel, .sentinel, .sentinel, .sentinel, .sentinel, .sentinel, .sentinel, .sentinel], laidTests := true, laidLooks := .later }
def FnMovesJoinedUptoCardSaid : Prop := Claim7.holds Tryd.pinned (.plain (OpenSpec.upto fnMovesJoinedSpec)) fnMovesJoinedUptoCard

/-- THE SECOND FORM's CARD OF 'laws.FnExactBooksOk'. -/
def fnExactBooksOkUptoCard : Claim7 := { stood := { row := fnExactBooksOkUptoRow, standIns := [], harness := (true, "1b3ad8908929a5629ed3bfa3ea198e5e029466e0b3b99bd2dd7cdeac3e79b181"), looks := false }, kinds := [], alts := [], laidByText := true, laidKinds := [.sentinel, .sentinel, .sentinel, .sentinel, .sentinel, .sentinel, .sentinel, .sentinel], laidTests := true, laidLooks := .later }
def FnExactBooksOkUptoCardSaid : Prop := Claim7.holds Tryd.pinned (.plain (OpenSpec.upto fnExactBooksOkSpec)) fnExactBooksOkUptoCard
end Rows
end Go.Proofs.YtapailihjlfkgaaDoor
