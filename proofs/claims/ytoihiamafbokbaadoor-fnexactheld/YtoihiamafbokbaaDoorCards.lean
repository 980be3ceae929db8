/-
  DERIVED. GIVEN WITH THE SEED: THE CARDS: each row of YtoihiamafbokbaaDoorRows.lean that lists a variable, with what it lists TIED to the program's text (the seventh form; the later family's looks); each row that meets fmt, with fmt's text TOLD by the authors' own Lean function (tested against real Go, not proved from fmt's source: count such statements apart). THE CARD IS WHAT COUNTS. Prove the row's statement (the work); the ties are given (YtoihiamafbokbaaDoorTie.lean); close each card by the builder's one call (the guide's Derived/Test/ToyasCard.lean, 'card_holds'). Laid BY PROGRAM, IN A SANDBOX (cutbox-door.mjs). By AI agents, Wed Nov 11 2026. No macro, syntax, notation, axiom, sorry.
-/
import Derived.Test.YtoihiamafbokbaaDoorRows
import GoSem.ClaimSeven
namespace Go.Proofs.YtoihiamafbokbaaDoor
namespace Rows

/-- THE TIED CARD OF 'laws.FnExactGroupOk'. -/
def fnExactGroupOkCard : Claim7 := { stood := { row := fnExactGroupOkRow, standIns := [], harness := (true, "3f5a4fb3e3adfffcb0d8df90ba45c6ae00cf5aead58bc8a22e26d653d42e6aee"), looks := false }, kinds := [], alts := [], laidByText := true, laidKinds := [.sentinel, .sentinel, .sentinel, .sentinel, .sentinel, .sentinel, .sentinel], laidTests := true, laidLooks := .later }
def FnExactGroupOkCardSaid : Prop := Claim7.holds Tryd.pinned (.plain (OpenSpec.ofChange fnExactGroupOkSpec)) fnExactGroupOkCard

/-- THE TIED CARD OF 'laws.FnExactHeld'. -/
def fnExactHeldCard : Claim7 := { stood := { row := fnExactHeldRow, standIns := [], harness := (true, "3f5a4fb3e3adfffcb0d8df90ba45c6ae00cf5aead58bc8a22e26d653d42e6aee"), looks := false }, kinds := [], alts := [], laidByText := true, laidKinds := [.sentinel, .sentinel, .sentinel, .sentinel, .sentinel, .sentinel, .sentinel], laidTests := true, laidLooks := .later }
def FnExactHeldCardSaid : Prop := Claim7.holds Tryd.pinned (.plain (OpenSpec.ofChange fnExactHeldSpec)) fnExactHeldCard

/-- THE SECOND FORM's CARD OF 'laws.FnExactGroupOk'. -/
def fnExactGroupOkUptoCard : Claim7 := { stood := { row := fnExactGroupOkUptoRow, standIns := [], harness := (true, "3f5a4fb3e3adfffcb0d8df90ba45c6ae00cf5aead58bc8a22e26d653d42e6aee"), looks := false }, kinds := [], alts := [], laidByText := true, laidKinds := [.sentinel, .sentinel, .sentinel, .sentinel, .sentinel, .sentinel, .sentinel], laidTests := true, laidLooks := .later }
def FnExactGroupOkUptoCardSaid : Prop := Claim7.holds Tryd.pinned (.plain (OpenSpec.upto fnExactGroupOkSpec)) fnExactGroupOkUptoCard

/-- THE SECOND FORM's CARD OF 'laws.FnExactHeld'. -/
def fnExactHeldUptoCard : Claim7 := { stood := { row := fnExactHeldUptoRow, standIns := [], harness := (true, "3f5a4fb3e3adfffcb0d8df90ba45c6ae00cf5aead58bc8a22e26d653d42e6aee"), looks := false }, kinds := [], alts := [], laidByText := true, laidKinds := [.sentinel, .sentinel, .sentinel, .sentinel, .sentinel, .sentinel, .sentinel], laidTests := true, laidLooks := .later }
def FnExactHeldUptoCardSaid : Prop := Claim7.holds Tryd.pinned (.plain (OpenSpec.upto fnExactHeldSpec)) fnExactHeldUptoCard
end Rows
end Go.Proofs.YtoihiamafbokbaaDoor
