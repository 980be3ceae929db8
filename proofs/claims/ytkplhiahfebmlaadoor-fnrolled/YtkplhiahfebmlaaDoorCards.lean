/-
  DERIVED. GIVEN WITH THE SEED: THE CARDS: each row of YtkplhiahfebmlaaDoorRows.lean that lists a variable, with what it lists TIED to the program's text (the seventh form; the later family's looks); each row that meets fmt, with fmt's text TOLD by the authors' own Lean function (tested against real Go, not proved from fmt's source: count such statements apart). THE CARD IS WHAT COUNTS. Prove the row's statement (the work); the ties are given (YtkplhiahfebmlaaDoorTie.lean); close each card by the builder's one call (the guide's Derived/Test/ToyasCard.lean, 'card_holds'). Laid BY PROGRAM, IN A SANDBOX (cutbox-door.mjs). By AI agents, Wed Nov 11 2026. No macro, syntax, notation, axiom, sorry.
-/
import Derived.Test.YtkplhiahfebmlaaDoorRows
import GoSem.ClaimSeven
namespace Go.Proofs.YtkplhiahfebmlaaDoor
namespace Rows

/-- THE TIED CARD OF 'laws.FnRolled'. -/
def fnRolledCard : Claim7 := { stood := { row := fnRolledRow, standIns := [], harness := (true, "9bc0da8d520b9693c1a8712bd9396e4423562277a24b2e620eca603c48470675"), looks := true }, kinds := [], alts := [], laidByText := true, laidKinds := [.sentinel, .sentinel, .sentinel, .sentinel, .sentinel, .sentinel, .sentinel], laidTests := true, laidLooks := .later }
def FnRolledCardSaid : Prop := Claim7.holds Tryd.pinned (.plain (OpenSpec.ofChange fnRolledSpec)) fnRolledCard

/-- THE TIED CARD OF 'laws.FnExactChartOk'. -/
def fnExactChartOkCard : Claim7 := { stood := { row := fnExactChartOkRow, standIns := [], harness := (true, "9bc0da8d520b9693c1a8712bd9396e4423562277a24b2e620eca603c48470675"), looks := true }, kinds := [], alts := [], laidByText := true, laidKinds := [.sentinel, .sentinel, .sentinel, .sentinel, .sentinel, .sentinel, .sentinel], laidTests := true, laidLooks := .later }
def FnExactChartOkCardSaid : Prop := Claim7.holds Tryd.pinned (.plain (OpenSpec.ofChange fnExactChartOkSpec)) fnExactChartOkCard

/-- THE TIED CARD OF 'laws.FnExactFindAccount'. -/
def fnExactFindAccountCard : Claim7 := { stood := { row := fnExactFindAccountRow, standIns := [], harness := (true, "9bc0da8d520b9693c1a8712bd9396e4423562277a24b2e620eca603c48470675"), looks := true }, kinds := [], alts := [], laidByText := true, laidKinds := [.sentinel, .sentinel, .sentinel, .sentinel, .sentinel, .sentinel, .sentinel], laidTests := true, laidLooks := .later }
def FnExactFindAccountCardSaid : Prop := Claim7.holds Tryd.pinned (.plain (OpenSpec.ofChange fnExactFindAccountSpec)) fnExactFindAccountCard

/-- THE TIED CARD OF 'laws.FnExactLeaf'. -/
def fnExactLeafCard : Claim7 := { stood := { row := fnExactLeafRow, standIns := [], harness := (true, "9bc0da8d520b9693c1a8712bd9396e4423562277a24b2e620eca603c48470675"), looks := true }, kinds := [], alts := [], laidByText := true, laidKinds := [.sentinel, .sentinel, .sentinel, .sentinel, .sentinel, .sentinel, .sentinel], laidTests := true, laidLooks := .later }
def FnExactLeafCardSaid : Prop := Claim7.holds Tryd.pinned (.plain (OpenSpec.ofChange fnExactLeafSpec)) fnExactLeafCard

/-- THE TIED CARD OF 'laws.FnExactUnder'. -/
def fnExactUnderCard : Claim7 := { stood := { row := fnExactUnderRow, standIns := [], harness := (true, "9bc0da8d520b9693c1a8712bd9396e4423562277a24b2e620eca603c48470675"), looks := true }, kinds := [], alts := [], laidByText := true, laidKinds := [.sentinel, .sentinel, .sentinel, .sentinel, .sentinel, .sentinel, .sentinel], laidTests := true, laidLooks := .later }
def FnExactUnderCardSaid : Prop := Claim7.holds Tryd.pinned (.plain (OpenSpec.ofChange fnExactUnderSpec)) fnExactUnderCard

/-- THE TIED CARD OF 'laws.FnExactRoll'. -/
def fnExactRollCard : Claim7 := { stood := { row := fnExactRollRow, standIns := [], harness := (true, "9bc0da8d520b9693c1a8712bd9396e4423562277a24b2e620eca603c48470675"), looks := true }, kinds := [], alts := [], laidByText := true, laidKinds := [.sentinel, .sentinel, .sentinel, .sentinel, .sentinel, .sentinel, .sentinel], laidTests := true, laidLooks := .later }
def FnExactRollCardSaid : Prop := Claim7.holds Tryd.pinned (.plain (OpenSpec.ofChange fnExactRollSpec)) fnExactRollCard

/-- THE TIED CARD OF 'laws.FnExactShowChart'. -/
def fnExactShowChartCard : Claim7 := { stood := { row := fnExactShowChartRow, standIns := [], harness := (true, "9bc0da8d520b9693c1a8712bd9396e4423562277a24b2e620eca603c48470675"), looks := true }, kinds := [], alts := [], laidByText := true, laidKinds := [.sentinel, .sentinel, .sentinel, .sentinel, .sentinel, .sentinel, .sentinel], laidTests := true, laidLooks := .later }
def FnExactShowChartCardSaid : Prop := Claim7.holds Tryd.pinned (.plain (OpenSpec.ofChange fnExactShowChartSpec)) fnExactShowChartCard

/-- THE TIED CARD OF 'laws.FnExactReadChart'. -/
def fnExactReadChartCard : Claim7 := { stood := { row := fnExactReadChartRow, standIns := [], harness := (true, "9bc0da8d520b9693c1a8712bd9396e4423562277a24b2e620eca603c48470675"), looks := true }, kinds := [], alts := [], laidByText := true, laidKinds := [.data, .handle, .sentinel, .sentinel, .sentinel, .sentinel, .sentinel, .sentinel, .sentinel, .sentinel, .sentinel, .pinned], laidTests := true, laidLooks := .later }
def FnExactReadChartCardSaid : Prop := Claim7.holds Tryd.pinned (.plain (OpenSpec.ofChange fnExactReadChartSpec)) fnExactReadChartCard

/-- THE SECOND FORM's CARD OF 'laws.FnRolled'. -/
def fnRolledUptoCard : Claim7 := { stood := { row := fnRolledUptoRow, standIns := [], harness := (true, "9bc0da8d520b9693c1a8712bd9396e4423562277a24b2e620eca603c48470675"), looks := true }, kinds := [], alts := [], laidByText := true, laidKinds := [.sentinel, .sentinel, .sentinel, .sentinel, .sentinel, .sentinel, .sentinel], laidTests := true, laidLooks := .later }
def FnRolledUptoCardSaid : Prop := Claim7.holds Tryd.pinned (.plain (OpenSpec.upto fnRolledSpec)) fnRolledUptoCard

/-- THE SECOND FORM's CARD OF 'laws.FnExactChartOk'. -/
def fnExactChartOkUptoCard : Claim7 := { stood := { row := fnExactChartOkUptoRow, standIns := [], harness := (true, "9bc0da8d520b9693c1a8712bd9396e4423562277a24b2e620eca603c48470675"), looks := true }, kinds := [], alts := [], laidByText := true, laidKinds := [.sentinel, .sentinel, .sentinel, .sentinel, .sentinel, .sentinel, .sentinel], laidTests := true, laidLooks := .later }
def FnExactChartOkUptoCardSaid : Prop := Claim7.holds Tryd.pinned (.plain (OpenSpec.upto fnExactChartOkSpec)) fnExactChartOkUptoCard

/-- THE SECOND FORM's CARD OF 'laws.FnExactFindAccount'. -/
def fnExactFindAccountUptoCard : Claim7 := { stood := { row := fnExactFindAccountUptoRow, standIns := [], harness := (true, "9bc0da8d520b9693c1a8712bd9396e4423562277a24b2e620eca603c48470675"), looks := true }, kinds := [], alts := [], laidByText := true, laidKinds := [.sentinel, .sentinel, .sentinel, .sentinel, .sentinel, .sentinel, .sentinel], laidTests := true, laidLooks := .later }
def FnExactFindAccountUptoCardSaid : Prop := Claim7.holds Tryd.pinned (.plain (OpenSpec.upto fnExactFindAccountSpec)) fnExactFindAccountUptoCard

/-- THE SECOND FORM's CARD OF 'laws.FnExactLeaf'. -/
def fnExactLeafUptoCard : Claim7 := { stood := { row := fnExactLeafUptoRow, standIns := [], harness := (true, "9bc0da8d520b9693c1a8712bd9396e4423562277a24b2e620eca603c48470675"), looks := true }, kinds := [], alts := [], laidByText := true, laidKinds := [.sentinel, .sentinel, .sentinel, .sentinel, .sentinel, .sentinel, .sentinel], laidTests := true, laidLooks := .later }
def FnExactLeafUptoCardSaid : Prop := Claim7.holds Tryd.pinned (.plain (OpenSpec.upto fnExactLeafSpec)) fnExactLeafUptoCard

/-- THE SECOND FORM's CARD OF 'laws.FnExactUnder'. -/
def fnExactUnderUptoCard : Claim7 := { stood := { row := fnExactUnderUptoRow, standIns := [], harness := (true, "9bc0da8d520b9693c1a8712bd9396e4423562277a24b2e620eca603c48470675"), looks := true }, kinds := [], alts := [], laidByText := true, laidKinds := [.sentinel, .sentinel, .sentinel, .sentinel, .sentinel, .sentinel, .sentinel], laidTests := true, laidLooks := .later }
def FnExactUnderUptoCardSaid : Prop := Claim7.holds Tryd.pinned (.plain (OpenSpec.upto fnExactUnderSpec)) fnExactUnderUptoCard

/-- THE SECOND FORM's CARD OF 'laws.FnExactRoll'. -/
def fnExactRollUptoCard : Claim7 := { stood := { row := fnExactRollUptoRow, standIns := [], harness := (true, "9bc0da8d520b9693c1a8712bd9396e4423562277a24b2e620eca603c48470675"), looks := true }, kinds := [], alts := [], laidByText := true, laidKinds := [.sentinel, .sentinel, .sentinel, .sentinel, .sentinel, .sentinel, .sentinel], laidTests := true, laidLooks := .later }
def FnExactRollUptoCardSaid : Prop := Claim7.holds Tryd.pinned (.plain (OpenSpec.upto fnExactRollSpec)) fnExactRollUptoCard

/-- THE SECOND FORM's CARD OF 'laws.FnExactShowChart'. -/
def fnExactShowChartUptoCard : Claim7 := { stood := { row := fnExactShowChartUptoRow, standIns := [], harness := (true, "9bc0da8d520b9693c1a8712bd9396e4423562277a24b2e620eca603c48470675"), looks := true }, kinds := [], alts := [], laidByText := true, laidKinds := [.sentinel, .sentinel, .sentinel, .sentinel, .sentinel, .sentinel, .sentinel], laidTests := true, laidLooks := .later }
def FnExactShowChartUptoCardSaid : Prop := Claim7.holds Tryd.pinned (.plain (OpenSpec.upto fnExactShowChartSpec)) fnExactShowChartUptoCard

/-- THE SECOND FORM's CARD OF 'laws.FnExactReadChart'. -/
def fnExactReadChartUptoCard : Claim7 := { stood := { row := fnExactReadChartUptoRow, standIns := [], harness := (true, "9bc0da8d520b9693c1a8712bd9396e4423562277a24b2e620eca603c48470675"), looks := true }, kinds := [], alts := [], laidByText := true, laidKinds := [.data, .handle, .sentinel, .sentinel, .sentinel, .sentinel, .sentinel, .sentinel, .sentinel, .sentinel, .sentinel, .pinned], laidTests := true, laidLooks := .later }
def FnExactReadChartUptoCardSaid : Prop := Claim7.holds Tryd.pinned (.plain (OpenSpec.upto fnExactReadChartSpec)) fnExactReadChartUptoCard
end Rows
end Go.Proofs.YtkplhiahfebmlaaDoor
