/-
  DERIVED. GIVEN WITH THE SEED: THE CARDS: each row of YtadjdpoplaknkaaDoorRows.lean that lists a variable, with what it lists TIED to the program's text (the seventh form; the later family's looks); each row that meets fmt, with fmt's text TOLD by the authors' own Lean function (tested against real Go, not proved from fmt's source: count such statements apart). THE CARD IS WHAT COUNTS. Prove the row's statement (the work); the ties are given (YtadjdpoplaknkaaDoorTie.lean); close each card by the builder's one call (the guide's Derived/Test/ToyasCard.lean, 'card_holds'). Laid BY PROGRAM, IN A SANDBOX (cutbox-door.mjs). By AI agents, Wed Nov 11 2026. No macro, syntax, notation, axiom, sorry.
-/
import Derived.Test.YtadjdpoplaknkaaDoorRows
import GoSem.ClaimSeven
namespace Go.Proofs.YtadjdpoplaknkaaDoor
namespace Rows

/-- THE TIED CARD OF 'laws.FnDatesBack'. -/
def fnDatesBackCard : Claim7 := { stood := { row := fnDatesBackRow, standIns := [], harness := (true, "28b4b20e04e03052a64fc97e98ef870f25ef3248cef6f97c820d5f919366e238"), looks := false }, kinds := [], alts := [], laidByText := true, laidKinds := [.data], laidTests := true, laidLooks := .later }
def FnDatesBackCardSaid : Prop := Claim7.holds Tryd.pinned (.plain (OpenSpec.ofChange fnDatesBackSpec)) fnDatesBackCard

/-- THE TIED CARD OF 'laws.FnMonthsOn'. -/
def fnMonthsOnCard : Claim7 := { stood := { row := fnMonthsOnRow, standIns := [], harness := (true, "28b4b20e04e03052a64fc97e98ef870f25ef3248cef6f97c820d5f919366e238"), looks := false }, kinds := [], alts := [], laidByText := true, laidKinds := [.data], laidTests := true, laidLooks := .later }
def FnMonthsOnCardSaid : Prop := Claim7.holds Tryd.pinned (.plain (OpenSpec.ofChange fnMonthsOnSpec)) fnMonthsOnCard

/-- THE TIED CARD OF 'laws.FnPeriodsWhole'. -/
def fnPeriodsWholeCard : Claim7 := { stood := { row := fnPeriodsWholeRow, standIns := [], harness := (true, "28b4b20e04e03052a64fc97e98ef870f25ef3248cef6f97c820d5f919366e238"), looks := false }, kinds := [], alts := [], laidByText := true, laidKinds := [.data, .data], laidTests := true, laidLooks := .later }
def FnPeriodsWholeCardSaid : Prop := Claim7.holds Tryd.pinned (.plain (OpenSpec.ofChange fnPeriodsWholeSpec)) fnPeriodsWholeCard

/-- THE TIED CARD OF 'laws.FnExactDayOf'. -/
def fnExactDayOfCard : Claim7 := { stood := { row := fnExactDayOfRow, standIns := [], harness := (true, "28b4b20e04e03052a64fc97e98ef870f25ef3248cef6f97c820d5f919366e238"), looks := false }, kinds := [], alts := [], laidByText := true, laidKinds := [.data], laidTests := true, laidLooks := .later }
def FnExactDayOfCardSaid : Prop := Claim7.holds Tryd.pinned (.plain (OpenSpec.ofChange fnExactDayOfSpec)) fnExactDayOfCard

/-- THE TIED CARD OF 'laws.FnExactDateOf'. -/
def fnExactDateOfCard : Claim7 := { stood := { row := fnExactDateOfRow, standIns := [], harness := (true, "28b4b20e04e03052a64fc97e98ef870f25ef3248cef6f97c820d5f919366e238"), looks := false }, kinds := [], alts := [], laidByText := true, laidKinds := [.data], laidTests := true, laidLooks := .later }
def FnExactDateOfCardSaid : Prop := Claim7.holds Tryd.pinned (.plain (OpenSpec.ofChange fnExactDateOfSpec)) fnExactDateOfCard

/-- THE TIED CARD OF 'laws.FnExactAddMonths'. -/
def fnExactAddMonthsCard : Claim7 := { stood := { row := fnExactAddMonthsRow, standIns := [], harness := (true, "28b4b20e04e03052a64fc97e98ef870f25ef3248cef6f97c820d5f919366e238"), looks := false }, kinds := [], alts := [], laidByText := true, laidKinds := [.data], laidTests := true, laidLooks := .later }
def FnExactAddMonthsCardSaid : Prop := Claim7.holds Tryd.pinned (.plain (OpenSpec.ofChange fnExactAddMonthsSpec)) fnExactAddMonthsCard

/-- THE TIED CARD OF 'laws.FnExactMonthEnd'. -/
def fnExactMonthEndCard : Claim7 := { stood := { row := fnExactMonthEndRow, standIns := [], harness := (true, "28b4b20e04e03052a64fc97e98ef870f25ef3248cef6f97c820d5f919366e238"), looks := false }, kinds := [], alts := [], laidByText := true, laidKinds := [.data], laidTests := true, laidLooks := .later }
def FnExactMonthEndCardSaid : Prop := Claim7.holds Tryd.pinned (.plain (OpenSpec.ofChange fnExactMonthEndSpec)) fnExactMonthEndCard

/-- THE TIED CARD OF 'laws.FnExactPeriods'. -/
def fnExactPeriodsCard : Claim7 := { stood := { row := fnExactPeriodsRow, standIns := [], harness := (true, "28b4b20e04e03052a64fc97e98ef870f25ef3248cef6f97c820d5f919366e238"), looks := false }, kinds := [], alts := [], laidByText := true, laidKinds := [.data, .data], laidTests := true, laidLooks := .later }
def FnExactPeriodsCardSaid : Prop := Claim7.holds Tryd.pinned (.plain (OpenSpec.ofChange fnExactPeriodsSpec)) fnExactPeriodsCard

/-- THE SECOND FORM's CARD OF 'laws.FnDatesBack'. -/
def fnDatesBackUptoCard : Claim7 := { stood := { row := fnDatesBackUptoRow, standIns := [], harness := (true, "28b4b20e04e03052a64fc97e98ef870f25ef3248cef6f97c820d5f919366e238"), looks := false }, kinds := [], alts := [], laidByText := true, laidKinds := [.data], laidTests := true, laidLooks := .later }
def FnDatesBackUptoCardSaid : Prop := Claim7.holds Tryd.pinned (.plain (OpenSpec.upto fnDatesBackSpec)) fnDatesBackUptoCard

/-- THE SECOND FORM's CARD OF 'laws.FnMonthsOn'. -/
def fnMonthsOnUptoCard : Claim7 := { stood := { row := fnMonthsOnUptoRow, standIns := [], harness := (true, "28b4b20e04e03052a64fc97e98ef870f25ef3248cef6f97c820d5f919366e238"), looks := false }, kinds := [], alts := [], laidByText := true, laidKinds := [.data], laidTests := true, laidLooks := .later }
def FnMonthsOnUptoCardSaid : Prop := Claim7.holds Tryd.pinned (.plain (OpenSpec.upto fnMonthsOnSpec)) fnMonthsOnUptoCard

/-- THE SECOND FORM's CARD OF 'laws.FnPeriodsWhole'. -/
def fnPeriodsWholeUptoCard : Claim7 := { stood := { row := fnPeriodsWholeUptoRow, standIns := [], harness := (true, "28b4b20e04e03052a64fc97e98ef870f25ef3248cef6f97c820d5f919366e238"), looks := false }, kinds := [], alts := [], laidByText := true, laidKinds := [.data, .data], laidTests := true, laidLooks := .later }
def FnPeriodsWholeUptoCardSaid : Prop := Claim7.holds Tryd.pinned (.plain (OpenSpec.upto fnPeriodsWholeSpec)) fnPeriodsWholeUptoCard

/-- THE SECOND FORM's CARD OF 'laws.FnExactDayOf'. -/
def fnExactDayOfUptoCard : Claim7 := { stood := { row := fnExactDayOfUptoRow, standIns := [], harness := (true, "28b4b20e04e03052a64fc97e98ef870f25ef3248cef6f97c820d5f919366e238"), looks := false }, kinds := [], alts := [], laidByText := true, laidKinds := [.data], laidTests := true, laidLooks := .later }
def FnExactDayOfUptoCardSaid : Prop := Claim7.holds Tryd.pinned (.plain (OpenSpec.upto fnExactDayOfSpec)) fnExactDayOfUptoCard

/-- THE SECOND FORM's CARD OF 'laws.FnExactDateOf'. -/
def fnExactDateOfUptoCard : Claim7 := { stood := { row := fnExactDateOfUptoRow, standIns := [], harness := (true, "28b4b20e04e03052a64fc97e98ef870f25ef3248cef6f97c820d5f919366e238"), looks := false }, kinds := [], alts := [], laidByText := true, laidKinds := [.data], laidTests := true, laidLooks := .later }
def FnExactDateOfUptoCardSaid : Prop := Claim7.holds Tryd.pinned (.plain (OpenSpec.upto fnExactDateOfSpec)) fnExactDateOfUptoCard

/-- THE SECOND FORM's CARD OF 'laws.FnExactAddMonths'. -/
def fnExactAddMonthsUptoCard : Claim7 := { stood := { row := fnExactAddMonthsUptoRow, standIns := [], harness := (true, "28b4b20e04e03052a64fc97e98ef870f25ef3248cef6f97c820d5f919366e238"), looks := false }, kinds := [], alts := [], laidByText := true, laidKinds := [.data], laidTests := true, laidLooks := .later }
def FnExactAddMonthsUptoCardSaid : Prop := Claim7.holds Tryd.pinned (.plain (OpenSpec.upto fnExactAddMonthsSpec)) fnExactAddMonthsUptoCard

/-- THE SECOND FORM's CARD OF 'laws.FnExactMonthEnd'. -/
def fnExactMonthEndUptoCard : Claim7 := { stood := { row := fnExactMonthEndUptoRow, standIns := [], harness := (true, "28b4b20e04e03052a64fc97e98ef870f25ef3248cef6f97c820d5f919366e238"), looks := false }, kinds := [], alts := [], laidByText := true, laidKinds := [.data], laidTests := true, laidLooks := .later }
def FnExactMonthEndUptoCardSaid : Prop := Claim7.holds Tryd.pinned (.plain (OpenSpec.upto fnExactMonthEndSpec)) fnExactMonthEndUptoCard

/-- THE SECOND FORM's CARD OF 'laws.FnExactPeriods'. -/
def fnExactPeriodsUptoCard : Claim7 := { stood := { row := fnExactPeriodsUptoRow, standIns := [], harness := (true, "28b4b20e04e03052a64fc97e98ef870f25ef3248cef6f97c820d5f919366e238"), looks := false }, kinds := [], alts := [], laidByText := true, laidKinds := [.data, .data], laidTests := true, laidLooks := .later }
def FnExactPeriodsUptoCardSaid : Prop := Claim7.holds Tryd.pinned (.plain (OpenSpec.upto fnExactPeriodsSpec)) fnExactPeriodsUptoCard
end Rows
end Go.Proofs.YtadjdpoplaknkaaDoor
