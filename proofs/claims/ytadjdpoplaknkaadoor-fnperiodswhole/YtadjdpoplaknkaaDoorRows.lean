/-
  NARROWER THAN 'FOR EVERY INPUT', by the rows' own cells (each row's printed sentence says how): FnDatesBack: laid · FnMonthsOn: laid · FnPeriodsWhole: laid · FnExactDayOf: laid · FnExactDateOf: laid · FnExactAddMonths: laid · FnExactMonthEnd: laid · FnExactPeriods: laid.
  DERIVED. THE GIVEN ROWS OF THIS SEAT. 8 by the template 'for every input the law returns true; each argument reads behind the call as it read before'; 0 by the template 'total and deterministic' (their statements: YtadjdpoplaknkaaDoorTotals.lean).
  GIVEN WITH THE SEED: the statements are not yours to turn. If you find one false, say at which input.
  Laid BY PROGRAM, IN A SANDBOX (cutbox-rows.mjs): the forced cells as the released guide's own fill.sh prints them over the translation 0955bba7f0830025… (all of the seat's roots in one cut). By AI agents, Wed Nov 11 2026. No macro, syntax, notation, axiom, sorry.
-/
import Derived.Test.YtadjdpoplaknkaaDoorChecked
import GoSem.Claim
import GoSem.ClaimJoined
import GoSem.ClaimMapViews
import Derived.JoinedTies
import Derived.KernelRfl
namespace Go.Proofs.YtadjdpoplaknkaaDoor
/- THE CELL 'sum', in the pinned program and in every row, IS THE sha256 OF THE DUMP (.gsa) THAT YtadjdpoplaknkaaDoorProg.lean LOADS. Nothing in Lean hashes anything: it is a label: what it is worth is what the hold of that sum in a sandbox is worth. -/
noncomputable def Tryd.pinned : Pinned := { name := "ytadjdpoplaknkaadoor", sum := "0955bba7f0830025a1b34344f83f0378660607527d403ec7ddfc6691caa190dd", checked := Tryd.checked }
namespace Rows
def none {H : Type} : Left H := { results := [], args := [] }

/- WHAT THE LISTED PACKAGE-LEVEL VARIABLES READ AS WHEN THE CALL BEGINS. Each datum BY PROGRAM (the guide's laid-datum.mjs) off the statement by which the dump's own 'gosem.cut.vars' lays the variable. In a bare row this is a premise. The card (YtadjdpoplaknkaaDoorCards.lean) ties it to the program's text. -/
def laid_loop_example_g00040_impl_monthLengths {H : Type} : DataW H := .agg [.lit (.int .i64 31), .lit (.int .i64 28), .lit (.int .i64 31), .lit (.int .i64 30), .lit (.int .i64 31), .lit (.int .i64 30), .lit (.int .i64 31), .lit (.int .i64 31), .lit (.int .i64 30), .lit (.int .i64 31), .lit (.int .i64 30), .lit (.int .i64 31)]
def laid_loop_example_g00040_impl_quarterLengths {H : Type} : DataW H := .agg [.lit (.int .i64 28), .lit (.int .i64 28), .lit (.int .i64 35)]

/-- 'laws.FnDatesBack': WHATEVER THE INPUT: true; the input reads as it did. -/
def fnDatesBackSpec : ChangeSpec := { name := "fnDatesBack", vars := ["loop.example/g00040/impl.monthLengths"], fn := fun _ => fun
  | [d, g1] => { results := [.lit (.bool true)], args := [d], vars := [g1] }
  | _ => none }
def fnDatesBackRow : OpenClaim := { program := "ytadjdpoplaknkaadoor", sum := "0955bba7f0830025a1b34344f83f0378660607527d403ec7ddfc6691caa190dd", func := "loop.example/g00040/laws.FnDatesBack", spec := "fnDatesBack", named := ["loop.example/g00040/impl.monthLengths"], apart := false, laid := [("loop.example/g00040/impl.monthLengths", laid_loop_example_g00040_impl_monthLengths)] }
def FnDatesBackSaid : Prop := fnDatesBackRow.holds Tryd.pinned (OpenSpec.ofChange fnDatesBackSpec)

/-- ITS FALSE NEIGHBOUR: 'it returns false'. Refute it at one input. -/
def fnDatesBackWrong : ChangeSpec := { name := "fnDatesBack", vars := ["loop.example/g00040/impl.monthLengths"], fn := fun _ => fun
  | [d, g1] => { results := [.lit (.bool false)], args := [d], vars := [g1] }
  | _ => none }
def FnDatesBackWrongFalsely : Prop := fnDatesBackRow.holds Tryd.pinned (OpenSpec.ofChange fnDatesBackWrong)

/-- 'laws.FnMonthsOn': WHATEVER THE INPUT: true; the input reads as it did. -/
def fnMonthsOnSpec : ChangeSpec := { name := "fnMonthsOn", vars := ["loop.example/g00040/impl.monthLengths"], fn := fun _ => fun
  | [d, g1] => { results := [.lit (.bool true)], args := [d], vars := [g1] }
  | _ => none }
def fnMonthsOnRow : OpenClaim := { program := "ytadjdpoplaknkaadoor", sum := "0955bba7f0830025a1b34344f83f0378660607527d403ec7ddfc6691caa190dd", func := "loop.example/g00040/laws.FnMonthsOn", spec := "fnMonthsOn", named := ["loop.example/g00040/impl.monthLengths"], apart := false, laid := [("loop.example/g00040/impl.monthLengths", laid_loop_example_g00040_impl_monthLengths)] }
def FnMonthsOnSaid : Prop := fnMonthsOnRow.holds Tryd.pinned (OpenSpec.ofChange fnMonthsOnSpec)

/-- ITS FALSE NEIGHBOUR: 'it returns false'. Refute it at one input. -/
def fnMonthsOnWrong : ChangeSpec := { name := "fnMonthsOn", vars := ["loop.example/g00040/impl.monthLengths"], fn := fun _ => fun
  | [d, g1] => { results := [.lit (.bool false)], args := [d], vars := [g1] }
  | _ => none }
def FnMonthsOnWrongFalsely : Prop := fnMonthsOnRow.holds Tryd.pinned (OpenSpec.ofChange fnMonthsOnWrong)

/-- 'laws.FnPeriodsWhole': WHATEVER THE INPUT: true; the input reads as it did. -/
def fnPeriodsWholeSpec : ChangeSpec := { name := "fnPeriodsWhole", vars := ["loop.example/g00040/impl.quarterLengths", "loop.example/g00040/impl.monthLengths"], fn := fun _ => fun
  | [d, g1, g2] => { results := [.lit (.bool true)], args := [d], vars := [g1, g2] }
  | _ => none }
def fnPeriodsWholeRow : OpenClaim := { program := "ytadjdpoplaknkaadoor", sum := "0955bba7f0830025a1b34344f83f0378660607527d403ec7ddfc6691caa190dd", func := "loop.example/g00040/laws.FnPeriodsWhole", spec := "fnPeriodsWhole", unfollowed := true, recurses := true, named := ["loop.example/g00040/impl.quarterLengths", "loop.example/g00040/impl.monthLengths"], apart := false, laid := [("loop.example/g00040/impl.monthLengths", laid_loop_example_g00040_impl_monthLengths), ("loop.example/g00040/impl.quarterLengths", laid_loop_example_g00040_impl_quarterLengths)] }
def FnPeriodsWholeSaid : Prop := fnPeriodsWholeRow.holds Tryd.pinned (OpenSpec.ofChange fnPeriodsWholeSpec)

/-- ITS FALSE NEIGHBOUR: 'it returns false'. Refute it at one input. -/
def fnPeriodsWholeWrong : ChangeSpec := { name := "fnPeriodsWhole", vars := ["loop.example/g00040/impl.quarterLengths", "loop.example/g00040/impl.monthLengths"], fn := fun _ => fun
  | [d, g1, g2] => { results := [.lit (.bool false)], args := [d], vars := [g1, g2] }
  | _ => none }
def FnPeriodsWholeWrongFalsely : Prop := fnPeriodsWholeRow.holds Tryd.pinned (OpenSpec.ofChange fnPeriodsWholeWrong)

/-- 'laws.FnExactDayOf': WHATEVER THE INPUT: true; the input reads as it did. -/
def fnExactDayOfSpec : ChangeSpec := { name := "fnExactDayOf", vars := ["loop.example/g00040/impl.monthLengths"], fn := fun _ => fun
  | [d, g1] => { results := [.lit (.bool true)], args := [d], vars := [g1] }
  | _ => none }
def fnExactDayOfRow : OpenClaim := { program := "ytadjdpoplaknkaadoor", sum := "0955bba7f0830025a1b34344f83f0378660607527d403ec7ddfc6691caa190dd", func := "loop.example/g00040/laws.FnExactDayOf", spec := "fnExactDayOf", named := ["loop.example/g00040/impl.monthLengths"], apart := false, laid := [("loop.example/g00040/impl.monthLengths", laid_loop_example_g00040_impl_monthLengths)] }
def FnExactDayOfSaid : Prop := fnExactDayOfRow.holds Tryd.pinned (OpenSpec.ofChange fnExactDayOfSpec)

/-- ITS FALSE NEIGHBOUR: 'it returns false'. Refute it at one input. -/
def fnExactDayOfWrong : ChangeSpec := { name := "fnExactDayOf", vars := ["loop.example/g00040/impl.monthLengths"], fn := fun _ => fun
  | [d, g1] => { results := [.lit (.bool false)], args := [d], vars := [g1] }
  | _ => none }
def FnExactDayOfWrongFalsely : Prop := fnExactDayOfRow.holds Tryd.pinned (OpenSpec.ofChange fnExactDayOfWrong)

/-- 'laws.FnExactDateOf': WHATEVER THE INPUT: true; the input reads as it did. -/
def fnExactDateOfSpec : ChangeSpec := { name := "fnExactDateOf", vars := ["loop.example/g00040/impl.monthLengths"], fn := fun _ => fun
  | [d, g1] => { results := [.lit (.bool true)], args := [d], vars := [g1] }
  | _ => none }
def fnExactDateOfRow : OpenClaim := { program := "ytadjdpoplaknkaadoor", sum := "0955bba7f0830025a1b34344f83f0378660607527d403ec7ddfc6691caa190dd", func := "loop.example/g00040/laws.FnExactDateOf", spec := "fnExactDateOf", named := ["loop.example/g00040/impl.monthLengths"], apart := false, laid := [("loop.example/g00040/impl.monthLengths", laid_loop_example_g00040_impl_monthLengths)] }
def FnExactDateOfSaid : Prop := fnExactDateOfRow.holds Tryd.pinned (OpenSpec.ofChange fnExactDateOfSpec)

/-- ITS FALSE NEIGHBOUR: 'it returns false'. Refute it at one input. -/
def fnExactDateOfWrong : ChangeSpec := { name := "fnExactDateOf", vars := ["loop.example/g00040/impl.monthLengths"], fn := fun _ => fun
  | [d, g1] => { results := [.lit (.bool false)], args := [d], vars := [g1] }
  | _ => none }
def FnExactDateOfWrongFalsely : Prop := fnExactDateOfRow.holds Tryd.pinned (OpenSpec.ofChange fnExactDateOfWrong)

/-- 'laws.FnExactAddMonths': WHATEVER THE INPUT: true; the input reads as it did. -/
def fnExactAddMonthsSpec : ChangeSpec := { name := "fnExactAddMonths", vars := ["loop.example/g00040/impl.monthLengths"], fn := fun _ => fun
  | [d1, d2, g1] => { results := [.lit (.bool true)], args := [d1, d2], vars := [g1] }
  | _ => none }
def fnExactAddMonthsRow : OpenClaim := { program := "ytadjdpoplaknkaadoor", sum := "0955bba7f0830025a1b34344f83f0378660607527d403ec7ddfc6691caa190dd", func := "loop.example/g00040/laws.FnExactAddMonths", spec := "fnExactAddMonths", named := ["loop.example/g00040/impl.monthLengths"], apart := false, laid := [("loop.example/g00040/impl.monthLengths", laid_loop_example_g00040_impl_monthLengths)] }
def FnExactAddMonthsSaid : Prop := fnExactAddMonthsRow.holds Tryd.pinned (OpenSpec.ofChange fnExactAddMonthsSpec)

/-- ITS FALSE NEIGHBOUR: 'it returns false'. Refute it at one input. -/
def fnExactAddMonthsWrong : ChangeSpec := { name := "fnExactAddMonths", vars := ["loop.example/g00040/impl.monthLengths"], fn := fun _ => fun
  | [d1, d2, g1] => { results := [.lit (.bool false)], args := [d1, d2], vars := [g1] }
  | _ => none }
def FnExactAddMonthsWrongFalsely : Prop := fnExactAddMonthsRow.holds Tryd.pinned (OpenSpec.ofChange fnExactAddMonthsWrong)

/-- 'laws.FnExactMonthEnd': WHATEVER THE INPUT: true; the input reads as it did. -/
def fnExactMonthEndSpec : ChangeSpec := { name := "fnExactMonthEnd", vars := ["loop.example/g00040/impl.monthLengths"], fn := fun _ => fun
  | [d, g1] => { results := [.lit (.bool true)], args := [d], vars := [g1] }
  | _ => none }
def fnExactMonthEndRow : OpenClaim := { program := "ytadjdpoplaknkaadoor", sum := "0955bba7f0830025a1b34344f83f0378660607527d403ec7ddfc6691caa190dd", func := "loop.example/g00040/laws.FnExactMonthEnd", spec := "fnExactMonthEnd", named := ["loop.example/g00040/impl.monthLengths"], apart := false, laid := [("loop.example/g00040/impl.monthLengths", laid_loop_example_g00040_impl_monthLengths)] }
def FnExactMonthEndSaid : Prop := fnExactMonthEndRow.holds Tryd.pinned (OpenSpec.ofChange fnExactMonthEndSpec)

/-- ITS FALSE NEIGHBOUR: 'it returns false'. Refute it at one input. -/
def fnExactMonthEndWrong : ChangeSpec := { name := "fnExactMonthEnd", vars := ["loop.example/g00040/impl.monthLengths"], fn := fun _ => fun
  | [d, g1] => { results := [.lit (.bool false)], args := [d], vars := [g1] }
  | _ => none }
def FnExactMonthEndWrongFalsely : Prop := fnExactMonthEndRow.holds Tryd.pinned (OpenSpec.ofChange fnExactMonthEndWrong)

/-- 'laws.FnExactPeriods': WHATEVER THE INPUT: true; the input reads as it did. -/
def fnExactPeriodsSpec : ChangeSpec := { name := "fnExactPeriods", vars := ["loop.example/g00040/impl.quarterLengths", "loop.example/g00040/impl.monthLengths"], fn := fun _ => fun
  | [d1, d2, d3, g1, g2] => { results := [.lit (.bool true)], args := [d1, d2, d3], vars := [g1, g2] }
  | _ => none }
def fnExactPeriodsRow : OpenClaim := { program := "ytadjdpoplaknkaadoor", sum := "0955bba7f0830025a1b34344f83f0378660607527d403ec7ddfc6691caa190dd", func := "loop.example/g00040/laws.FnExactPeriods", spec := "fnExactPeriods", named := ["loop.example/g00040/impl.quarterLengths", "loop.example/g00040/impl.monthLengths"], apart := false, laid := [("loop.example/g00040/impl.monthLengths", laid_loop_example_g00040_impl_monthLengths), ("loop.example/g00040/impl.quarterLengths", laid_loop_example_g00040_impl_quarterLengths)] }
def FnExactPeriodsSaid : Prop := fnExactPeriodsRow.holds Tryd.pinned (OpenSpec.ofChange fnExactPeriodsSpec)

/-- ITS FALSE NEIGHBOUR: 'it returns false'. Refute it at one input. -/
def fnExactPeriodsWrong : ChangeSpec := { name := "fnExactPeriods", vars := ["loop.example/g00040/impl.quarterLengths", "loop.example/g00040/impl.monthLengths"], fn := fun _ => fun
  | [d1, d2, d3, g1, g2] => { results := [.lit (.bool false)], args := [d1, d2, d3], vars := [g1, g2] }
  | _ => none }
def FnExactPeriodsWrongFalsely : Prop := fnExactPeriodsRow.holds Tryd.pinned (OpenSpec.ofChange fnExactPeriodsWrong)

/- THE SECOND FORM. 'bulk': how many values and letters a reading holds, each counted each time it is reached (what is shared counts as often as it is met; a slice's spare places count too). A statement '..UptoSaid' is the law's where the arguments, and the package variables that the reading takes, are together of bulk at most 1048576: NARROWER than '..Said'. Prove '..Said' where nothing that the law and all that it calls make is longer than what came in: it says more and counts as full. Else prove '..UptoSaid'. A law counts once. -/
mutual
def uptoBulk {H : Type} : DataW H → Nat
  | .lit (.string bytes) => bytes.length + 1
  | .lit _ => 1
  | .nil => 1
  | .ptr d => uptoBulk d + 1
  | .slice elems spare => uptoBulkAll elems + uptoBulkAll spare + 1
  | .agg parts => uptoBulkAll parts + 1
  | .iface _ d => uptoBulk d + 1
  | .map entries => uptoBulkEntries entries + 1
  | .held _ => 1
def uptoBulkAll {H : Type} : List (DataW H) → Nat
  | [] => 0
  | d :: r => uptoBulk d + uptoBulkAll r
def uptoBulkEntries {H : Type} : List (Lit × DataW H) → Nat
  | [] => 0
  | x :: r => uptoBulkEntry x + uptoBulkEntries r
def uptoBulkEntry {H : Type} : Lit × DataW H → Nat
  | (.string bytes, d) => bytes.length + uptoBulk d + 1
  | (_, d) => uptoBulk d + 1
 end
def uptoSmall : (H : Type) → List (DataW H) → Bool := fun _ ds => decide (uptoBulkAll ds ≤ 1048576)
def OpenSpec.upto (s : _root_.Go.ChangeSpec) : _root_.Go.OpenSpec := { _root_.Go.OpenSpec.ofChange s with cond := some uptoSmall }

/-- 'laws.FnDatesBack', WHERE WHAT IT READS IS OF BULK AT MOST 1048576: true; the input reads as it did. -/
def fnDatesBackUptoRow : OpenClaim := { program := "ytadjdpoplaknkaadoor", sum := "0955bba7f0830025a1b34344f83f0378660607527d403ec7ddfc6691caa190dd", func := "loop.example/g00040/laws.FnDatesBack", spec := "fnDatesBack", named := ["loop.example/g00040/impl.monthLengths"], apart := false, laid := [("loop.example/g00040/impl.monthLengths", laid_loop_example_g00040_impl_monthLengths)], narrowed := true }
def FnDatesBackUptoSaid : Prop := fnDatesBackUptoRow.holds Tryd.pinned (OpenSpec.upto fnDatesBackSpec)

/-- 'laws.FnMonthsOn', WHERE WHAT IT READS IS OF BULK AT MOST 1048576: true; the input reads as it did. -/
def fnMonthsOnUptoRow : OpenClaim := { program := "ytadjdpoplaknkaadoor", sum := "0955bba7f0830025a1b34344f83f0378660607527d403ec7ddfc6691caa190dd", func := "loop.example/g00040/laws.FnMonthsOn", spec := "fnMonthsOn", named := ["loop.example/g00040/impl.monthLengths"], apart := false, laid := [("loop.example/g00040/impl.monthLengths", laid_loop_example_g00040_impl_monthLengths)], narrowed := true }
def FnMonthsOnUptoSaid : Prop := fnMonthsOnUptoRow.holds Tryd.pinned (OpenSpec.upto fnMonthsOnSpec)

/-- 'laws.FnPeriodsWhole', WHERE WHAT IT READS IS OF BULK AT MOST 1048576: true; the input reads as it did. -/
def fnPeriodsWholeUptoRow : OpenClaim := { program := "ytadjdpoplaknkaadoor", sum := "0955bba7f0830025a1b34344f83f0378660607527d403ec7ddfc6691caa190dd", func := "loop.example/g00040/laws.FnPeriodsWhole", spec := "fnPeriodsWhole", unfollowed := true, recurses := true, named := ["loop.example/g00040/impl.quarterLengths", "loop.example/g00040/impl.monthLengths"], apart := false, laid := [("loop.example/g00040/impl.monthLengths", laid_loop_example_g00040_impl_monthLengths), ("loop.example/g00040/impl.quarterLengths", laid_loop_example_g00040_impl_quarterLengths)], narrowed := true }
def FnPeriodsWholeUptoSaid : Prop := fnPeriodsWholeUptoRow.holds Tryd.pinned (OpenSpec.upto fnPeriodsWholeSpec)

/-- 'laws.FnExactDayOf', WHERE WHAT IT READS IS OF BULK AT MOST 1048576: true; the input reads as it did. -/
def fnExactDayOfUptoRow : OpenClaim := { program := "ytadjdpoplaknkaadoor", sum := "0955bba7f0830025a1b34344f83f0378660607527d403ec7ddfc6691caa190dd", func := "loop.example/g00040/laws.FnExactDayOf", spec := "fnExactDayOf", named := ["loop.example/g00040/impl.monthLengths"], apart := false, laid := [("loop.example/g00040/impl.monthLengths", laid_loop_example_g00040_impl_monthLengths)], narrowed := true }
def FnExactDayOfUptoSaid : Prop := fnExactDayOfUptoRow.holds Tryd.pinned (OpenSpec.upto fnExactDayOfSpec)

/-- 'laws.FnExactDateOf', WHERE WHAT IT READS IS OF BULK AT MOST 1048576: true; the input reads as it did. -/
def fnExactDateOfUptoRow : OpenClaim := { program := "ytadjdpoplaknkaadoor", sum := "0955bba7f0830025a1b34344f83f0378660607527d403ec7ddfc6691caa190dd", func := "loop.example/g00040/laws.FnExactDateOf", spec := "fnExactDateOf", named := ["loop.example/g00040/impl.monthLengths"], apart := false, laid := [("loop.example/g00040/impl.monthLengths", laid_loop_example_g00040_impl_monthLengths)], narrowed := true }
def FnExactDateOfUptoSaid : Prop := fnExactDateOfUptoRow.holds Tryd.pinned (OpenSpec.upto fnExactDateOfSpec)

/-- 'laws.FnExactAddMonths', WHERE WHAT IT READS IS OF BULK AT MOST 1048576: true; the input reads as it did. -/
def fnExactAddMonthsUptoRow : OpenClaim := { program := "ytadjdpoplaknkaadoor", sum := "0955bba7f0830025a1b34344f83f0378660607527d403ec7ddfc6691caa190dd", func := "loop.example/g00040/laws.FnExactAddMonths", spec := "fnExactAddMonths", named := ["loop.example/g00040/impl.monthLengths"], apart := false, laid := [("loop.example/g00040/impl.monthLengths", laid_loop_example_g00040_impl_monthLengths)], narrowed := true }
def FnExactAddMonthsUptoSaid : Prop := fnExactAddMonthsUptoRow.holds Tryd.pinned (OpenSpec.upto fnExactAddMonthsSpec)

/-- 'laws.FnExactMonthEnd', WHERE WHAT IT READS IS OF BULK AT MOST 1048576: true; the input reads as it did. -/
def fnExactMonthEndUptoRow : OpenClaim := { program := "ytadjdpoplaknkaadoor", sum := "0955bba7f0830025a1b34344f83f0378660607527d403ec7ddfc6691caa190dd", func := "loop.example/g00040/laws.FnExactMonthEnd", spec := "fnExactMonthEnd", named := ["loop.example/g00040/impl.monthLengths"], apart := false, laid := [("loop.example/g00040/impl.monthLengths", laid_loop_example_g00040_impl_monthLengths)], narrowed := true }
def FnExactMonthEndUptoSaid : Prop := fnExactMonthEndUptoRow.holds Tryd.pinned (OpenSpec.upto fnExactMonthEndSpec)

/-- 'laws.FnExactPeriods', WHERE WHAT IT READS IS OF BULK AT MOST 1048576: true; the input reads as it did. -/
def fnExactPeriodsUptoRow : OpenClaim := { program := "ytadjdpoplaknkaadoor", sum := "0955bba7f0830025a1b34344f83f0378660607527d403ec7ddfc6691caa190dd", func := "loop.example/g00040/laws.FnExactPeriods", spec := "fnExactPeriods", named := ["loop.example/g00040/impl.quarterLengths", "loop.example/g00040/impl.monthLengths"], apart := false, laid := [("loop.example/g00040/impl.monthLengths", laid_loop_example_g00040_impl_monthLengths), ("loop.example/g00040/impl.quarterLengths", laid_loop_example_g00040_impl_quarterLengths)], narrowed := true }
def FnExactPeriodsUptoSaid : Prop := fnExactPeriodsUptoRow.holds Tryd.pinned (OpenSpec.upto fnExactPeriodsSpec)

end Rows
end Go.Proofs.YtadjdpoplaknkaaDoor
