/-
  NARROWER THAN 'FOR EVERY INPUT', by the rows' own cells (each row's printed sentence says how): FnYearClosed: ifaces, laid · FnMovesJoined: ifaces, laid · FnExactBooksOk: ifaces, laid.
  DERIVED. THE GIVEN ROWS OF THIS SEAT. 3 by the template 'for every input the law returns true; each argument reads behind the call as it read before'; 0 by the template 'total and deterministic' (their statements: YtapailihjlfkgaaDoorTotals.lean).
  GIVEN WITH THE SEED: the statements are not yours to turn. If you find one false, say at which input.
  Laid BY PROGRAM, IN A SANDBOX (cutbox-rows.mjs): the forced cells as the released guide's own fill.sh prints them over the translation 75aae06a4f02d82d… (all of the seat's roots in one cut). By AI agents, Wed Nov 11 2026. No macro, syntax, notation, axiom, sorry.
-/
import Derived.Test.YtapailihjlfkgaaDoorChecked
import GoSem.Claim
import GoSem.ClaimJoined
import GoSem.ClaimMapViews
import Derived.JoinedTies
import Derived.KernelRfl
namespace Go.Proofs.YtapailihjlfkgaaDoor
/- THE CELL 'sum', in the pinned program and in every row, IS THE sha256 OF THE DUMP (.gsa) THAT YtapailihjlfkgaaDoorProg.lean LOADS. Nothing in Lean hashes anything: it is a label: what it is worth is what the hold of that sum in a sandbox is worth. -/
noncomputable def Tryd.pinned : Pinned := { name := "ytapailihjlfkgaadoor", sum := "75aae06a4f02d82d5c7c0bce04e31b0e1c3cdc94f7a562aaadfc896e973d0cda", checked := Tryd.checked }
namespace Rows
def none {H : Type} : Left H := { results := [], args := [] }

/- WHAT THE LISTED PACKAGE-LEVEL VARIABLES READ AS WHEN THE CALL BEGINS. Each datum BY PROGRAM (the guide's laid-datum.mjs) off the statement by which the dump's own 'gosem.cut.vars' lays the variable. In a bare row this is a premise. The card (YtapailihjlfkgaaDoorCards.lean) ties it to the program's text. -/
def laid_loop_example_g00040_impl_errNoName {H : Type} : DataW H := .iface "*errors.errorString" (.ptr (.agg [.lit (.string [97, 32, 99, 111, 100, 101, 32, 116, 104, 97, 116, 32, 105, 115, 32, 110, 111, 32, 110, 97, 109, 101])]))
def laid_loop_example_g00040_impl_errNoKind {H : Type} : DataW H := .iface "*errors.errorString" (.ptr (.agg [.lit (.string [110, 111, 32, 107, 105, 110, 100])]))
def laid_loop_example_g00040_impl_errTwice {H : Type} : DataW H := .iface "*errors.errorString" (.ptr (.agg [.lit (.string [97, 32, 99, 111, 100, 101, 32, 116, 104, 97, 116, 32, 115, 116, 111, 111, 100, 32, 97, 104, 101, 97, 100])]))
def laid_loop_example_g00040_impl_errGap {H : Type} : DataW H := .iface "*errors.errorString" (.ptr (.agg [.lit (.string [112, 97, 114, 116, 32, 111, 102, 32, 97, 110, 32, 97, 99, 99, 111, 117, 110, 116, 32, 116, 104, 97, 116, 32, 105, 115, 32, 110, 111, 116, 32, 111, 110, 32, 116, 104, 101, 32, 119, 97, 121, 32, 117, 112])]))
def laid_loop_example_g00040_impl_errOtherKind {H : Type} : DataW H := .iface "*errors.errorString" (.ptr (.agg [.lit (.string [112, 97, 114, 116, 32, 111, 102, 32, 97, 110, 32, 97, 99, 99, 111, 117, 110, 116, 32, 111, 102, 32, 97, 110, 111, 116, 104, 101, 114, 32, 107, 105, 110, 100])]))
def laid_loop_example_g00040_impl_errTooDeep {H : Type} : DataW H := .iface "*errors.errorString" (.ptr (.agg [.lit (.string [116, 111, 111, 32, 109, 97, 110, 121, 32, 97, 99, 99, 111, 117, 110, 116, 115, 32, 97, 98, 111, 118, 101])]))
def laid_loop_example_g00040_impl_errTooMany {H : Type} : DataW H := .iface "*errors.errorString" (.ptr (.agg [.lit (.string [116, 111, 111, 32, 109, 97, 110, 121, 32, 97, 99, 99, 111, 117, 110, 116, 115])]))
def laid_loop_example_g00040_impl_errBooks {H : Type} : DataW H := .iface "*errors.errorString" (.ptr (.agg [.lit (.string [98, 111, 111, 107, 115, 32, 116, 104, 97, 116, 32, 97, 114, 101, 32, 110, 111, 116, 32, 114, 105, 103, 104, 116])]))
def laid_loop_example_g00040_impl_errEntry {H : Type} : DataW H := .iface "*errors.errorString" (.ptr (.agg [.lit (.string [97, 110, 32, 101, 110, 116, 114, 121, 32, 116, 104, 97, 116, 32, 105, 115, 32, 110, 111, 116, 32, 114, 105, 103, 104, 116])]))

/-- 'laws.FnYearClosed': WHATEVER THE INPUT: true; the input reads as it did. -/
def fnYearClosedSpec : ChangeSpec := { name := "fnYearClosed", vars := ["loop.example/g00040/impl.errBooks", "loop.example/g00040/impl.errTooMany", "loop.example/g00040/impl.errNoName", "loop.example/g00040/impl.errTwice", "loop.example/g00040/impl.errNoKind", "loop.example/g00040/impl.errGap", "loop.example/g00040/impl.errOtherKind", "loop.example/g00040/impl.errTooDeep", "loop.example/g00040/impl.errEntry"], fn := fun _ => fun
  | [d, g1, g2, g3, g4, g5, g6, g7, g8, g9] => { results := [.lit (.bool true)], args := [d], vars := [g1, g2, g3, g4, g5, g6, g7, g8, g9] }
  | _ => none }
def fnYearClosedRow : OpenClaim := { program := "ytapailihjlfkgaadoor", sum := "75aae06a4f02d82d5c7c0bce04e31b0e1c3cdc94f7a562aaadfc896e973d0cda", func := "loop.example/g00040/laws.FnYearClosed", spec := "fnYearClosed", unfollowed := true, recurses := true, named := ["loop.example/g00040/impl.errBooks", "loop.example/g00040/impl.errTooMany", "loop.example/g00040/impl.errNoName", "loop.example/g00040/impl.errTwice", "loop.example/g00040/impl.errNoKind", "loop.example/g00040/impl.errGap", "loop.example/g00040/impl.errOtherKind", "loop.example/g00040/impl.errTooDeep", "loop.example/g00040/impl.errEntry"], ifaces := true, plainKeys := false, apart := false, laid := [("loop.example/g00040/impl.errNoName", laid_loop_example_g00040_impl_errNoName), ("loop.example/g00040/impl.errNoKind", laid_loop_example_g00040_impl_errNoKind), ("loop.example/g00040/impl.errTwice", laid_loop_example_g00040_impl_errTwice), ("loop.example/g00040/impl.errGap", laid_loop_example_g00040_impl_errGap), ("loop.example/g00040/impl.errOtherKind", laid_loop_example_g00040_impl_errOtherKind), ("loop.example/g00040/impl.errTooDeep", laid_loop_example_g00040_impl_errTooDeep), ("loop.example/g00040/impl.errTooMany", laid_loop_example_g00040_impl_errTooMany), ("loop.example/g00040/impl.errBooks", laid_loop_example_g00040_impl_errBooks), ("loop.example/g00040/impl.errEntry", laid_loop_example_g00040_impl_errEntry)] }
def FnYearClosedSaid : Prop := fnYearClosedRow.holds Tryd.pinned (OpenSpec.ofChange fnYearClosedSpec)

/-- ITS FALSE NEIGHBOUR: 'it returns false'. Refute it at one input. -/
def fnYearClosedWrong : ChangeSpec := { name := "fnYearClosed", vars := ["loop.example/g00040/impl.errBooks", "loop.example/g00040/impl.errTooMany", "loop.example/g00040/impl.errNoName", "loop.example/g00040/impl.errTwice", "loop.example/g00040/impl.errNoKind", "loop.example/g00040/impl.errGap", "loop.example/g00040/impl.errOtherKind", "loop.example/g00040/impl.errTooDeep", "loop.example/g00040/impl.errEntry"], fn := fun _ => fun
  | [d, g1, g2, g3, g4, g5, g6, g7, g8, g9] => { results := [.lit (.bool false)], args := [d], vars := [g1, g2, g3, g4, g5, g6, g7, g8, g9] }
  | _ => none }
def FnYearClosedWrongFalsely : Prop := fnYearClosedRow.holds Tryd.pinned (OpenSpec.ofChange fnYearClosedWrong)

/-- 'laws.FnMovesJoined': WHATEVER THE INPUT: true; the input reads as it did. -/
def fnMovesJoinedSpec : ChangeSpec := { name := "fnMovesJoined", vars := ["loop.example/g00040/impl.errBooks", "loop.example/g00040/impl.errTooMany", "loop.example/g00040/impl.errNoName", "loop.example/g00040/impl.errTwice", "loop.example/g00040/impl.errNoKind", "loop.example/g00040/impl.errGap", "loop.example/g00040/impl.errOtherKind", "loop.example/g00040/impl.errTooDeep"], fn := fun _ => fun
  | [d, g1, g2, g3, g4, g5, g6, g7, g8] => { results := [.lit (.bool true)], args := [d], vars := [g1, g2, g3, g4, g5, g6, g7, g8] }
  | _ => none }
def fnMovesJoinedRow : OpenClaim := { program := "ytapailihjlfkgaadoor", sum := "75aae06a4f02d82d5c7c0bce04e31b0e1c3cdc94f7a562aaadfc896e973d0cda", func := "loop.example/g00040/laws.FnMovesJoined", spec := "fnMovesJoined", unfollowed := true, recurses := true, named := ["loop.example/g00040/impl.errBooks", "loop.example/g00040/impl.errTooMany", "loop.example/g00040/impl.errNoName", "loop.example/g00040/impl.errTwice", "loop.example/g00040/impl.errNoKind", "loop.example/g00040/impl.errGap", "loop.example/g00040/impl.errOtherKind", "loop.example/g00040/impl.errTooDeep"], ifaces := true, plainKeys := false, apart := false, laid := [("loop.example/g00040/impl.errNoName", laid_loop_example_g00040_impl_errNoName), ("loop.example/g00040/impl.errNoKind", laid_loop_example_g00040_impl_errNoKind), ("loop.example/g00040/impl.errTwice", laid_loop_example_g00040_impl_errTwice), ("loop.example/g00040/impl.errGap", laid_loop_example_g00040_impl_errGap), ("loop.example/g00040/impl.errOtherKind", laid_loop_example_g00040_impl_errOtherKind), ("loop.example/g00040/impl.errTooDeep", laid_loop_example_g00040_impl_errTooDeep), ("loop.example/g00040/impl.errTooMany", laid_loop_example_g00040_impl_errTooMany), ("loop.example/g00040/impl.errBooks", laid_loop_example_g00040_impl_errBooks)] }
def FnMovesJoinedSaid : Prop := fnMovesJoinedRow.holds Tryd.pinned (OpenSpec.ofChange fnMovesJoinedSpec)

/-- ITS FALSE NEIGHBOUR: 'it returns false'. Refute it at one input. -/
def fnMovesJoinedWrong : ChangeSpec := { name := "fnMovesJoined", vars := ["loop.example/g00040/impl.errBooks", "loop.example/g00040/impl.errTooMany", "loop.example/g00040/impl.errNoName", "loop.example/g00040/impl.errTwice", "loop.example/g00040/impl.errNoKind", "loop.example/g00040/impl.errGap", "loop.example/g00040/impl.errOtherKind", "loop.example/g00040/impl.errTooDeep"], fn := fun _ => fun
  | [d, g1, g2, g3, g4, g5, g6, g7, g8] => { results := [.lit (.bool false)], args := [d], vars := [g1, g2, g3, g4, g5, g6, g7, g8] }
  | _ => none }
def FnMovesJoinedWrongFalsely : Prop := fnMovesJoinedRow.holds Tryd.pinned (OpenSpec.ofChange fnMovesJoinedWrong)

/-- 'laws.FnExactBooksOk': WHATEVER THE INPUT: true; the input reads as it did. -/
def fnExactBooksOkSpec : ChangeSpec := { name := "fnExactBooksOk", vars := ["loop.example/g00040/impl.errBooks", "loop.example/g00040/impl.errTooMany", "loop.example/g00040/impl.errNoName", "loop.example/g00040/impl.errTwice", "loop.example/g00040/impl.errNoKind", "loop.example/g00040/impl.errGap", "loop.example/g00040/impl.errOtherKind", "loop.example/g00040/impl.errTooDeep"], fn := fun _ => fun
  | [d, g1, g2, g3, g4, g5, g6, g7, g8] => { results := [.lit (.bool true)], args := [d], vars := [g1, g2, g3, g4, g5, g6, g7, g8] }
  | _ => none }
def fnExactBooksOkRow : OpenClaim := { program := "ytapailihjlfkgaadoor", sum := "75aae06a4f02d82d5c7c0bce04e31b0e1c3cdc94f7a562aaadfc896e973d0cda", func := "loop.example/g00040/laws.FnExactBooksOk", spec := "fnExactBooksOk", unfollowed := true, recurses := true, named := ["loop.example/g00040/impl.errBooks", "loop.example/g00040/impl.errTooMany", "loop.example/g00040/impl.errNoName", "loop.example/g00040/impl.errTwice", "loop.example/g00040/impl.errNoKind", "loop.example/g00040/impl.errGap", "loop.example/g00040/impl.errOtherKind", "loop.example/g00040/impl.errTooDeep"], ifaces := true, plainKeys := false, apart := false, laid := [("loop.example/g00040/impl.errNoName", laid_loop_example_g00040_impl_errNoName), ("loop.example/g00040/impl.errNoKind", laid_loop_example_g00040_impl_errNoKind), ("loop.example/g00040/impl.errTwice", laid_loop_example_g00040_impl_errTwice), ("loop.example/g00040/impl.errGap", laid_loop_example_g00040_impl_errGap), ("loop.example/g00040/impl.errOtherKind", laid_loop_example_g00040_impl_errOtherKind), ("loop.example/g00040/impl.errTooDeep", laid_loop_example_g00040_impl_errTooDeep), ("loop.example/g00040/impl.errTooMany", laid_loop_example_g00040_impl_errTooMany), ("loop.example/g00040/impl.errBooks", laid_loop_example_g00040_impl_errBooks)] }
def FnExactBooksOkSaid : Prop := fnExactBooksOkRow.holds Tryd.pinned (OpenSpec.ofChange fnExactBooksOkSpec)

/-- ITS FALSE NEIGHBOUR: 'it returns false'. Refute it at one input. -/
def fnExactBooksOkWrong : ChangeSpec := { name := "fnExactBooksOk", vars := ["loop.example/g00040/impl.errBooks", "loop.example/g00040/impl.errTooMany", "loop.example/g00040/impl.errNoName", "loop.example/g00040/impl.errTwice", "loop.example/g00040/impl.errNoKind", "loop.example/g00040/impl.errGap", "loop.example/g00040/impl.errOtherKind", "loop.example/g00040/impl.errTooDeep"], fn := fun _ => fun
  | [d, g1, g2, g3, g4, g5, g6, g7, g8] => { results := [.lit (.bool false)], args := [d], vars := [g1, g2, g3, g4, g5, g6, g7, g8] }
  | _ => none }
def FnExactBooksOkWrongFalsely : Prop := fnExactBooksOkRow.holds Tryd.pinned (OpenSpec.ofChange fnExactBooksOkWrong)

/- THE SECOND FORM. 'bulk': how many values and letters a reading holds, each counted each time it is reached (what is shared counts as often as it is met; a slice's spare places count too). A statement '..UptoSaid' is the law's where the arguments, and the package variables that the reading takes, are together of bulk at most 1048576: NARROWER than '..Said'. Prove '..Said' where nothing that the law and all that it calls make is longer than what came in: it says more and counts as full. Else prove '..UptoSaid'. A law counts once. -/
mutual
def uptoBulk {H : Type} : DataW H → Nat
  | .lit (.string bytes) => bytes.length + 1
  | .lit _ => 1
  | .nil => 1
  | .ptr d => uptoBulk d + 1
  | .slice elems spare => uptoBulkAll elems + uptoBulkAll spare + 1
  | .agg parts => uptoBulkAll parts + 1
  | .iface _ d => uptoBulk d + 1
  | .map entries => uptoBulkEntries entries + 1
  | .held _ => 1
def uptoBulkAll {H : Type} : List (DataW H) → Nat
  | [] => 0
  | d :: r => uptoBulk d + uptoBulkAll r
def uptoBulkEntries {H : Type} : List (Lit × DataW H) → Nat
  | [] => 0
  | x :: r => uptoBulkEntry x + uptoBulkEntries r
def uptoBulkEntry {H : Type} : Lit × DataW H → Nat
  | (.string bytes, d) => bytes.length + uptoBulk d + 1
  | (_, d) => uptoBulk d + 1
 end
def uptoSmall : (H : Type) → List (DataW H) → Bool := fun _ ds => decide (uptoBulkAll ds ≤ 1048576)
def OpenSpec.upto (s : _root_.Go.ChangeSpec) : _root_.Go.OpenSpec := { _root_.Go.OpenSpec.ofChange s with cond := some uptoSmall }

/-- 'laws.FnYearClosed', WHERE WHAT IT READS IS OF BULK AT MOST 1048576: true; the input reads as it did. -/
def fnYearClosedUptoRow : OpenClaim := { program := "ytapailihjlfkgaadoor", sum := "75aae06a4f02d82d5c7c0bce04e31b0e1c3cdc94f7a562aaadfc896e973d0cda", func := "loop.example/g00040/laws.FnYearClosed", spec := "fnYearClosed", unfollowed := true, recurses := true, named := ["loop.example/g00040/impl.errBooks", "loop.example/g00040/impl.errTooMany", "loop.example/g00040/impl.errNoName", "loop.example/g00040/impl.errTwice", "loop.example/g00040/impl.errNoKind", "loop.example/g00040/impl.errGap", "loop.example/g00040/impl.errOtherKind", "loop.example/g00040/impl.errTooDeep", "loop.example/g00040/impl.errEntry"], ifaces := true, plainKeys := false, apart := false, laid := [("loop.example/g00040/impl.errNoName", laid_loop_example_g00040_impl_errNoName), ("loop.example/g00040/impl.errNoKind", laid_loop_example_g00040_impl_errNoKind), ("loop.example/g00040/impl.errTwice", laid_loop_example_g00040_impl_errTwice), ("loop.example/g00040/impl.errGap", laid_loop_example_g00040_impl_errGap), ("loop.example/g00040/impl.errOtherKind", laid_loop_example_g00040_impl_errOtherKind), ("loop.example/g00040/impl.errTooDeep", laid_loop_example_g00040_impl_errTooDeep), ("loop.example/g00040/impl.errTooMany", laid_loop_example_g00040_impl_errTooMany), ("loop.example/g00040/impl.errBooks", laid_loop_example_g00040_impl_errBooks), ("loop.example/g00040/impl.errEntry", laid_loop_example_g00040_impl_errEntry)], narrowed := true }
def FnYearClosedUptoSaid : Prop := fnYearClosedUptoRow.holds Tryd.pinned (OpenSpec.upto fnYearClosedSpec)

/-- 'laws.FnMovesJoined', WHERE WHAT IT READS IS OF BULK AT MOST 1048576: true; the input reads as it did. -/
def fnMovesJoinedUptoRow : OpenClaim := { program := "ytapailihjlfkgaadoor", sum := "75aae06a4f02d82d5c7c0bce04e31b0e1c3cdc94f7a562aaadfc896e973d0cda", func := "loop.example/g00040/laws.FnMovesJoined", spec := "fnMovesJoined", unfollowed := true, recurses := true, named := ["loop.example/g00040/impl.errBooks", "loop.example/g00040/impl.errTooMany", "loop.example/g00040/impl.errNoName", "loop.example/g00040/impl.errTwice", "loop.example/g00040/impl.errNoKind", "loop.example/g00040/impl.errGap", "loop.example/g00040/impl.errOtherKind", "loop.example/g00040/impl.errTooDeep"], ifaces := true, plainKeys := false, apart := false, laid := [("loop.example/g00040/impl.errNoName", laid_loop_example_g00040_impl_errNoName), ("loop.example/g00040/impl.errNoKind", laid_loop_example_g00040_impl_errNoKind), ("loop.example/g00040/impl.errTwice", laid_loop_example_g00040_impl_errTwice), ("loop.example/g00040/impl.errGap", laid_loop_example_g00040_impl_errGap), ("loop.example/g00040/impl.errOtherKind", laid_loop_example_g00040_impl_errOtherKind), ("loop.example/g00040/impl.errTooDeep", laid_loop_example_g00040_impl_errTooDeep), ("loop.example/g00040/impl.errTooMany", laid_loop_example_g00040_impl_errTooMany), ("loop.example/g00040/impl.errBooks", laid_loop_example_g00040_impl_errBooks)], narrowed := true }
def FnMovesJoinedUptoSaid : Prop := fnMovesJoinedUptoRow.holds Tryd.pinned (OpenSpec.upto fnMovesJoinedSpec)

/-- 'laws.FnExactBooksOk', WHERE WHAT IT READS IS OF BULK AT MOST 1048576: true; the input reads as it did. -/
def fnExactBooksOkUptoRow : OpenClaim := { program := "ytapailihjlfkgaadoor", sum := "75aae06a4f02d82d5c7c0bce04e31b0e1c3cdc94f7a562aaadfc896e973d0cda", func := "loop.example/g00040/laws.FnExactBooksOk", spec := "fnExactBooksOk", unfollowed := true, recurses := true, named := ["loop.example/g00040/impl.errBooks", "loop.example/g00040/impl.errTooMany", "loop.example/g00040/impl.errNoName", "loop.example/g00040/impl.errTwice", "loop.example/g00040/impl.errNoKind", "loop.example/g00040/impl.errGap", "loop.example/g00040/impl.errOtherKind", "loop.example/g00040/impl.errTooDeep"], ifaces := true, plainKeys := false, apart := false, laid := [("loop.example/g00040/impl.errNoName", laid_loop_example_g00040_impl_errNoName), ("loop.example/g00040/impl.errNoKind", laid_loop_example_g00040_impl_errNoKind), ("loop.example/g00040/impl.errTwice", laid_loop_example_g00040_impl_errTwice), ("loop.example/g00040/impl.errGap", laid_loop_example_g00040_impl_errGap), ("loop.example/g00040/impl.errOtherKind", laid_loop_example_g00040_impl_errOtherKind), ("loop.example/g00040/impl.errTooDeep", laid_loop_example_g00040_impl_errTooDeep), ("loop.example/g00040/impl.errTooMany", laid_loop_example_g00040_impl_errTooMany), ("loop.example/g00040/impl.errBooks", laid_loop_example_g00040_impl_errBooks)], narrowed := true }
def FnExactBooksOkUptoSaid : Prop := fnExactBooksOkUptoRow.holds Tryd.pinned (OpenSpec.upto fnExactBooksOkSpec)

end Rows
end Go.Proofs.YtapailihjlfkgaaDoor
