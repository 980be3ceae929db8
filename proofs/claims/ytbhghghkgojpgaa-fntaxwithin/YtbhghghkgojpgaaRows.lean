/-
  No cell of these rows narrows 'for every input' (looked for: loops, veiled, ifaces, maps, wideKeys, modest, calm, conditions, laid).
  DERIVED. THE GIVEN ROWS OF THIS SEAT. 5 by the template 'for every input the law returns true; each argument reads behind the call as it read before'; 0 by the template 'total and deterministic' (their statements: YtbhghghkgojpgaaTotals.lean).
  GIVEN WITH THE SEED: the statements are not yours to turn. If you find one false, say at which input.
  Laid BY PROGRAM, IN A SANDBOX (cutbox-rows.mjs): the forced cells as the released guide's own fill.sh prints them over the translation 8416f28cc3e5c6bc… (all of the seat's roots in one cut). By AI agents, Wed Nov 11 2026. No macro, syntax, notation, axiom, sorry.
-/
import Derived.Test.YtbhghghkgojpgaaChecked
import GoSem.Claim
import GoSem.ClaimJoined
import GoSem.ClaimMapViews
import Derived.JoinedTies
import Derived.KernelRfl
namespace Go.Proofs.Ytbhghghkgojpgaa
/- THE CELL 'sum', in the pinned program and in every row, IS THE sha256 OF THE DUMP (.gsa) THAT YtbhghghkgojpgaaProg.lean LOADS. Nothing in Lean hashes anything: it is a label: what it is worth is what the hold of that sum in a sandbox is worth. -/
noncomputable def Try.pinned : Pinned := { name := "ytbhghghkgojpgaa", sum := "8416f28cc3e5c6bc14a01b020d60e45a0064ccbd29714d33a768bbbb108244c1", checked := Try.checked }
namespace Rows
def none {H : Type} : Left H := { results := [], args := [] }

/-- 'laws.FnTaxWithin': WHATEVER THE INPUT: true; the input reads as it did. -/
def fnTaxWithinSpec : ChangeSpec := { name := "fnTaxWithin", fn := fun _ => fun
  | [d] => { results := [.lit (.bool true)], args := [d] }
  | _ => none }
def fnTaxWithinRow : OpenClaim := { program := "ytbhghghkgojpgaa", sum := "8416f28cc3e5c6bc14a01b020d60e45a0064ccbd29714d33a768bbbb108244c1", func := "loop.example/g00040/laws.FnTaxWithin", spec := "fnTaxWithin", unfollowed := true, recurses := true, apart := false }
def FnTaxWithinSaid : Prop := fnTaxWithinRow.holds Try.pinned (OpenSpec.ofChange fnTaxWithinSpec)

/-- ITS FALSE NEIGHBOUR: 'it returns false'. Refute it at one input. -/
def fnTaxWithinWrong : ChangeSpec := { name := "fnTaxWithin", fn := fun _ => fun
  | [d] => { results := [.lit (.bool false)], args := [d] }
  | _ => none }
def FnTaxWithinWrongFalsely : Prop := fnTaxWithinRow.holds Try.pinned (OpenSpec.ofChange fnTaxWithinWrong)

/-- 'laws.FnReturnsJoin': WHATEVER THE INPUT: true; the input reads as it did. -/
def fnReturnsJoinSpec : ChangeSpec := { name := "fnReturnsJoin", fn := fun _ => fun
  | [d] => { results := [.lit (.bool true)], args := [d] }
  | _ => none }
def fnReturnsJoinRow : OpenClaim := { program := "ytbhghghkgojpgaa", sum := "8416f28cc3e5c6bc14a01b020d60e45a0064ccbd29714d33a768bbbb108244c1", func := "loop.example/g00040/laws.FnReturnsJoin", spec := "fnReturnsJoin", unfollowed := true, recurses := true, apart := false }
def FnReturnsJoinSaid : Prop := fnReturnsJoinRow.holds Try.pinned (OpenSpec.ofChange fnReturnsJoinSpec)

/-- ITS FALSE NEIGHBOUR: 'it returns false'. Refute it at one input. -/
def fnReturnsJoinWrong : ChangeSpec := { name := "fnReturnsJoin", fn := fun _ => fun
  | [d] => { results := [.lit (.bool false)], args := [d] }
  | _ => none }
def FnReturnsJoinWrongFalsely : Prop := fnReturnsJoinRow.holds Try.pinned (OpenSpec.ofChange fnReturnsJoinWrong)

/-- 'laws.FnExactTaxRulesOk': WHATEVER THE INPUT: true; the input reads as it did. -/
def fnExactTaxRulesOkSpec : ChangeSpec := { name := "fnExactTaxRulesOk", fn := fun _ => fun
  | [d] => { results := [.lit (.bool true)], args := [d] }
  | _ => none }
def fnExactTaxRulesOkRow : OpenClaim := { program := "ytbhghghkgojpgaa", sum := "8416f28cc3e5c6bc14a01b020d60e45a0064ccbd29714d33a768bbbb108244c1", func := "loop.example/g00040/laws.FnExactTaxRulesOk", spec := "fnExactTaxRulesOk", unfollowed := true, recurses := true, apart := false }
def FnExactTaxRulesOkSaid : Prop := fnExactTaxRulesOkRow.holds Try.pinned (OpenSpec.ofChange fnExactTaxRulesOkSpec)

/-- ITS FALSE NEIGHBOUR: 'it returns false'. Refute it at one input. -/
def fnExactTaxRulesOkWrong : ChangeSpec := { name := "fnExactTaxRulesOk", fn := fun _ => fun
  | [d] => { results := [.lit (.bool false)], args := [d] }
  | _ => none }
def FnExactTaxRulesOkWrongFalsely : Prop := fnExactTaxRulesOkRow.holds Try.pinned (OpenSpec.ofChange fnExactTaxRulesOkWrong)

/-- 'laws.FnExactTaxOf': WHATEVER THE INPUT: true; the input reads as it did. -/
def fnExactTaxOfSpec : ChangeSpec := { name := "fnExactTaxOf", fn := fun _ => fun
  | [d1, d2, d3, d4, d5] => { results := [.lit (.bool true)], args := [d1, d2, d3, d4, d5] }
  | _ => none }
def fnExactTaxOfRow : OpenClaim := { program := "ytbhghghkgojpgaa", sum := "8416f28cc3e5c6bc14a01b020d60e45a0064ccbd29714d33a768bbbb108244c1", func := "loop.example/g00040/laws.FnExactTaxOf", spec := "fnExactTaxOf", unfollowed := true, recurses := true, apart := false }
def FnExactTaxOfSaid : Prop := fnExactTaxOfRow.holds Try.pinned (OpenSpec.ofChange fnExactTaxOfSpec)

/-- ITS FALSE NEIGHBOUR: 'it returns false'. Refute it at one input. -/
def fnExactTaxOfWrong : ChangeSpec := { name := "fnExactTaxOf", fn := fun _ => fun
  | [d1, d2, d3, d4, d5] => { results := [.lit (.bool false)], args := [d1, d2, d3, d4, d5] }
  | _ => none }
def FnExactTaxOfWrongFalsely : Prop := fnExactTaxOfRow.holds Try.pinned (OpenSpec.ofChange fnExactTaxOfWrong)

/-- 'laws.FnExactTaxReturn': WHATEVER THE INPUT: true; the input reads as it did. -/
def fnExactTaxReturnSpec : ChangeSpec := { name := "fnExactTaxReturn", fn := fun _ => fun
  | [d1, d2, d3] => { results := [.lit (.bool true)], args := [d1, d2, d3] }
  | _ => none }
def fnExactTaxReturnRow : OpenClaim := { program := "ytbhghghkgojpgaa", sum := "8416f28cc3e5c6bc14a01b020d60e45a0064ccbd29714d33a768bbbb108244c1", func := "loop.example/g00040/laws.FnExactTaxReturn", spec := "fnExactTaxReturn", unfollowed := true, recurses := true, apart := false }
def FnExactTaxReturnSaid : Prop := fnExactTaxReturnRow.holds Try.pinned (OpenSpec.ofChange fnExactTaxReturnSpec)

/-- ITS FALSE NEIGHBOUR: 'it returns false'. Refute it at one input. -/
def fnExactTaxReturnWrong : ChangeSpec := { name := "fnExactTaxReturn", fn := fun _ => fun
  | [d1, d2, d3] => { results := [.lit (.bool false)], args := [d1, d2, d3] }
  | _ => none }
def FnExactTaxReturnWrongFalsely : Prop := fnExactTaxReturnRow.holds Try.pinned (OpenSpec.ofChange fnExactTaxReturnWrong)

/- THE SECOND FORM. 'bulk': how many values and letters a reading holds, each counted each time it is reached (what is shared counts as often as it is met; a slice's spare places count too). A statement '..UptoSaid' is the law's where the arguments, and the package variables that the reading takes, are together of bulk at most 1048576: NARROWER than '..Said'. Prove '..Said' where nothing that the law and all that it calls make is longer than what came in: it says more and counts as full. Else prove '..UptoSaid'. A law counts once. -/
mutual
def uptoBulk {H : Type} : DataW H → Nat
  | .lit (.string bytes) => bytes.length + 1
  | .lit _ => 1
  | .nil => 1
  | .ptr d => uptoBulk d + 1
  | .slice elems spare => uptoBulkAll elems + uptoBulkAll spare + 1
  | .agg parts => uptoBulkAll parts + 1
  | .iface _ d => uptoBulk d + 1
  | .map entries => uptoBulkEntries entries + 1
  | .held _ => 1
def uptoBulkAll {H : Type} : List (DataW H) → Nat
  | [] => 0
  | d :: r => uptoBulk d + uptoBulkAll r
def uptoBulkEntries {H : Type} : List (Lit × DataW H) → Nat
  | [] => 0
  | x :: r => uptoBulkEntry x + uptoBulkEntries r
def uptoBulkEntry {H : Type} : Lit × DataW H → Nat
  | (.string bytes, d) => bytes.length + uptoBulk d + 1
  | (_, d) => uptoBulk d + 1
 end
def uptoSmall : (H : Type) → List (DataW H) → Bool := fun _ ds => decide (uptoBulkAll ds ≤ 1048576)
def OpenSpec.upto (s : _root_.Go.ChangeSpec) : _root_.Go.OpenSpec := { _root_.Go.OpenSpec.ofChange s with cond := some uptoSmall }

/-- 'laws.FnTaxWithin', WHERE WHAT IT READS IS OF BULK AT MOST 1048576: true; the input reads as it did. -/
def fnTaxWithinUptoRow : OpenClaim := { program := "ytbhghghkgojpgaa", sum := "8416f28cc3e5c6bc14a01b020d60e45a0064ccbd29714d33a768bbbb108244c1", func := "loop.example/g00040/laws.FnTaxWithin", spec := "fnTaxWithin", unfollowed := true, recurses := true, apart := false, narrowed := true }
def FnTaxWithinUptoSaid : Prop := fnTaxWithinUptoRow.holds Try.pinned (OpenSpec.upto fnTaxWithinSpec)

/-- 'laws.FnReturnsJoin', WHERE WHAT IT READS IS OF BULK AT MOST 1048576: true; the input reads as it did. -/
def fnReturnsJoinUptoRow : OpenClaim := { program := "ytbhghghkgojpgaa", sum := "8416f28cc3e5c6bc14a01b020d60e45a0064ccbd29714d33a768bbbb108244c1", func := "loop.example/g00040/laws.FnReturnsJoin", spec := "fnReturnsJoin", unfollowed := true, recurses := true, apart := false, narrowed := true }
def FnReturnsJoinUptoSaid : Prop := fnReturnsJoinUptoRow.holds Try.pinned (OpenSpec.upto fnReturnsJoinSpec)

/-- 'laws.FnExactTaxRulesOk', WHERE WHAT IT READS IS OF BULK AT MOST 1048576: true; the input reads as it did. -/
def fnExactTaxRulesOkUptoRow : OpenClaim := { program := "ytbhghghkgojpgaa", sum := "8416f28cc3e5c6bc14a01b020d60e45a0064ccbd29714d33a768bbbb108244c1", func := "loop.example/g00040/laws.FnExactTaxRulesOk", spec := "fnExactTaxRulesOk", unfollowed := true, recurses := true, apart := false, narrowed := true }
def FnExactTaxRulesOkUptoSaid : Prop := fnExactTaxRulesOkUptoRow.holds Try.pinned (OpenSpec.upto fnExactTaxRulesOkSpec)

/-- 'laws.FnExactTaxOf', WHERE WHAT IT READS IS OF BULK AT MOST 1048576: true; the input reads as it did. -/
def fnExactTaxOfUptoRow : OpenClaim := { program := "ytbhghghkgojpgaa", sum := "8416f28cc3e5c6bc14a01b020d60e45a0064ccbd29714d33a768bbbb108244c1", func := "loop.example/g00040/laws.FnExactTaxOf", spec := "fnExactTaxOf", unfollowed := true, recurses := true, apart := false, narrowed := true }
def FnExactTaxOfUptoSaid : Prop := fnExactTaxOfUptoRow.holds Try.pinned (OpenSpec.upto fnExactTaxOfSpec)

/-- 'laws.FnExactTaxReturn', WHERE WHAT IT READS IS OF BULK AT MOST 1048576: true; the input reads as it did. -/
def fnExactTaxReturnUptoRow : OpenClaim := { program := "ytbhghghkgojpgaa", sum := "8416f28cc3e5c6bc14a01b020d60e45a0064ccbd29714d33a768bbbb108244c1", func := "loop.example/g00040/laws.FnExactTaxReturn", spec := "fnExactTaxReturn", unfollowed := true, recurses := true, apart := false, narrowed := true }
def FnExactTaxReturnUptoSaid : Prop := fnExactTaxReturnUptoRow.holds Try.pinned (OpenSpec.upto fnExactTaxReturnSpec)

end Rows
end Go.Proofs.Ytbhghghkgojpgaa
