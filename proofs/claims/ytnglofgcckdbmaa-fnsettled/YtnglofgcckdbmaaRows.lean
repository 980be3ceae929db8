/-
  No cell of these rows narrows 'for every input' (looked for: loops, veiled, ifaces, maps, wideKeys, modest, calm, conditions, laid).
  DERIVED. THE GIVEN ROWS OF THIS SEAT. 8 by the template 'for every input the law returns true; each argument reads behind the call as it read before'; 0 by the template 'total and deterministic' (their statements: YtnglofgcckdbmaaTotals.lean).
  GIVEN WITH THE SEED: the statements are not yours to turn. If you find one false, say at which input.
  Laid BY PROGRAM, IN A SANDBOX (cutbox-rows.mjs): the forced cells as the released guide's own fill.sh prints them over the translation ee39b11037da4090… (all of the seat's roots in one cut). By AI agents, Wed Nov 11 2026. No macro, syntax, notation, axiom, sorry.
-/
import Derived.Test.YtnglofgcckdbmaaChecked
import GoSem.Claim
import GoSem.ClaimJoined
import GoSem.ClaimMapViews
import Derived.JoinedTies
import Derived.KernelRfl
namespace Go.Proofs.Ytnglofgcckdbmaa
/- THE CELL 'sum', in the pinned program and in every row, IS THE sha256 OF THE DUMP (.gsa) THAT YtnglofgcckdbmaaProg.lean LOADS. Nothing in Lean hashes anything: it is a label: what it is worth is what the hold of that sum in a sandbox is worth. -/
noncomputable def Try.pinned : Pinned := { name := "ytnglofgcckdbmaa", sum := "ee39b11037da40909b6e7b8f4b2e66630487bdf6e2e76f78f1f2f6ec044381f4", checked := Try.checked }
namespace Rows
def none {H : Type} : Left H := { results := [], args := [] }

/-- 'laws.FnProposed': WHATEVER THE INPUT: true; the input reads as it did. -/
def fnProposedSpec : ChangeSpec := { name := "fnProposed", fn := fun _ => fun
  | [d] => { results := [.lit (.bool true)], args := [d] }
  | _ => none }
def fnProposedRow : OpenClaim := { program := "ytnglofgcckdbmaa", sum := "ee39b11037da40909b6e7b8f4b2e66630487bdf6e2e76f78f1f2f6ec044381f4", func := "loop.example/g00040/laws.FnProposed", spec := "fnProposed", unfollowed := true, recurses := true, apart := false }
def FnProposedSaid : Prop := fnProposedRow.holds Try.pinned (OpenSpec.ofChange fnProposedSpec)

/-- ITS FALSE NEIGHBOUR: 'it returns false'. Refute it at one input. -/
def fnProposedWrong : ChangeSpec := { name := "fnProposed", fn := fun _ => fun
  | [d] => { results := [.lit (.bool false)], args := [d] }
  | _ => none }
def FnProposedWrongFalsely : Prop := fnProposedRow.holds Try.pinned (OpenSpec.ofChange fnProposedWrong)

/-- 'laws.FnReconciled': WHATEVER THE INPUT: true; the input reads as it did. -/
def fnReconciledSpec : ChangeSpec := { name := "fnReconciled", fn := fun _ => fun
  | [d] => { results := [.lit (.bool true)], args := [d] }
  | _ => none }
def fnReconciledRow : OpenClaim := { program := "ytnglofgcckdbmaa", sum := "ee39b11037da40909b6e7b8f4b2e66630487bdf6e2e76f78f1f2f6ec044381f4", func := "loop.example/g00040/laws.FnReconciled", spec := "fnReconciled", unfollowed := true, recurses := true, apart := false }
def FnReconciledSaid : Prop := fnReconciledRow.holds Try.pinned (OpenSpec.ofChange fnReconciledSpec)

/-- ITS FALSE NEIGHBOUR: 'it returns false'. Refute it at one input. -/
def fnReconciledWrong : ChangeSpec := { name := "fnReconciled", fn := fun _ => fun
  | [d] => { results := [.lit (.bool false)], args := [d] }
  | _ => none }
def FnReconciledWrongFalsely : Prop := fnReconciledRow.holds Try.pinned (OpenSpec.ofChange fnReconciledWrong)

/-- 'laws.FnExactPropose': WHATEVER THE INPUT: true; the input reads as it did. -/
def fnExactProposeSpec : ChangeSpec := { name := "fnExactPropose", fn := fun _ => fun
  | [d1, d2, d3, d4] => { results := [.lit (.bool true)], args := [d1, d2, d3, d4] }
  | _ => none }
def fnExactProposeRow : OpenClaim := { program := "ytnglofgcckdbmaa", sum := "ee39b11037da40909b6e7b8f4b2e66630487bdf6e2e76f78f1f2f6ec044381f4", func := "loop.example/g00040/laws.FnExactPropose", spec := "fnExactPropose", unfollowed := true, recurses := true, apart := false }
def FnExactProposeSaid : Prop := fnExactProposeRow.holds Try.pinned (OpenSpec.ofChange fnExactProposeSpec)

/-- ITS FALSE NEIGHBOUR: 'it returns false'. Refute it at one input. -/
def fnExactProposeWrong : ChangeSpec := { name := "fnExactPropose", fn := fun _ => fun
  | [d1, d2, d3, d4] => { results := [.lit (.bool false)], args := [d1, d2, d3, d4] }
  | _ => none }
def FnExactProposeWrongFalsely : Prop := fnExactProposeRow.holds Try.pinned (OpenSpec.ofChange fnExactProposeWrong)

/-- 'laws.FnExactReconcile': WHATEVER THE INPUT: true; the input reads as it did. -/
def fnExactReconcileSpec : ChangeSpec := { name := "fnExactReconcile", fn := fun _ => fun
  | [d1, d2] => { results := [.lit (.bool true)], args := [d1, d2] }
  | _ => none }
def fnExactReconcileRow : OpenClaim := { program := "ytnglofgcckdbmaa", sum := "ee39b11037da40909b6e7b8f4b2e66630487bdf6e2e76f78f1f2f6ec044381f4", func := "loop.example/g00040/laws.FnExactReconcile", spec := "fnExactReconcile", unfollowed := true, recurses := true, apart := false }
def FnExactReconcileSaid : Prop := fnExactReconcileRow.holds Try.pinned (OpenSpec.ofChange fnExactReconcileSpec)

/-- ITS FALSE NEIGHBOUR: 'it returns false'. Refute it at one input. -/
def fnExactReconcileWrong : ChangeSpec := { name := "fnExactReconcile", fn := fun _ => fun
  | [d1, d2] => { results := [.lit (.bool false)], args := [d1, d2] }
  | _ => none }
def FnExactReconcileWrongFalsely : Prop := fnExactReconcileRow.holds Try.pinned (OpenSpec.ofChange fnExactReconcileWrong)

/-- 'laws.FnSettled': WHATEVER THE INPUT: true; the input reads as it did. -/
def fnSettledSpec : ChangeSpec := { name := "fnSettled", fn := fun _ => fun
  | [d] => { results := [.lit (.bool true)], args := [d] }
  | _ => none }
def fnSettledRow : OpenClaim := { program := "ytnglofgcckdbmaa", sum := "ee39b11037da40909b6e7b8f4b2e66630487bdf6e2e76f78f1f2f6ec044381f4", func := "loop.example/g00040/laws.FnSettled", spec := "fnSettled", unfollowed := true, recurses := true, apart := false }
def FnSettledSaid : Prop := fnSettledRow.holds Try.pinned (OpenSpec.ofChange fnSettledSpec)

/-- ITS FALSE NEIGHBOUR: 'it returns false'. Refute it at one input. -/
def fnSettledWrong : ChangeSpec := { name := "fnSettled", fn := fun _ => fun
  | [d] => { results := [.lit (.bool false)], args := [d] }
  | _ => none }
def FnSettledWrongFalsely : Prop := fnSettledRow.holds Try.pinned (OpenSpec.ofChange fnSettledWrong)

/-- 'laws.FnExactSettle': WHATEVER THE INPUT: true; the input reads as it did. -/
def fnExactSettleSpec : ChangeSpec := { name := "fnExactSettle", fn := fun _ => fun
  | [d1, d2] => { results := [.lit (.bool true)], args := [d1, d2] }
  | _ => none }
def fnExactSettleRow : OpenClaim := { program := "ytnglofgcckdbmaa", sum := "ee39b11037da40909b6e7b8f4b2e66630487bdf6e2e76f78f1f2f6ec044381f4", func := "loop.example/g00040/laws.FnExactSettle", spec := "fnExactSettle", unfollowed := true, recurses := true, apart := false }
def FnExactSettleSaid : Prop := fnExactSettleRow.holds Try.pinned (OpenSpec.ofChange fnExactSettleSpec)

/-- ITS FALSE NEIGHBOUR: 'it returns false'. Refute it at one input. -/
def fnExactSettleWrong : ChangeSpec := { name := "fnExactSettle", fn := fun _ => fun
  | [d1, d2] => { results := [.lit (.bool false)], args := [d1, d2] }
  | _ => none }
def FnExactSettleWrongFalsely : Prop := fnExactSettleRow.holds Try.pinned (OpenSpec.ofChange fnExactSettleWrong)

/-- 'laws.FnFactored': WHATEVER THE INPUT: true; the input reads as it did. -/
def fnFactoredSpec : ChangeSpec := { name := "fnFactored", fn := fun _ => fun
  | [d] => { results := [.lit (.bool true)], args := [d] }
  | _ => none }
def fnFactoredRow : OpenClaim := { program := "ytnglofgcckdbmaa", sum := "ee39b11037da40909b6e7b8f4b2e66630487bdf6e2e76f78f1f2f6ec044381f4", func := "loop.example/g00040/laws.FnFactored", spec := "fnFactored", unfollowed := true, recurses := true, apart := false }
def FnFactoredSaid : Prop := fnFactoredRow.holds Try.pinned (OpenSpec.ofChange fnFactoredSpec)

/-- ITS FALSE NEIGHBOUR: 'it returns false'. Refute it at one input. -/
def fnFactoredWrong : ChangeSpec := { name := "fnFactored", fn := fun _ => fun
  | [d] => { results := [.lit (.bool false)], args := [d] }
  | _ => none }
def FnFactoredWrongFalsely : Prop := fnFactoredRow.holds Try.pinned (OpenSpec.ofChange fnFactoredWrong)

/-- 'laws.FnExactFactor': WHATEVER THE INPUT: true; the input reads as it did. -/
def fnExactFactorSpec : ChangeSpec := { name := "fnExactFactor", fn := fun _ => fun
  | [d1, d2, d3, d4] => { results := [.lit (.bool true)], args := [d1, d2, d3, d4] }
  | _ => none }
def fnExactFactorRow : OpenClaim := { program := "ytnglofgcckdbmaa", sum := "ee39b11037da40909b6e7b8f4b2e66630487bdf6e2e76f78f1f2f6ec044381f4", func := "loop.example/g00040/laws.FnExactFactor", spec := "fnExactFactor", unfollowed := true, recurses := true, apart := false }
def FnExactFactorSaid : Prop := fnExactFactorRow.holds Try.pinned (OpenSpec.ofChange fnExactFactorSpec)

/-- ITS FALSE NEIGHBOUR: 'it returns false'. Refute it at one input. -/
def fnExactFactorWrong : ChangeSpec := { name := "fnExactFactor", fn := fun _ => fun
  | [d1, d2, d3, d4] => { results := [.lit (.bool false)], args := [d1, d2, d3, d4] }
  | _ => none }
def FnExactFactorWrongFalsely : Prop := fnExactFactorRow.holds Try.pinned (OpenSpec.ofChange fnExactFactorWrong)

/- THE SECOND FORM. 'bulk': how many values and letters a reading holds, each counted each time it is reached (what is shared counts as often as it is met; a slice's spare places count too). A statement '..UptoSaid' is the law's where the arguments, and the package variables that the reading takes, are together of bulk at most 1048576: NARROWER than '..Said'. Prove '..Said' where nothing that the law and all that it calls make is longer than what came in: it says more and counts as full. Else prove '..UptoSaid'. A law counts once. -/
mutual
def uptoBulk {H : Type} : DataW H → Nat
  | .lit (.string bytes) => bytes.length + 1
  | .lit _ => 1
  | .nil => 1
  | .ptr d => uptoBulk d + 1
  | .slice elems spare => uptoBulkAll elems + uptoBulkAll spare + 1
  | .agg parts => uptoBulkAll parts + 1
  | .iface _ d => uptoBulk d + 1
  | .map entries => uptoBulkEntries entries + 1
  | .held _ => 1
def uptoBulkAll {H : Type} : List (DataW H) → Nat
  | [] => 0
  | d :: r => uptoBulk d + uptoBulkAll r
def uptoBulkEntries {H : Type} : List (Lit × DataW H) → Nat
  | [] => 0
  | x :: r => uptoBulkEntry x + uptoBulkEntries r
def uptoBulkEntry {H : Type} : Lit × DataW H → Nat
  | (.string bytes, d) => bytes.length + uptoBulk d + 1
  | (_, d) => uptoBulk d + 1
 end
def uptoSmall : (H : Type) → List (DataW H) → Bool := fun _ ds => decide (uptoBulkAll ds ≤ 1048576)
def OpenSpec.upto (s : _root_.Go.ChangeSpec) : _root_.Go.OpenSpec := { _root_.Go.OpenSpec.ofChange s with cond := some uptoSmall }

/-- 'laws.FnProposed', WHERE WHAT IT READS IS OF BULK AT MOST 1048576: true; the input reads as it did. -/
def fnProposedUptoRow : OpenClaim := { program := "ytnglofgcckdbmaa", sum := "ee39b11037da40909b6e7b8f4b2e66630487bdf6e2e76f78f1f2f6ec044381f4", func := "loop.example/g00040/laws.FnProposed", spec := "fnProposed", unfollowed := true, recurses := true, apart := false, narrowed := true }
def FnProposedUptoSaid : Prop := fnProposedUptoRow.holds Try.pinned (OpenSpec.upto fnProposedSpec)

/-- 'laws.FnReconciled', WHERE WHAT IT READS IS OF BULK AT MOST 1048576: true; the input reads as it did. -/
def fnReconciledUptoRow : OpenClaim := { program := "ytnglofgcckdbmaa", sum := "ee39b11037da40909b6e7b8f4b2e66630487bdf6e2e76f78f1f2f6ec044381f4", func := "loop.example/g00040/laws.FnReconciled", spec := "fnReconciled", unfollowed := true, recurses := true, apart := false, narrowed := true }
def FnReconciledUptoSaid : Prop := fnReconciledUptoRow.holds Try.pinned (OpenSpec.upto fnReconciledSpec)

/-- 'laws.FnExactPropose', WHERE WHAT IT READS IS OF BULK AT MOST 1048576: true; the input reads as it did. -/
def fnExactProposeUptoRow : OpenClaim := { program := "ytnglofgcckdbmaa", sum := "ee39b11037da40909b6e7b8f4b2e66630487bdf6e2e76f78f1f2f6ec044381f4", func := "loop.example/g00040/laws.FnExactPropose", spec := "fnExactPropose", unfollowed := true, recurses := true, apart := false, narrowed := true }
def FnExactProposeUptoSaid : Prop := fnExactProposeUptoRow.holds Try.pinned (OpenSpec.upto fnExactProposeSpec)

/-- 'laws.FnExactReconcile', WHERE WHAT IT READS IS OF BULK AT MOST 1048576: true; the input reads as it did. -/
def fnExactReconcileUptoRow : OpenClaim := { program := "ytnglofgcckdbmaa", sum := "ee39b11037da40909b6e7b8f4b2e66630487bdf6e2e76f78f1f2f6ec044381f4", func := "loop.example/g00040/laws.FnExactReconcile", spec := "fnExactReconcile", unfollowed := true, recurses := true, apart := false, narrowed := true }
def FnExactReconcileUptoSaid : Prop := fnExactReconcileUptoRow.holds Try.pinned (OpenSpec.upto fnExactReconcileSpec)

/-- 'laws.FnSettled', WHERE WHAT IT READS IS OF BULK AT MOST 1048576: true; the input reads as it did. -/
def fnSettledUptoRow : OpenClaim := { program := "ytnglofgcckdbmaa", sum := "ee39b11037da40909b6e7b8f4b2e66630487bdf6e2e76f78f1f2f6ec044381f4", func := "loop.example/g00040/laws.FnSettled", spec := "fnSettled", unfollowed := true, recurses := true, apart := false, narrowed := true }
def FnSettledUptoSaid : Prop := fnSettledUptoRow.holds Try.pinned (OpenSpec.upto fnSettledSpec)

/-- 'laws.FnExactSettle', WHERE WHAT IT READS IS OF BULK AT MOST 1048576: true; the input reads as it did. -/
def fnExactSettleUptoRow : OpenClaim := { program := "ytnglofgcckdbmaa", sum := "ee39b11037da40909b6e7b8f4b2e66630487bdf6e2e76f78f1f2f6ec044381f4", func := "loop.example/g00040/laws.FnExactSettle", spec := "fnExactSettle", unfollowed := true, recurses := true, apart := false, narrowed := true }
def FnExactSettleUptoSaid : Prop := fnExactSettleUptoRow.holds Try.pinned (OpenSpec.upto fnExactSettleSpec)

/-- 'laws.FnFactored', WHERE WHAT IT READS IS OF BULK AT MOST 1048576: true; the input reads as it did. -/
def fnFactoredUptoRow : OpenClaim := { program := "ytnglofgcckdbmaa", sum := "ee39b11037da40909b6e7b8f4b2e66630487bdf6e2e76f78f1f2f6ec044381f4", func := "loop.example/g00040/laws.FnFactored", spec := "fnFactored", unfollowed := true, recurses := true, apart := false, narrowed := true }
def FnFactoredUptoSaid : Prop := fnFactoredUptoRow.holds Try.pinned (OpenSpec.upto fnFactoredSpec)

/-- 'laws.FnExactFactor', WHERE WHAT IT READS IS OF BULK AT MOST 1048576: true; the input reads as it did. -/
def fnExactFactorUptoRow : OpenClaim := { program := "ytnglofgcckdbmaa", sum := "ee39b11037da40909b6e7b8f4b2e66630487bdf6e2e76f78f1f2f6ec044381f4", func := "loop.example/g00040/laws.FnExactFactor", spec := "fnExactFactor", unfollowed := true, recurses := true, apart := false, narrowed := true }
def FnExactFactorUptoSaid : Prop := fnExactFactorUptoRow.holds Try.pinned (OpenSpec.upto fnExactFactorSpec)

end Rows
end Go.Proofs.Ytnglofgcckdbmaa
