/-
  No cell of these rows narrows 'for every input' (looked for: loops, veiled, ifaces, maps, wideKeys, modest, calm, conditions, laid).
  DERIVED. THE GIVEN ROWS OF THIS SEAT. 10 by the template 'for every input the law returns true; each argument reads behind the call as it read before'; 0 by the template 'total and deterministic' (their statements: YtlhgmdmbjpaakaaTotals.lean).
  GIVEN WITH THE SEED: the statements are not yours to turn. If you find one false, say at which input.
  Laid BY PROGRAM, IN A SANDBOX (cutbox-rows.mjs): the forced cells as the released guide's own fill.sh prints them over the translation e4280b6562d6f9ae… (all of the seat's roots in one cut). By AI agents, Wed Nov 11 2026. No macro, syntax, notation, axiom, sorry.
-/
import Derived.Test.YtlhgmdmbjpaakaaChecked
import GoSem.Claim
import GoSem.ClaimJoined
import GoSem.ClaimMapViews
import Derived.JoinedTies
import Derived.KernelRfl
namespace Go.Proofs.Ytlhgmdmbjpaakaa
/- THE CELL 'sum', in the pinned program and in every row, IS THE sha256 OF THE DUMP (.gsa) THAT YtlhgmdmbjpaakaaProg.lean LOADS. Nothing in Lean hashes anything: it is a label: what it is worth is what the hold of that sum in a sandbox is worth. -/
noncomputable def Try.pinned : Pinned := { name := "ytlhgmdmbjpaakaa", sum := "e4280b6562d6f9ae304ef529776df49529239a66a83f5986fe244f21e1a2445d", checked := Try.checked }
namespace Rows
def none {H : Type} : Left H := { results := [], args := [] }

/-- 'laws.FnCredited': WHATEVER THE INPUT: true; the input reads as it did. -/
def fnCreditedSpec : ChangeSpec := { name := "fnCredited", fn := fun _ => fun
  | [d] => { results := [.lit (.bool true)], args := [d] }
  | _ => none }
def fnCreditedRow : OpenClaim := { program := "ytlhgmdmbjpaakaa", sum := "e4280b6562d6f9ae304ef529776df49529239a66a83f5986fe244f21e1a2445d", func := "loop.example/g00040/laws.FnCredited", spec := "fnCredited", unfollowed := true, recurses := true, apart := false }
def FnCreditedSaid : Prop := fnCreditedRow.holds Try.pinned (OpenSpec.ofChange fnCreditedSpec)

/-- ITS FALSE NEIGHBOUR: 'it returns false'. Refute it at one input. -/
def fnCreditedWrong : ChangeSpec := { name := "fnCredited", fn := fun _ => fun
  | [d] => { results := [.lit (.bool false)], args := [d] }
  | _ => none }
def FnCreditedWrongFalsely : Prop := fnCreditedRow.holds Try.pinned (OpenSpec.ofChange fnCreditedWrong)

/-- 'laws.FnSettled': WHATEVER THE INPUT: true; the input reads as it did. -/
def fnSettledSpec : ChangeSpec := { name := "fnSettled", fn := fun _ => fun
  | [d] => { results := [.lit (.bool true)], args := [d] }
  | _ => none }
def fnSettledRow : OpenClaim := { program := "ytlhgmdmbjpaakaa", sum := "e4280b6562d6f9ae304ef529776df49529239a66a83f5986fe244f21e1a2445d", func := "loop.example/g00040/laws.FnSettled", spec := "fnSettled", unfollowed := true, recurses := true, apart := false }
def FnSettledSaid : Prop := fnSettledRow.holds Try.pinned (OpenSpec.ofChange fnSettledSpec)

/-- ITS FALSE NEIGHBOUR: 'it returns false'. Refute it at one input. -/
def fnSettledWrong : ChangeSpec := { name := "fnSettled", fn := fun _ => fun
  | [d] => { results := [.lit (.bool false)], args := [d] }
  | _ => none }
def FnSettledWrongFalsely : Prop := fnSettledRow.holds Try.pinned (OpenSpec.ofChange fnSettledWrong)

/-- 'laws.FnReminded': WHATEVER THE INPUT: true; the input reads as it did. -/
def fnRemindedSpec : ChangeSpec := { name := "fnReminded", fn := fun _ => fun
  | [d] => { results := [.lit (.bool true)], args := [d] }
  | _ => none }
def fnRemindedRow : OpenClaim := { program := "ytlhgmdmbjpaakaa", sum := "e4280b6562d6f9ae304ef529776df49529239a66a83f5986fe244f21e1a2445d", func := "loop.example/g00040/laws.FnReminded", spec := "fnReminded", unfollowed := true, recurses := true, apart := false }
def FnRemindedSaid : Prop := fnRemindedRow.holds Try.pinned (OpenSpec.ofChange fnRemindedSpec)

/-- ITS FALSE NEIGHBOUR: 'it returns false'. Refute it at one input. -/
def fnRemindedWrong : ChangeSpec := { name := "fnReminded", fn := fun _ => fun
  | [d] => { results := [.lit (.bool false)], args := [d] }
  | _ => none }
def FnRemindedWrongFalsely : Prop := fnRemindedRow.holds Try.pinned (OpenSpec.ofChange fnRemindedWrong)

/-- 'laws.FnFactored': WHATEVER THE INPUT: true; the input reads as it did. -/
def fnFactoredSpec : ChangeSpec := { name := "fnFactored", fn := fun _ => fun
  | [d] => { results := [.lit (.bool true)], args := [d] }
  | _ => none }
def fnFactoredRow : OpenClaim := { program := "ytlhgmdmbjpaakaa", sum := "e4280b6562d6f9ae304ef529776df49529239a66a83f5986fe244f21e1a2445d", func := "loop.example/g00040/laws.FnFactored", spec := "fnFactored", unfollowed := true, recurses := true, apart := false }
def FnFactoredSaid : Prop := fnFactoredRow.holds Try.pinned (OpenSpec.ofChange fnFactoredSpec)

/-- ITS FALSE NEIGHBOUR: 'it returns false'. Refute it at one input. -/
def fnFactoredWrong : ChangeSpec := { name := "fnFactored", fn := fun _ => fun
  | [d] => { results := [.lit (.bool false)], args := [d] }
  | _ => none }
def FnFactoredWrongFalsely : Prop := fnFactoredRow.holds Try.pinned (OpenSpec.ofChange fnFactoredWrong)

/-- 'laws.FnExactLadderRate': WHATEVER THE INPUT: true; the input reads as it did. -/
def fnExactLadderRateSpec : ChangeSpec := { name := "fnExactLadderRate", fn := fun _ => fun
  | [d1, d2] => { results := [.lit (.bool true)], args := [d1, d2] }
  | _ => none }
def fnExactLadderRateRow : OpenClaim := { program := "ytlhgmdmbjpaakaa", sum := "e4280b6562d6f9ae304ef529776df49529239a66a83f5986fe244f21e1a2445d", func := "loop.example/g00040/laws.FnExactLadderRate", spec := "fnExactLadderRate", unfollowed := true, recurses := true, apart := false }
def FnExactLadderRateSaid : Prop := fnExactLadderRateRow.holds Try.pinned (OpenSpec.ofChange fnExactLadderRateSpec)

/-- ITS FALSE NEIGHBOUR: 'it returns false'. Refute it at one input. -/
def fnExactLadderRateWrong : ChangeSpec := { name := "fnExactLadderRate", fn := fun _ => fun
  | [d1, d2] => { results := [.lit (.bool false)], args := [d1, d2] }
  | _ => none }
def FnExactLadderRateWrongFalsely : Prop := fnExactLadderRateRow.holds Try.pinned (OpenSpec.ofChange fnExactLadderRateWrong)

/-- 'laws.FnExactSalePrice': WHATEVER THE INPUT: true; the input reads as it did. -/
def fnExactSalePriceSpec : ChangeSpec := { name := "fnExactSalePrice", fn := fun _ => fun
  | [d1, d2, d3, d4] => { results := [.lit (.bool true)], args := [d1, d2, d3, d4] }
  | _ => none }
def fnExactSalePriceRow : OpenClaim := { program := "ytlhgmdmbjpaakaa", sum := "e4280b6562d6f9ae304ef529776df49529239a66a83f5986fe244f21e1a2445d", func := "loop.example/g00040/laws.FnExactSalePrice", spec := "fnExactSalePrice", unfollowed := true, recurses := true, apart := false }
def FnExactSalePriceSaid : Prop := fnExactSalePriceRow.holds Try.pinned (OpenSpec.ofChange fnExactSalePriceSpec)

/-- ITS FALSE NEIGHBOUR: 'it returns false'. Refute it at one input. -/
def fnExactSalePriceWrong : ChangeSpec := { name := "fnExactSalePrice", fn := fun _ => fun
  | [d1, d2, d3, d4] => { results := [.lit (.bool false)], args := [d1, d2, d3, d4] }
  | _ => none }
def FnExactSalePriceWrongFalsely : Prop := fnExactSalePriceRow.holds Try.pinned (OpenSpec.ofChange fnExactSalePriceWrong)

/-- 'laws.FnExactCreditNote': WHATEVER THE INPUT: true; the input reads as it did. -/
def fnExactCreditNoteSpec : ChangeSpec := { name := "fnExactCreditNote", fn := fun _ => fun
  | [d1, d2, d3, d4] => { results := [.lit (.bool true)], args := [d1, d2, d3, d4] }
  | _ => none }
def fnExactCreditNoteRow : OpenClaim := { program := "ytlhgmdmbjpaakaa", sum := "e4280b6562d6f9ae304ef529776df49529239a66a83f5986fe244f21e1a2445d", func := "loop.example/g00040/laws.FnExactCreditNote", spec := "fnExactCreditNote", unfollowed := true, recurses := true, apart := false }
def FnExactCreditNoteSaid : Prop := fnExactCreditNoteRow.holds Try.pinned (OpenSpec.ofChange fnExactCreditNoteSpec)

/-- ITS FALSE NEIGHBOUR: 'it returns false'. Refute it at one input. -/
def fnExactCreditNoteWrong : ChangeSpec := { name := "fnExactCreditNote", fn := fun _ => fun
  | [d1, d2, d3, d4] => { results := [.lit (.bool false)], args := [d1, d2, d3, d4] }
  | _ => none }
def FnExactCreditNoteWrongFalsely : Prop := fnExactCreditNoteRow.holds Try.pinned (OpenSpec.ofChange fnExactCreditNoteWrong)

/-- 'laws.FnExactSettle': WHATEVER THE INPUT: true; the input reads as it did. -/
def fnExactSettleSpec : ChangeSpec := { name := "fnExactSettle", fn := fun _ => fun
  | [d1, d2] => { results := [.lit (.bool true)], args := [d1, d2] }
  | _ => none }
def fnExactSettleRow : OpenClaim := { program := "ytlhgmdmbjpaakaa", sum := "e4280b6562d6f9ae304ef529776df49529239a66a83f5986fe244f21e1a2445d", func := "loop.example/g00040/laws.FnExactSettle", spec := "fnExactSettle", unfollowed := true, recurses := true, apart := false }
def FnExactSettleSaid : Prop := fnExactSettleRow.holds Try.pinned (OpenSpec.ofChange fnExactSettleSpec)

/-- ITS FALSE NEIGHBOUR: 'it returns false'. Refute it at one input. -/
def fnExactSettleWrong : ChangeSpec := { name := "fnExactSettle", fn := fun _ => fun
  | [d1, d2] => { results := [.lit (.bool false)], args := [d1, d2] }
  | _ => none }
def FnExactSettleWrongFalsely : Prop := fnExactSettleRow.holds Try.pinned (OpenSpec.ofChange fnExactSettleWrong)

/-- 'laws.FnExactRemind': WHATEVER THE INPUT: true; the input reads as it did. -/
def fnExactRemindSpec : ChangeSpec := { name := "fnExactRemind", fn := fun _ => fun
  | [d1, d2, d3, d4, d5] => { results := [.lit (.bool true)], args := [d1, d2, d3, d4, d5] }
  | _ => none }
def fnExactRemindRow : OpenClaim := { program := "ytlhgmdmbjpaakaa", sum := "e4280b6562d6f9ae304ef529776df49529239a66a83f5986fe244f21e1a2445d", func := "loop.example/g00040/laws.FnExactRemind", spec := "fnExactRemind", unfollowed := true, recurses := true, apart := false }
def FnExactRemindSaid : Prop := fnExactRemindRow.holds Try.pinned (OpenSpec.ofChange fnExactRemindSpec)

/-- ITS FALSE NEIGHBOUR: 'it returns false'. Refute it at one input. -/
def fnExactRemindWrong : ChangeSpec := { name := "fnExactRemind", fn := fun _ => fun
  | [d1, d2, d3, d4, d5] => { results := [.lit (.bool false)], args := [d1, d2, d3, d4, d5] }
  | _ => none }
def FnExactRemindWrongFalsely : Prop := fnExactRemindRow.holds Try.pinned (OpenSpec.ofChange fnExactRemindWrong)

/-- 'laws.FnExactFactor': WHATEVER THE INPUT: true; the input reads as it did. -/
def fnExactFactorSpec : ChangeSpec := { name := "fnExactFactor", fn := fun _ => fun
  | [d1, d2, d3, d4] => { results := [.lit (.bool true)], args := [d1, d2, d3, d4] }
  | _ => none }
def fnExactFactorRow : OpenClaim := { program := "ytlhgmdmbjpaakaa", sum := "e4280b6562d6f9ae304ef529776df49529239a66a83f5986fe244f21e1a2445d", func := "loop.example/g00040/laws.FnExactFactor", spec := "fnExactFactor", unfollowed := true, recurses := true, apart := false }
def FnExactFactorSaid : Prop := fnExactFactorRow.holds Try.pinned (OpenSpec.ofChange fnExactFactorSpec)

/-- ITS FALSE NEIGHBOUR: 'it returns false'. Refute it at one input. -/
def fnExactFactorWrong : ChangeSpec := { name := "fnExactFactor", fn := fun _ => fun
  | [d1, d2, d3, d4] => { results := [.lit (.bool false)], args := [d1, d2, d3, d4] }
  | _ => none }
def FnExactFactorWrongFalsely : Prop := fnExactFactorRow.holds Try.pinned (OpenSpec.ofChange fnExactFactorWrong)

/- THE SECOND FORM. 'bulk': how many values and letters a reading holds, each counted each time it is reached (what is shared counts as often as it is met; a slice's spare places count too). A statement '..UptoSaid' is the law's where the arguments, and the package variables that the reading takes, are together of bulk at most 1048576: NARROWER than '..Said'. Prove '..Said' where nothing that the law and all that it calls make is longer than what came in: it says more and counts as full. Else prove '..UptoSaid'. A law counts once. -/
mutual
def uptoBulk {H : Type} : DataW H → Nat
  | .lit (.string bytes) => bytes.length + 1
  | .lit _ => 1
  | .nil => 1
  | .ptr d => uptoBulk d + 1
  | .slice elems spare => uptoBulkAll elems + uptoBulkAll spare + 1
  | .agg parts => uptoBulkAll parts + 1
  | .iface _ d => uptoBulk d + 1
  | .map entries => uptoBulkEntries entries + 1
  | .held _ => 1
def uptoBulkAll {H : Type} : List (DataW H) → Nat
  | [] => 0
  | d :: r => uptoBulk d + uptoBulkAll r
def uptoBulkEntries {H : Type} : List (Lit × DataW H) → Nat
  | [] => 0
  | x :: r => uptoBulkEntry x + uptoBulkEntries r
def uptoBulkEntry {H : Type} : Lit × DataW H → Nat
  | (.string bytes, d) => bytes.length + uptoBulk d + 1
  | (_, d) => uptoBulk d + 1
 end
def uptoSmall : (H : Type) → List (DataW H) → Bool := fun _ ds => decide (uptoBulkAll ds ≤ 1048576)
def OpenSpec.upto (s : _root_.Go.ChangeSpec) : _root_.Go.OpenSpec := { _root_.Go.OpenSpec.ofChange s with cond := some uptoSmall }

/-- 'laws.FnCredited', WHERE WHAT IT READS IS OF BULK AT MOST 1048576: true; the input reads as it did. -/
def fnCreditedUptoRow : OpenClaim := { program := "ytlhgmdmbjpaakaa", sum := "e4280b6562d6f9ae304ef529776df49529239a66a83f5986fe244f21e1a2445d", func := "loop.example/g00040/laws.FnCredited", spec := "fnCredited", unfollowed := true, recurses := true, apart := false, narrowed := true }
def FnCreditedUptoSaid : Prop := fnCreditedUptoRow.holds Try.pinned (OpenSpec.upto fnCreditedSpec)

/-- 'laws.FnSettled', WHERE WHAT IT READS IS OF BULK AT MOST 1048576: true; the input reads as it did. -/
def fnSettledUptoRow : OpenClaim := { program := "ytlhgmdmbjpaakaa", sum := "e4280b6562d6f9ae304ef529776df49529239a66a83f5986fe244f21e1a2445d", func := "loop.example/g00040/laws.FnSettled", spec := "fnSettled", unfollowed := true, recurses := true, apart := false, narrowed := true }
def FnSettledUptoSaid : Prop := fnSettledUptoRow.holds Try.pinned (OpenSpec.upto fnSettledSpec)

/-- 'laws.FnReminded', WHERE WHAT IT READS IS OF BULK AT MOST 1048576: true; the input reads as it did. -/
def fnRemindedUptoRow : OpenClaim := { program := "ytlhgmdmbjpaakaa", sum := "e4280b6562d6f9ae304ef529776df49529239a66a83f5986fe244f21e1a2445d", func := "loop.example/g00040/laws.FnReminded", spec := "fnReminded", unfollowed := true, recurses := true, apart := false, narrowed := true }
def FnRemindedUptoSaid : Prop := fnRemindedUptoRow.holds Try.pinned (OpenSpec.upto fnRemindedSpec)

/-- 'laws.FnFactored', WHERE WHAT IT READS IS OF BULK AT MOST 1048576: true; the input reads as it did. -/
def fnFactoredUptoRow : OpenClaim := { program := "ytlhgmdmbjpaakaa", sum := "e4280b6562d6f9ae304ef529776df49529239a66a83f5986fe244f21e1a2445d", func := "loop.example/g00040/laws.FnFactored", spec := "fnFactored", unfollowed := true, recurses := true, apart := false, narrowed := true }
def FnFactoredUptoSaid : Prop := fnFactoredUptoRow.holds Try.pinned (OpenSpec.upto fnFactoredSpec)

/-- 'laws.FnExactLadderRate', WHERE WHAT IT READS IS OF BULK AT MOST 1048576: true; the input reads as it did. -/
def fnExactLadderRateUptoRow : OpenClaim := { program := "ytlhgmdmbjpaakaa", sum := "e4280b6562d6f9ae304ef529776df49529239a66a83f5986fe244f21e1a2445d", func := "loop.example/g00040/laws.FnExactLadderRate", spec := "fnExactLadderRate", unfollowed := true, recurses := true, apart := false, narrowed := true }
def FnExactLadderRateUptoSaid : Prop := fnExactLadderRateUptoRow.holds Try.pinned (OpenSpec.upto fnExactLadderRateSpec)

/-- 'laws.FnExactSalePrice', WHERE WHAT IT READS IS OF BULK AT MOST 1048576: true; the input reads as it did. -/
def fnExactSalePriceUptoRow : OpenClaim := { program := "ytlhgmdmbjpaakaa", sum := "e4280b6562d6f9ae304ef529776df49529239a66a83f5986fe244f21e1a2445d", func := "loop.example/g00040/laws.FnExactSalePrice", spec := "fnExactSalePrice", unfollowed := true, recurses := true, apart := false, narrowed := true }
def FnExactSalePriceUptoSaid : Prop := fnExactSalePriceUptoRow.holds Try.pinned (OpenSpec.upto fnExactSalePriceSpec)

/-- 'laws.FnExactCreditNote', WHERE WHAT IT READS IS OF BULK AT MOST 1048576: true; the input reads as it did. -/
def fnExactCreditNoteUptoRow : OpenClaim := { program := "ytlhgmdmbjpaakaa", sum := "e4280b6562d6f9ae304ef529776df49529239a66a83f5986fe244f21e1a2445d", func := "loop.example/g00040/laws.FnExactCreditNote", spec := "fnExactCreditNote", unfollowed := true, recurses := true, apart := false, narrowed := true }
def FnExactCreditNoteUptoSaid : Prop := fnExactCreditNoteUptoRow.holds Try.pinned (OpenSpec.upto fnExactCreditNoteSpec)

/-- 'laws.FnExactSettle', WHERE WHAT IT READS IS OF BULK AT MOST 1048576: true; the input reads as it did. -/
def fnExactSettleUptoRow : OpenClaim := { program := "ytlhgmdmbjpaakaa", sum := "e4280b6562d6f9ae304ef529776df49529239a66a83f5986fe244f21e1a2445d", func := "loop.example/g00040/laws.FnExactSettle", spec := "fnExactSettle", unfollowed := true, recurses := true, apart := false, narrowed := true }
def FnExactSettleUptoSaid : Prop := fnExactSettleUptoRow.holds Try.pinned (OpenSpec.upto fnExactSettleSpec)

/-- 'laws.FnExactRemind', WHERE WHAT IT READS IS OF BULK AT MOST 1048576: true; the input reads as it did. -/
def fnExactRemindUptoRow : OpenClaim := { program := "ytlhgmdmbjpaakaa", sum := "e4280b6562d6f9ae304ef529776df49529239a66a83f5986fe244f21e1a2445d", func := "loop.example/g00040/laws.FnExactRemind", spec := "fnExactRemind", unfollowed := true, recurses := true, apart := false, narrowed := true }
def FnExactRemindUptoSaid : Prop := fnExactRemindUptoRow.holds Try.pinned (OpenSpec.upto fnExactRemindSpec)

/-- 'laws.FnExactFactor', WHERE WHAT IT READS IS OF BULK AT MOST 1048576: true; the input reads as it did. -/
def fnExactFactorUptoRow : OpenClaim := { program := "ytlhgmdmbjpaakaa", sum := "e4280b6562d6f9ae304ef529776df49529239a66a83f5986fe244f21e1a2445d", func := "loop.example/g00040/laws.FnExactFactor", spec := "fnExactFactor", unfollowed := true, recurses := true, apart := false, narrowed := true }
def FnExactFactorUptoSaid : Prop := fnExactFactorUptoRow.holds Try.pinned (OpenSpec.upto fnExactFactorSpec)

end Rows
end Go.Proofs.Ytlhgmdmbjpaakaa
