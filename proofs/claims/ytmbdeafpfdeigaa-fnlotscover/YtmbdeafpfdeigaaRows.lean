/-
  No cell of these rows narrows 'for every input' (looked for: loops, veiled, ifaces, maps, wideKeys, modest, calm, conditions, laid).
  DERIVED. THE GIVEN ROWS OF THIS SEAT. 13 by the template 'for every input the law returns true; each argument reads behind the call as it read before'; 0 by the template 'total and deterministic' (their statements: YtmbdeafpfdeigaaTotals.lean).
  GIVEN WITH THE SEED: the statements are not yours to turn. If you find one false, say at which input.
  Laid BY PROGRAM, IN A SANDBOX (cutbox-rows.mjs): the forced cells as the released guide's own fill.sh prints them over the translation 2127d299aad389a0… (all of the seat's roots in one cut). By AI agents, Wed Nov 11 2026. No macro, syntax, notation, axiom, sorry.
-/
import Derived.Test.YtmbdeafpfdeigaaChecked
import GoSem.Claim
import GoSem.ClaimJoined
import GoSem.ClaimMapViews
import Derived.JoinedTies
import Derived.KernelRfl
namespace Go.Proofs.Ytmbdeafpfdeigaa
/- THE CELL 'sum', in the pinned program and in every row, IS THE sha256 OF THE DUMP (.gsa) THAT YtmbdeafpfdeigaaProg.lean LOADS. Nothing in Lean hashes anything: it is a label: what it is worth is what the hold of that sum in a sandbox is worth. -/
noncomputable def Try.pinned : Pinned := { name := "ytmbdeafpfdeigaa", sum := "2127d299aad389a0a84225879bacf93aba29543da509ae89006559e0bd66b8a4", checked := Try.checked }
namespace Rows
def none {H : Type} : Left H := { results := [], args := [] }

/-- 'laws.FnNeedsHalves': WHATEVER THE INPUT: true; the input reads as it did. -/
def fnNeedsHalvesSpec : ChangeSpec := { name := "fnNeedsHalves", fn := fun _ => fun
  | [d] => { results := [.lit (.bool true)], args := [d] }
  | _ => none }
def fnNeedsHalvesRow : OpenClaim := { program := "ytmbdeafpfdeigaa", sum := "2127d299aad389a0a84225879bacf93aba29543da509ae89006559e0bd66b8a4", func := "loop.example/g00040/laws.FnNeedsHalves", spec := "fnNeedsHalves", unfollowed := true, recurses := true, apart := false }
def FnNeedsHalvesSaid : Prop := fnNeedsHalvesRow.holds Try.pinned (OpenSpec.ofChange fnNeedsHalvesSpec)

/-- ITS FALSE NEIGHBOUR: 'it returns false'. Refute it at one input. -/
def fnNeedsHalvesWrong : ChangeSpec := { name := "fnNeedsHalves", fn := fun _ => fun
  | [d] => { results := [.lit (.bool false)], args := [d] }
  | _ => none }
def FnNeedsHalvesWrongFalsely : Prop := fnNeedsHalvesRow.holds Try.pinned (OpenSpec.ofChange fnNeedsHalvesWrong)

/-- 'laws.FnExploded': WHATEVER THE INPUT: true; the input reads as it did. -/
def fnExplodedSpec : ChangeSpec := { name := "fnExploded", fn := fun _ => fun
  | [d] => { results := [.lit (.bool true)], args := [d] }
  | _ => none }
def fnExplodedRow : OpenClaim := { program := "ytmbdeafpfdeigaa", sum := "2127d299aad389a0a84225879bacf93aba29543da509ae89006559e0bd66b8a4", func := "loop.example/g00040/laws.FnExploded", spec := "fnExploded", unfollowed := true, recurses := true, apart := false }
def FnExplodedSaid : Prop := fnExplodedRow.holds Try.pinned (OpenSpec.ofChange fnExplodedSpec)

/-- ITS FALSE NEIGHBOUR: 'it returns false'. Refute it at one input. -/
def fnExplodedWrong : ChangeSpec := { name := "fnExploded", fn := fun _ => fun
  | [d] => { results := [.lit (.bool false)], args := [d] }
  | _ => none }
def FnExplodedWrongFalsely : Prop := fnExplodedRow.holds Try.pinned (OpenSpec.ofChange fnExplodedWrong)

/-- 'laws.FnCosted': WHATEVER THE INPUT: true; the input reads as it did. -/
def fnCostedSpec : ChangeSpec := { name := "fnCosted", fn := fun _ => fun
  | [d] => { results := [.lit (.bool true)], args := [d] }
  | _ => none }
def fnCostedRow : OpenClaim := { program := "ytmbdeafpfdeigaa", sum := "2127d299aad389a0a84225879bacf93aba29543da509ae89006559e0bd66b8a4", func := "loop.example/g00040/laws.FnCosted", spec := "fnCosted", unfollowed := true, recurses := true, apart := false }
def FnCostedSaid : Prop := fnCostedRow.holds Try.pinned (OpenSpec.ofChange fnCostedSpec)

/-- ITS FALSE NEIGHBOUR: 'it returns false'. Refute it at one input. -/
def fnCostedWrong : ChangeSpec := { name := "fnCosted", fn := fun _ => fun
  | [d] => { results := [.lit (.bool false)], args := [d] }
  | _ => none }
def FnCostedWrongFalsely : Prop := fnCostedRow.holds Try.pinned (OpenSpec.ofChange fnCostedWrong)

/-- 'laws.FnLevelled': WHATEVER THE INPUT: true; the input reads as it did. -/
def fnLevelledSpec : ChangeSpec := { name := "fnLevelled", fn := fun _ => fun
  | [d] => { results := [.lit (.bool true)], args := [d] }
  | _ => none }
def fnLevelledRow : OpenClaim := { program := "ytmbdeafpfdeigaa", sum := "2127d299aad389a0a84225879bacf93aba29543da509ae89006559e0bd66b8a4", func := "loop.example/g00040/laws.FnLevelled", spec := "fnLevelled", unfollowed := true, recurses := true, apart := false }
def FnLevelledSaid : Prop := fnLevelledRow.holds Try.pinned (OpenSpec.ofChange fnLevelledSpec)

/-- ITS FALSE NEIGHBOUR: 'it returns false'. Refute it at one input. -/
def fnLevelledWrong : ChangeSpec := { name := "fnLevelled", fn := fun _ => fun
  | [d] => { results := [.lit (.bool false)], args := [d] }
  | _ => none }
def FnLevelledWrongFalsely : Prop := fnLevelledRow.holds Try.pinned (OpenSpec.ofChange fnLevelledWrong)

/-- 'laws.FnLotsCover': WHATEVER THE INPUT: true; the input reads as it did. -/
def fnLotsCoverSpec : ChangeSpec := { name := "fnLotsCover", fn := fun _ => fun
  | [d] => { results := [.lit (.bool true)], args := [d] }
  | _ => none }
def fnLotsCoverRow : OpenClaim := { program := "ytmbdeafpfdeigaa", sum := "2127d299aad389a0a84225879bacf93aba29543da509ae89006559e0bd66b8a4", func := "loop.example/g00040/laws.FnLotsCover", spec := "fnLotsCover", unfollowed := true, recurses := true, apart := false }
def FnLotsCoverSaid : Prop := fnLotsCoverRow.holds Try.pinned (OpenSpec.ofChange fnLotsCoverSpec)

/-- ITS FALSE NEIGHBOUR: 'it returns false'. Refute it at one input. -/
def fnLotsCoverWrong : ChangeSpec := { name := "fnLotsCover", fn := fun _ => fun
  | [d] => { results := [.lit (.bool false)], args := [d] }
  | _ => none }
def FnLotsCoverWrongFalsely : Prop := fnLotsCoverRow.holds Try.pinned (OpenSpec.ofChange fnLotsCoverWrong)

/-- 'laws.FnExactItemsOk': WHATEVER THE INPUT: true; the input reads as it did. -/
def fnExactItemsOkSpec : ChangeSpec := { name := "fnExactItemsOk", fn := fun _ => fun
  | [d] => { results := [.lit (.bool true)], args := [d] }
  | _ => none }
def fnExactItemsOkRow : OpenClaim := { program := "ytmbdeafpfdeigaa", sum := "2127d299aad389a0a84225879bacf93aba29543da509ae89006559e0bd66b8a4", func := "loop.example/g00040/laws.FnExactItemsOk", spec := "fnExactItemsOk", unfollowed := true, recurses := true, apart := false }
def FnExactItemsOkSaid : Prop := fnExactItemsOkRow.holds Try.pinned (OpenSpec.ofChange fnExactItemsOkSpec)

/-- ITS FALSE NEIGHBOUR: 'it returns false'. Refute it at one input. -/
def fnExactItemsOkWrong : ChangeSpec := { name := "fnExactItemsOk", fn := fun _ => fun
  | [d] => { results := [.lit (.bool false)], args := [d] }
  | _ => none }
def FnExactItemsOkWrongFalsely : Prop := fnExactItemsOkRow.holds Try.pinned (OpenSpec.ofChange fnExactItemsOkWrong)

/-- 'laws.FnExactNeeds': WHATEVER THE INPUT: true; the input reads as it did. -/
def fnExactNeedsSpec : ChangeSpec := { name := "fnExactNeeds", fn := fun _ => fun
  | [d1, d2, d3, d4] => { results := [.lit (.bool true)], args := [d1, d2, d3, d4] }
  | _ => none }
def fnExactNeedsRow : OpenClaim := { program := "ytmbdeafpfdeigaa", sum := "2127d299aad389a0a84225879bacf93aba29543da509ae89006559e0bd66b8a4", func := "loop.example/g00040/laws.FnExactNeeds", spec := "fnExactNeeds", unfollowed := true, recurses := true, apart := false }
def FnExactNeedsSaid : Prop := fnExactNeedsRow.holds Try.pinned (OpenSpec.ofChange fnExactNeedsSpec)

/-- ITS FALSE NEIGHBOUR: 'it returns false'. Refute it at one input. -/
def fnExactNeedsWrong : ChangeSpec := { name := "fnExactNeeds", fn := fun _ => fun
  | [d1, d2, d3, d4] => { results := [.lit (.bool false)], args := [d1, d2, d3, d4] }
  | _ => none }
def FnExactNeedsWrongFalsely : Prop := fnExactNeedsRow.holds Try.pinned (OpenSpec.ofChange fnExactNeedsWrong)

/-- 'laws.FnExactExplode': WHATEVER THE INPUT: true; the input reads as it did. -/
def fnExactExplodeSpec : ChangeSpec := { name := "fnExactExplode", fn := fun _ => fun
  | [d1, d2, d3, d4] => { results := [.lit (.bool true)], args := [d1, d2, d3, d4] }
  | _ => none }
def fnExactExplodeRow : OpenClaim := { program := "ytmbdeafpfdeigaa", sum := "2127d299aad389a0a84225879bacf93aba29543da509ae89006559e0bd66b8a4", func := "loop.example/g00040/laws.FnExactExplode", spec := "fnExactExplode", unfollowed := true, recurses := true, apart := false }
def FnExactExplodeSaid : Prop := fnExactExplodeRow.holds Try.pinned (OpenSpec.ofChange fnExactExplodeSpec)

/-- ITS FALSE NEIGHBOUR: 'it returns false'. Refute it at one input. -/
def fnExactExplodeWrong : ChangeSpec := { name := "fnExactExplode", fn := fun _ => fun
  | [d1, d2, d3, d4] => { results := [.lit (.bool false)], args := [d1, d2, d3, d4] }
  | _ => none }
def FnExactExplodeWrongFalsely : Prop := fnExactExplodeRow.holds Try.pinned (OpenSpec.ofChange fnExactExplodeWrong)

/-- 'laws.FnExactOutput': WHATEVER THE INPUT: true; the input reads as it did. -/
def fnExactOutputSpec : ChangeSpec := { name := "fnExactOutput", fn := fun _ => fun
  | [d1, d2, d3, d4] => { results := [.lit (.bool true)], args := [d1, d2, d3, d4] }
  | _ => none }
def fnExactOutputRow : OpenClaim := { program := "ytmbdeafpfdeigaa", sum := "2127d299aad389a0a84225879bacf93aba29543da509ae89006559e0bd66b8a4", func := "loop.example/g00040/laws.FnExactOutput", spec := "fnExactOutput", unfollowed := true, recurses := true, apart := false }
def FnExactOutputSaid : Prop := fnExactOutputRow.holds Try.pinned (OpenSpec.ofChange fnExactOutputSpec)

/-- ITS FALSE NEIGHBOUR: 'it returns false'. Refute it at one input. -/
def fnExactOutputWrong : ChangeSpec := { name := "fnExactOutput", fn := fun _ => fun
  | [d1, d2, d3, d4] => { results := [.lit (.bool false)], args := [d1, d2, d3, d4] }
  | _ => none }
def FnExactOutputWrongFalsely : Prop := fnExactOutputRow.holds Try.pinned (OpenSpec.ofChange fnExactOutputWrong)

/-- 'laws.FnExactLevels': WHATEVER THE INPUT: true; the input reads as it did. -/
def fnExactLevelsSpec : ChangeSpec := { name := "fnExactLevels", fn := fun _ => fun
  | [d] => { results := [.lit (.bool true)], args := [d] }
  | _ => none }
def fnExactLevelsRow : OpenClaim := { program := "ytmbdeafpfdeigaa", sum := "2127d299aad389a0a84225879bacf93aba29543da509ae89006559e0bd66b8a4", func := "loop.example/g00040/laws.FnExactLevels", spec := "fnExactLevels", unfollowed := true, recurses := true, apart := false }
def FnExactLevelsSaid : Prop := fnExactLevelsRow.holds Try.pinned (OpenSpec.ofChange fnExactLevelsSpec)

/-- ITS FALSE NEIGHBOUR: 'it returns false'. Refute it at one input. -/
def fnExactLevelsWrong : ChangeSpec := { name := "fnExactLevels", fn := fun _ => fun
  | [d] => { results := [.lit (.bool false)], args := [d] }
  | _ => none }
def FnExactLevelsWrongFalsely : Prop := fnExactLevelsRow.holds Try.pinned (OpenSpec.ofChange fnExactLevelsWrong)

/-- 'laws.FnExactCost': WHATEVER THE INPUT: true; the input reads as it did. -/
def fnExactCostSpec : ChangeSpec := { name := "fnExactCost", fn := fun _ => fun
  | [d1, d2, d3, d4, d5] => { results := [.lit (.bool true)], args := [d1, d2, d3, d4, d5] }
  | _ => none }
def fnExactCostRow : OpenClaim := { program := "ytmbdeafpfdeigaa", sum := "2127d299aad389a0a84225879bacf93aba29543da509ae89006559e0bd66b8a4", func := "loop.example/g00040/laws.FnExactCost", spec := "fnExactCost", unfollowed := true, recurses := true, apart := false }
def FnExactCostSaid : Prop := fnExactCostRow.holds Try.pinned (OpenSpec.ofChange fnExactCostSpec)

/-- ITS FALSE NEIGHBOUR: 'it returns false'. Refute it at one input. -/
def fnExactCostWrong : ChangeSpec := { name := "fnExactCost", fn := fun _ => fun
  | [d1, d2, d3, d4, d5] => { results := [.lit (.bool false)], args := [d1, d2, d3, d4, d5] }
  | _ => none }
def FnExactCostWrongFalsely : Prop := fnExactCostRow.holds Try.pinned (OpenSpec.ofChange fnExactCostWrong)

/-- 'laws.FnExactLotsOf': WHATEVER THE INPUT: true; the input reads as it did. -/
def fnExactLotsOfSpec : ChangeSpec := { name := "fnExactLotsOf", fn := fun _ => fun
  | [d1, d2] => { results := [.lit (.bool true)], args := [d1, d2] }
  | _ => none }
def fnExactLotsOfRow : OpenClaim := { program := "ytmbdeafpfdeigaa", sum := "2127d299aad389a0a84225879bacf93aba29543da509ae89006559e0bd66b8a4", func := "loop.example/g00040/laws.FnExactLotsOf", spec := "fnExactLotsOf", unfollowed := true, recurses := true, apart := false }
def FnExactLotsOfSaid : Prop := fnExactLotsOfRow.holds Try.pinned (OpenSpec.ofChange fnExactLotsOfSpec)

/-- ITS FALSE NEIGHBOUR: 'it returns false'. Refute it at one input. -/
def fnExactLotsOfWrong : ChangeSpec := { name := "fnExactLotsOf", fn := fun _ => fun
  | [d1, d2] => { results := [.lit (.bool false)], args := [d1, d2] }
  | _ => none }
def FnExactLotsOfWrongFalsely : Prop := fnExactLotsOfRow.holds Try.pinned (OpenSpec.ofChange fnExactLotsOfWrong)

/-- 'laws.FnExactLotCost': WHATEVER THE INPUT: true; the input reads as it did. -/
def fnExactLotCostSpec : ChangeSpec := { name := "fnExactLotCost", fn := fun _ => fun
  | [d1, d2, d3] => { results := [.lit (.bool true)], args := [d1, d2, d3] }
  | _ => none }
def fnExactLotCostRow : OpenClaim := { program := "ytmbdeafpfdeigaa", sum := "2127d299aad389a0a84225879bacf93aba29543da509ae89006559e0bd66b8a4", func := "loop.example/g00040/laws.FnExactLotCost", spec := "fnExactLotCost", unfollowed := true, recurses := true, apart := false }
def FnExactLotCostSaid : Prop := fnExactLotCostRow.holds Try.pinned (OpenSpec.ofChange fnExactLotCostSpec)

/-- ITS FALSE NEIGHBOUR: 'it returns false'. Refute it at one input. -/
def fnExactLotCostWrong : ChangeSpec := { name := "fnExactLotCost", fn := fun _ => fun
  | [d1, d2, d3] => { results := [.lit (.bool false)], args := [d1, d2, d3] }
  | _ => none }
def FnExactLotCostWrongFalsely : Prop := fnExactLotCostRow.holds Try.pinned (OpenSpec.ofChange fnExactLotCostWrong)

/- THE SECOND FORM. 'bulk': how many values and letters a reading holds, each counted each time it is reached (what is shared counts as often as it is met; a slice's spare places count too). A statement '..UptoSaid' is the law's where the arguments, and the package variables that the reading takes, are together of bulk at most 1048576: NARROWER than '..Said'. Prove '..Said' where nothing that the law and all that it calls make is longer than what came in: it says more and counts as full. Else prove '..UptoSaid'. A law counts once. -/
mutual
def uptoBulk {H : Type} : DataW H → Nat
  | .lit (.string bytes) => bytes.length + 1
  | .lit _ => 1
  | .nil => 1
  | .ptr d => uptoBulk d + 1
  | .slice elems spare => uptoBulkAll elems + uptoBulkAll spare + 1
  | .agg parts => uptoBulkAll parts + 1
  | .iface _ d => uptoBulk d + 1
  | .map entries => uptoBulkEntries entries + 1
  | .held _ => 1
def uptoBulkAll {H : Type} : List (DataW H) → Nat
  | [] => 0
  | d :: r => uptoBulk d + uptoBulkAll r
def uptoBulkEntries {H : Type} : List (Lit × DataW H) → Nat
  | [] => 0
  | x :: r => uptoBulkEntry x + uptoBulkEntries r
def uptoBulkEntry {H : Type} : Lit × DataW H → Nat
  | (.string bytes, d) => bytes.length + uptoBulk d + 1
  | (_, d) => uptoBulk d + 1
 end
def uptoSmall : (H : Type) → List (DataW H) → Bool := fun _ ds => decide (uptoBulkAll ds ≤ 1048576)
def OpenSpec.upto (s : _root_.Go.ChangeSpec) : _root_.Go.OpenSpec := { _root_.Go.OpenSpec.ofChange s with cond := some uptoSmall }

/-- 'laws.FnNeedsHalves', WHERE WHAT IT READS IS OF BULK AT MOST 1048576: true; the input reads as it did. -/
def fnNeedsHalvesUptoRow : OpenClaim := { program := "ytmbdeafpfdeigaa", sum := "2127d299aad389a0a84225879bacf93aba29543da509ae89006559e0bd66b8a4", func := "loop.example/g00040/laws.FnNeedsHalves", spec := "fnNeedsHalves", unfollowed := true, recurses := true, apart := false, narrowed := true }
def FnNeedsHalvesUptoSaid : Prop := fnNeedsHalvesUptoRow.holds Try.pinned (OpenSpec.upto fnNeedsHalvesSpec)

/-- 'laws.FnExploded', WHERE WHAT IT READS IS OF BULK AT MOST 1048576: true; the input reads as it did. -/
def fnExplodedUptoRow : OpenClaim := { program := "ytmbdeafpfdeigaa", sum := "2127d299aad389a0a84225879bacf93aba29543da509ae89006559e0bd66b8a4", func := "loop.example/g00040/laws.FnExploded", spec := "fnExploded", unfollowed := true, recurses := true, apart := false, narrowed := true }
def FnExplodedUptoSaid : Prop := fnExplodedUptoRow.holds Try.pinned (OpenSpec.upto fnExplodedSpec)

/-- 'laws.FnCosted', WHERE WHAT IT READS IS OF BULK AT MOST 1048576: true; the input reads as it did. -/
def fnCostedUptoRow : OpenClaim := { program := "ytmbdeafpfdeigaa", sum := "2127d299aad389a0a84225879bacf93aba29543da509ae89006559e0bd66b8a4", func := "loop.example/g00040/laws.FnCosted", spec := "fnCosted", unfollowed := true, recurses := true, apart := false, narrowed := true }
def FnCostedUptoSaid : Prop := fnCostedUptoRow.holds Try.pinned (OpenSpec.upto fnCostedSpec)

/-- 'laws.FnLevelled', WHERE WHAT IT READS IS OF BULK AT MOST 1048576: true; the input reads as it did. -/
def fnLevelledUptoRow : OpenClaim := { program := "ytmbdeafpfdeigaa", sum := "2127d299aad389a0a84225879bacf93aba29543da509ae89006559e0bd66b8a4", func := "loop.example/g00040/laws.FnLevelled", spec := "fnLevelled", unfollowed := true, recurses := true, apart := false, narrowed := true }
def FnLevelledUptoSaid : Prop := fnLevelledUptoRow.holds Try.pinned (OpenSpec.upto fnLevelledSpec)

/-- 'laws.FnLotsCover', WHERE WHAT IT READS IS OF BULK AT MOST 1048576: true; the input reads as it did. -/
def fnLotsCoverUptoRow : OpenClaim := { program := "ytmbdeafpfdeigaa", sum := "2127d299aad389a0a84225879bacf93aba29543da509ae89006559e0bd66b8a4", func := "loop.example/g00040/laws.FnLotsCover", spec := "fnLotsCover", unfollowed := true, recurses := true, apart := false, narrowed := true }
def FnLotsCoverUptoSaid : Prop := fnLotsCoverUptoRow.holds Try.pinned (OpenSpec.upto fnLotsCoverSpec)

/-- 'laws.FnExactItemsOk', WHERE WHAT IT READS IS OF BULK AT MOST 1048576: true; the input reads as it did. -/
def fnExactItemsOkUptoRow : OpenClaim := { program := "ytmbdeafpfdeigaa", sum := "2127d299aad389a0a84225879bacf93aba29543da509ae89006559e0bd66b8a4", func := "loop.example/g00040/laws.FnExactItemsOk", spec := "fnExactItemsOk", unfollowed := true, recurses := true, apart := false, narrowed := true }
def FnExactItemsOkUptoSaid : Prop := fnExactItemsOkUptoRow.holds Try.pinned (OpenSpec.upto fnExactItemsOkSpec)

/-- 'laws.FnExactNeeds', WHERE WHAT IT READS IS OF BULK AT MOST 1048576: true; the input reads as it did. -/
def fnExactNeedsUptoRow : OpenClaim := { program := "ytmbdeafpfdeigaa", sum := "2127d299aad389a0a84225879bacf93aba29543da509ae89006559e0bd66b8a4", func := "loop.example/g00040/laws.FnExactNeeds", spec := "fnExactNeeds", unfollowed := true, recurses := true, apart := false, narrowed := true }
def FnExactNeedsUptoSaid : Prop := fnExactNeedsUptoRow.holds Try.pinned (OpenSpec.upto fnExactNeedsSpec)

/-- 'laws.FnExactExplode', WHERE WHAT IT READS IS OF BULK AT MOST 1048576: true; the input reads as it did. -/
def fnExactExplodeUptoRow : OpenClaim := { program := "ytmbdeafpfdeigaa", sum := "2127d299aad389a0a84225879bacf93aba29543da509ae89006559e0bd66b8a4", func := "loop.example/g00040/laws.FnExactExplode", spec := "fnExactExplode", unfollowed := true, recurses := true, apart := false, narrowed := true }
def FnExactExplodeUptoSaid : Prop := fnExactExplodeUptoRow.holds Try.pinned (OpenSpec.upto fnExactExplodeSpec)

/-- 'laws.FnExactOutput', WHERE WHAT IT READS IS OF BULK AT MOST 1048576: true; the input reads as it did. -/
def fnExactOutputUptoRow : OpenClaim := { program := "ytmbdeafpfdeigaa", sum := "2127d299aad389a0a84225879bacf93aba29543da509ae89006559e0bd66b8a4", func := "loop.example/g00040/laws.FnExactOutput", spec := "fnExactOutput", unfollowed := true, recurses := true, apart := false, narrowed := true }
def FnExactOutputUptoSaid : Prop := fnExactOutputUptoRow.holds Try.pinned (OpenSpec.upto fnExactOutputSpec)

/-- 'laws.FnExactLevels', WHERE WHAT IT READS IS OF BULK AT MOST 1048576: true; the input reads as it did. -/
def fnExactLevelsUptoRow : OpenClaim := { program := "ytmbdeafpfdeigaa", sum := "2127d299aad389a0a84225879bacf93aba29543da509ae89006559e0bd66b8a4", func := "loop.example/g00040/laws.FnExactLevels", spec := "fnExactLevels", unfollowed := true, recurses := true, apart := false, narrowed := true }
def FnExactLevelsUptoSaid : Prop := fnExactLevelsUptoRow.holds Try.pinned (OpenSpec.upto fnExactLevelsSpec)

/-- 'laws.FnExactCost', WHERE WHAT IT READS IS OF BULK AT MOST 1048576: true; the input reads as it did. -/
def fnExactCostUptoRow : OpenClaim := { program := "ytmbdeafpfdeigaa", sum := "2127d299aad389a0a84225879bacf93aba29543da509ae89006559e0bd66b8a4", func := "loop.example/g00040/laws.FnExactCost", spec := "fnExactCost", unfollowed := true, recurses := true, apart := false, narrowed := true }
def FnExactCostUptoSaid : Prop := fnExactCostUptoRow.holds Try.pinned (OpenSpec.upto fnExactCostSpec)

/-- 'laws.FnExactLotsOf', WHERE WHAT IT READS IS OF BULK AT MOST 1048576: true; the input reads as it did. -/
def fnExactLotsOfUptoRow : OpenClaim := { program := "ytmbdeafpfdeigaa", sum := "2127d299aad389a0a84225879bacf93aba29543da509ae89006559e0bd66b8a4", func := "loop.example/g00040/laws.FnExactLotsOf", spec := "fnExactLotsOf", unfollowed := true, recurses := true, apart := false, narrowed := true }
def FnExactLotsOfUptoSaid : Prop := fnExactLotsOfUptoRow.holds Try.pinned (OpenSpec.upto fnExactLotsOfSpec)

/-- 'laws.FnExactLotCost', WHERE WHAT IT READS IS OF BULK AT MOST 1048576: true; the input reads as it did. -/
def fnExactLotCostUptoRow : OpenClaim := { program := "ytmbdeafpfdeigaa", sum := "2127d299aad389a0a84225879bacf93aba29543da509ae89006559e0bd66b8a4", func := "loop.example/g00040/laws.FnExactLotCost", spec := "fnExactLotCost", unfollowed := true, recurses := true, apart := false, narrowed := true }
def FnExactLotCostUptoSaid : Prop := fnExactLotCostUptoRow.holds Try.pinned (OpenSpec.upto fnExactLotCostSpec)

end Rows
end Go.Proofs.Ytmbdeafpfdeigaa
