/-
  No cell of these rows narrows 'for every input' (looked for: loops, veiled, ifaces, maps, wideKeys, modest, calm, conditions, laid).
  DERIVED. THE GIVEN ROWS OF THIS SEAT. 9 by the template 'for every input the law returns true; each argument reads behind the call as it read before'; 0 by the template 'total and deterministic' (their statements: YtogolmbgboihdaaTotals.lean).
  GIVEN WITH THE SEED: the statements are not yours to turn. If you find one false, say at which input.
  Laid BY PROGRAM, IN A SANDBOX (cutbox-rows.mjs): the forced cells as the released guide's own fill.sh prints them over the translation cb50232bb8d06551… (all of the seat's roots in one cut). By AI agents, Wed Nov 11 2026. No macro, syntax, notation, axiom, sorry.
-/
import Derived.Test.YtogolmbgboihdaaChecked
import GoSem.Claim
import GoSem.ClaimJoined
import GoSem.ClaimMapViews
import Derived.JoinedTies
import Derived.KernelRfl
namespace Go.Proofs.Ytogolmbgboihdaa
/- THE CELL 'sum', in the pinned program and in every row, IS THE sha256 OF THE DUMP (.gsa) THAT YtogolmbgboihdaaProg.lean LOADS. Nothing in Lean hashes anything: it is a label: what it is worth is what the hold of that sum in a sandbox is worth. -/
noncomputable def Try.pinned : Pinned := { name := "ytogolmbgboihdaa", sum := "cb50232bb8d0655147414987e44f25b55f97cd12488c5d42b5246d1bc5f0098a", checked := Try.checked }
namespace Rows
def none {H : Type} : Left H := { results := [], args := [] }

/-- 'laws.FnLoadedApart': WHATEVER THE INPUT: true; the input reads as it did. -/
def fnLoadedApartSpec : ChangeSpec := { name := "fnLoadedApart", fn := fun _ => fun
  | [d] => { results := [.lit (.bool true)], args := [d] }
  | _ => none }
def fnLoadedApartRow : OpenClaim := { program := "ytogolmbgboihdaa", sum := "cb50232bb8d0655147414987e44f25b55f97cd12488c5d42b5246d1bc5f0098a", func := "loop.example/g00040/laws.FnLoadedApart", spec := "fnLoadedApart", unfollowed := true, recurses := true, apart := false }
def FnLoadedApartSaid : Prop := fnLoadedApartRow.holds Try.pinned (OpenSpec.ofChange fnLoadedApartSpec)

/-- ITS FALSE NEIGHBOUR: 'it returns false'. Refute it at one input. -/
def fnLoadedApartWrong : ChangeSpec := { name := "fnLoadedApart", fn := fun _ => fun
  | [d] => { results := [.lit (.bool false)], args := [d] }
  | _ => none }
def FnLoadedApartWrongFalsely : Prop := fnLoadedApartRow.holds Try.pinned (OpenSpec.ofChange fnLoadedApartWrong)

/-- 'laws.FnLoadAdds': WHATEVER THE INPUT: true; the input reads as it did. -/
def fnLoadAddsSpec : ChangeSpec := { name := "fnLoadAdds", fn := fun _ => fun
  | [d] => { results := [.lit (.bool true)], args := [d] }
  | _ => none }
def fnLoadAddsRow : OpenClaim := { program := "ytogolmbgboihdaa", sum := "cb50232bb8d0655147414987e44f25b55f97cd12488c5d42b5246d1bc5f0098a", func := "loop.example/g00040/laws.FnLoadAdds", spec := "fnLoadAdds", unfollowed := true, recurses := true, apart := false }
def FnLoadAddsSaid : Prop := fnLoadAddsRow.holds Try.pinned (OpenSpec.ofChange fnLoadAddsSpec)

/-- ITS FALSE NEIGHBOUR: 'it returns false'. Refute it at one input. -/
def fnLoadAddsWrong : ChangeSpec := { name := "fnLoadAdds", fn := fun _ => fun
  | [d] => { results := [.lit (.bool false)], args := [d] }
  | _ => none }
def FnLoadAddsWrongFalsely : Prop := fnLoadAddsRow.holds Try.pinned (OpenSpec.ofChange fnLoadAddsWrong)

/-- 'laws.FnBestRanked': WHATEVER THE INPUT: true; the input reads as it did. -/
def fnBestRankedSpec : ChangeSpec := { name := "fnBestRanked", fn := fun _ => fun
  | [d] => { results := [.lit (.bool true)], args := [d] }
  | _ => none }
def fnBestRankedRow : OpenClaim := { program := "ytogolmbgboihdaa", sum := "cb50232bb8d0655147414987e44f25b55f97cd12488c5d42b5246d1bc5f0098a", func := "loop.example/g00040/laws.FnBestRanked", spec := "fnBestRanked", unfollowed := true, recurses := true, apart := false }
def FnBestRankedSaid : Prop := fnBestRankedRow.holds Try.pinned (OpenSpec.ofChange fnBestRankedSpec)

/-- ITS FALSE NEIGHBOUR: 'it returns false'. Refute it at one input. -/
def fnBestRankedWrong : ChangeSpec := { name := "fnBestRanked", fn := fun _ => fun
  | [d] => { results := [.lit (.bool false)], args := [d] }
  | _ => none }
def FnBestRankedWrongFalsely : Prop := fnBestRankedRow.holds Try.pinned (OpenSpec.ofChange fnBestRankedWrong)

/-- 'laws.FnExactLoadOk': WHATEVER THE INPUT: true; the input reads as it did. -/
def fnExactLoadOkSpec : ChangeSpec := { name := "fnExactLoadOk", fn := fun _ => fun
  | [d1, d2] => { results := [.lit (.bool true)], args := [d1, d2] }
  | _ => none }
def fnExactLoadOkRow : OpenClaim := { program := "ytogolmbgboihdaa", sum := "cb50232bb8d0655147414987e44f25b55f97cd12488c5d42b5246d1bc5f0098a", func := "loop.example/g00040/laws.FnExactLoadOk", spec := "fnExactLoadOk", unfollowed := true, recurses := true, apart := false }
def FnExactLoadOkSaid : Prop := fnExactLoadOkRow.holds Try.pinned (OpenSpec.ofChange fnExactLoadOkSpec)

/-- ITS FALSE NEIGHBOUR: 'it returns false'. Refute it at one input. -/
def fnExactLoadOkWrong : ChangeSpec := { name := "fnExactLoadOk", fn := fun _ => fun
  | [d1, d2] => { results := [.lit (.bool false)], args := [d1, d2] }
  | _ => none }
def FnExactLoadOkWrongFalsely : Prop := fnExactLoadOkRow.holds Try.pinned (OpenSpec.ofChange fnExactLoadOkWrong)

/-- 'laws.FnExactOccupy': WHATEVER THE INPUT: true; the input reads as it did. -/
def fnExactOccupySpec : ChangeSpec := { name := "fnExactOccupy", fn := fun _ => fun
  | [d1, d2, d3] => { results := [.lit (.bool true)], args := [d1, d2, d3] }
  | _ => none }
def fnExactOccupyRow : OpenClaim := { program := "ytogolmbgboihdaa", sum := "cb50232bb8d0655147414987e44f25b55f97cd12488c5d42b5246d1bc5f0098a", func := "loop.example/g00040/laws.FnExactOccupy", spec := "fnExactOccupy", unfollowed := true, recurses := true, apart := false }
def FnExactOccupySaid : Prop := fnExactOccupyRow.holds Try.pinned (OpenSpec.ofChange fnExactOccupySpec)

/-- ITS FALSE NEIGHBOUR: 'it returns false'. Refute it at one input. -/
def fnExactOccupyWrong : ChangeSpec := { name := "fnExactOccupy", fn := fun _ => fun
  | [d1, d2, d3] => { results := [.lit (.bool false)], args := [d1, d2, d3] }
  | _ => none }
def FnExactOccupyWrongFalsely : Prop := fnExactOccupyRow.holds Try.pinned (OpenSpec.ofChange fnExactOccupyWrong)

/-- 'laws.FnExactLoad': WHATEVER THE INPUT: true; the input reads as it did. -/
def fnExactLoadSpec : ChangeSpec := { name := "fnExactLoad", fn := fun _ => fun
  | [d1, d2, d3] => { results := [.lit (.bool true)], args := [d1, d2, d3] }
  | _ => none }
def fnExactLoadRow : OpenClaim := { program := "ytogolmbgboihdaa", sum := "cb50232bb8d0655147414987e44f25b55f97cd12488c5d42b5246d1bc5f0098a", func := "loop.example/g00040/laws.FnExactLoad", spec := "fnExactLoad", unfollowed := true, recurses := true, apart := false }
def FnExactLoadSaid : Prop := fnExactLoadRow.holds Try.pinned (OpenSpec.ofChange fnExactLoadSpec)

/-- ITS FALSE NEIGHBOUR: 'it returns false'. Refute it at one input. -/
def fnExactLoadWrong : ChangeSpec := { name := "fnExactLoad", fn := fun _ => fun
  | [d1, d2, d3] => { results := [.lit (.bool false)], args := [d1, d2, d3] }
  | _ => none }
def FnExactLoadWrongFalsely : Prop := fnExactLoadRow.holds Try.pinned (OpenSpec.ofChange fnExactLoadWrong)

/-- 'laws.FnExactRank': WHATEVER THE INPUT: true; the input reads as it did. -/
def fnExactRankSpec : ChangeSpec := { name := "fnExactRank", fn := fun _ => fun
  | [d1, d2] => { results := [.lit (.bool true)], args := [d1, d2] }
  | _ => none }
def fnExactRankRow : OpenClaim := { program := "ytogolmbgboihdaa", sum := "cb50232bb8d0655147414987e44f25b55f97cd12488c5d42b5246d1bc5f0098a", func := "loop.example/g00040/laws.FnExactRank", spec := "fnExactRank", unfollowed := true, recurses := true, apart := false }
def FnExactRankSaid : Prop := fnExactRankRow.holds Try.pinned (OpenSpec.ofChange fnExactRankSpec)

/-- ITS FALSE NEIGHBOUR: 'it returns false'. Refute it at one input. -/
def fnExactRankWrong : ChangeSpec := { name := "fnExactRank", fn := fun _ => fun
  | [d1, d2] => { results := [.lit (.bool false)], args := [d1, d2] }
  | _ => none }
def FnExactRankWrongFalsely : Prop := fnExactRankRow.holds Try.pinned (OpenSpec.ofChange fnExactRankWrong)

/-- 'laws.FnExactLateness': WHATEVER THE INPUT: true; the input reads as it did. -/
def fnExactLatenessSpec : ChangeSpec := { name := "fnExactLateness", fn := fun _ => fun
  | [d1, d2] => { results := [.lit (.bool true)], args := [d1, d2] }
  | _ => none }
def fnExactLatenessRow : OpenClaim := { program := "ytogolmbgboihdaa", sum := "cb50232bb8d0655147414987e44f25b55f97cd12488c5d42b5246d1bc5f0098a", func := "loop.example/g00040/laws.FnExactLateness", spec := "fnExactLateness", unfollowed := true, recurses := true, apart := false }
def FnExactLatenessSaid : Prop := fnExactLatenessRow.holds Try.pinned (OpenSpec.ofChange fnExactLatenessSpec)

/-- ITS FALSE NEIGHBOUR: 'it returns false'. Refute it at one input. -/
def fnExactLatenessWrong : ChangeSpec := { name := "fnExactLateness", fn := fun _ => fun
  | [d1, d2] => { results := [.lit (.bool false)], args := [d1, d2] }
  | _ => none }
def FnExactLatenessWrongFalsely : Prop := fnExactLatenessRow.holds Try.pinned (OpenSpec.ofChange fnExactLatenessWrong)

/-- 'laws.FnExactBest': WHATEVER THE INPUT: true; the input reads as it did. -/
def fnExactBestSpec : ChangeSpec := { name := "fnExactBest", fn := fun _ => fun
  | [d1, d2] => { results := [.lit (.bool true)], args := [d1, d2] }
  | _ => none }
def fnExactBestRow : OpenClaim := { program := "ytogolmbgboihdaa", sum := "cb50232bb8d0655147414987e44f25b55f97cd12488c5d42b5246d1bc5f0098a", func := "loop.example/g00040/laws.FnExactBest", spec := "fnExactBest", unfollowed := true, recurses := true, apart := false }
def FnExactBestSaid : Prop := fnExactBestRow.holds Try.pinned (OpenSpec.ofChange fnExactBestSpec)

/-- ITS FALSE NEIGHBOUR: 'it returns false'. Refute it at one input. -/
def fnExactBestWrong : ChangeSpec := { name := "fnExactBest", fn := fun _ => fun
  | [d1, d2] => { results := [.lit (.bool false)], args := [d1, d2] }
  | _ => none }
def FnExactBestWrongFalsely : Prop := fnExactBestRow.holds Try.pinned (OpenSpec.ofChange fnExactBestWrong)

/- THE SECOND FORM. 'bulk': how many values and letters a reading holds, each counted each time it is reached (what is shared counts as often as it is met; a slice's spare places count too). A statement '..UptoSaid' is the law's where the arguments, and the package variables that the reading takes, are together of bulk at most 1048576: NARROWER than '..Said'. Prove '..Said' where nothing that the law and all that it calls make is longer than what came in: it says more and counts as full. Else prove '..UptoSaid'. A law counts once. -/
mutual
def uptoBulk {H : Type} : DataW H → Nat
  | .lit (.string bytes) => bytes.length + 1
  | .lit _ => 1
  | .nil => 1
  | .ptr d => uptoBulk d + 1
  | .slice elems spare => uptoBulkAll elems + uptoBulkAll spare + 1
  | .agg parts => uptoBulkAll parts + 1
  | .iface _ d => uptoBulk d + 1
  | .map entries => uptoBulkEntries entries + 1
  | .held _ => 1
def uptoBulkAll {H : Type} : List (DataW H) → Nat
  | [] => 0
  | d :: r => uptoBulk d + uptoBulkAll r
def uptoBulkEntries {H : Type} : List (Lit × DataW H) → Nat
  | [] => 0
  | x :: r => uptoBulkEntry x + uptoBulkEntries r
def uptoBulkEntry {H : Type} : Lit × DataW H → Nat
  | (.string bytes, d) => bytes.length + uptoBulk d + 1
  | (_, d) => uptoBulk d + 1
 end
def uptoSmall : (H : Type) → List (DataW H) → Bool := fun _ ds => decide (uptoBulkAll ds ≤ 1048576)
def OpenSpec.upto (s : _root_.Go.ChangeSpec) : _root_.Go.OpenSpec := { _root_.Go.OpenSpec.ofChange s with cond := some uptoSmall }

/-- 'laws.FnLoadedApart', WHERE WHAT IT READS IS OF BULK AT MOST 1048576: true; the input reads as it did. -/
def fnLoadedApartUptoRow : OpenClaim := { program := "ytogolmbgboihdaa", sum := "cb50232bb8d0655147414987e44f25b55f97cd12488c5d42b5246d1bc5f0098a", func := "loop.example/g00040/laws.FnLoadedApart", spec := "fnLoadedApart", unfollowed := true, recurses := true, apart := false, narrowed := true }
def FnLoadedApartUptoSaid : Prop := fnLoadedApartUptoRow.holds Try.pinned (OpenSpec.upto fnLoadedApartSpec)

/-- 'laws.FnLoadAdds', WHERE WHAT IT READS IS OF BULK AT MOST 1048576: true; the input reads as it did. -/
def fnLoadAddsUptoRow : OpenClaim := { program := "ytogolmbgboihdaa", sum := "cb50232bb8d0655147414987e44f25b55f97cd12488c5d42b5246d1bc5f0098a", func := "loop.example/g00040/laws.FnLoadAdds", spec := "fnLoadAdds", unfollowed := true, recurses := true, apart := false, narrowed := true }
def FnLoadAddsUptoSaid : Prop := fnLoadAddsUptoRow.holds Try.pinned (OpenSpec.upto fnLoadAddsSpec)

/-- 'laws.FnBestRanked', WHERE WHAT IT READS IS OF BULK AT MOST 1048576: true; the input reads as it did. -/
def fnBestRankedUptoRow : OpenClaim := { program := "ytogolmbgboihdaa", sum := "cb50232bb8d0655147414987e44f25b55f97cd12488c5d42b5246d1bc5f0098a", func := "loop.example/g00040/laws.FnBestRanked", spec := "fnBestRanked", unfollowed := true, recurses := true, apart := false, narrowed := true }
def FnBestRankedUptoSaid : Prop := fnBestRankedUptoRow.holds Try.pinned (OpenSpec.upto fnBestRankedSpec)

/-- 'laws.FnExactLoadOk', WHERE WHAT IT READS IS OF BULK AT MOST 1048576: true; the input reads as it did. -/
def fnExactLoadOkUptoRow : OpenClaim := { program := "ytogolmbgboihdaa", sum := "cb50232bb8d0655147414987e44f25b55f97cd12488c5d42b5246d1bc5f0098a", func := "loop.example/g00040/laws.FnExactLoadOk", spec := "fnExactLoadOk", unfollowed := true, recurses := true, apart := false, narrowed := true }
def FnExactLoadOkUptoSaid : Prop := fnExactLoadOkUptoRow.holds Try.pinned (OpenSpec.upto fnExactLoadOkSpec)

/-- 'laws.FnExactOccupy', WHERE WHAT IT READS IS OF BULK AT MOST 1048576: true; the input reads as it did. -/
def fnExactOccupyUptoRow : OpenClaim := { program := "ytogolmbgboihdaa", sum := "cb50232bb8d0655147414987e44f25b55f97cd12488c5d42b5246d1bc5f0098a", func := "loop.example/g00040/laws.FnExactOccupy", spec := "fnExactOccupy", unfollowed := true, recurses := true, apart := false, narrowed := true }
def FnExactOccupyUptoSaid : Prop := fnExactOccupyUptoRow.holds Try.pinned (OpenSpec.upto fnExactOccupySpec)

/-- 'laws.FnExactLoad', WHERE WHAT IT READS IS OF BULK AT MOST 1048576: true; the input reads as it did. -/
def fnExactLoadUptoRow : OpenClaim := { program := "ytogolmbgboihdaa", sum := "cb50232bb8d0655147414987e44f25b55f97cd12488c5d42b5246d1bc5f0098a", func := "loop.example/g00040/laws.FnExactLoad", spec := "fnExactLoad", unfollowed := true, recurses := true, apart := false, narrowed := true }
def FnExactLoadUptoSaid : Prop := fnExactLoadUptoRow.holds Try.pinned (OpenSpec.upto fnExactLoadSpec)

/-- 'laws.FnExactRank', WHERE WHAT IT READS IS OF BULK AT MOST 1048576: true; the input reads as it did. -/
def fnExactRankUptoRow : OpenClaim := { program := "ytogolmbgboihdaa", sum := "cb50232bb8d0655147414987e44f25b55f97cd12488c5d42b5246d1bc5f0098a", func := "loop.example/g00040/laws.FnExactRank", spec := "fnExactRank", unfollowed := true, recurses := true, apart := false, narrowed := true }
def FnExactRankUptoSaid : Prop := fnExactRankUptoRow.holds Try.pinned (OpenSpec.upto fnExactRankSpec)

/-- 'laws.FnExactLateness', WHERE WHAT IT READS IS OF BULK AT MOST 1048576: true; the input reads as it did. -/
def fnExactLatenessUptoRow : OpenClaim := { program := "ytogolmbgboihdaa", sum := "cb50232bb8d0655147414987e44f25b55f97cd12488c5d42b5246d1bc5f0098a", func := "loop.example/g00040/laws.FnExactLateness", spec := "fnExactLateness", unfollowed := true, recurses := true, apart := false, narrowed := true }
def FnExactLatenessUptoSaid : Prop := fnExactLatenessUptoRow.holds Try.pinned (OpenSpec.upto fnExactLatenessSpec)

/-- 'laws.FnExactBest', WHERE WHAT IT READS IS OF BULK AT MOST 1048576: true; the input reads as it did. -/
def fnExactBestUptoRow : OpenClaim := { program := "ytogolmbgboihdaa", sum := "cb50232bb8d0655147414987e44f25b55f97cd12488c5d42b5246d1bc5f0098a", func := "loop.example/g00040/laws.FnExactBest", spec := "fnExactBest", unfollowed := true, recurses := true, apart := false, narrowed := true }
def FnExactBestUptoSaid : Prop := fnExactBestUptoRow.holds Try.pinned (OpenSpec.upto fnExactBestSpec)

end Rows
end Go.Proofs.Ytogolmbgboihdaa
