/-
  No cell of these rows narrows 'for every input' (looked for: loops, veiled, ifaces, maps, wideKeys, modest, calm, conditions, laid).
  DERIVED. THE GIVEN ROWS OF THIS SEAT. 10 by the template 'for every input the law returns true; each argument reads behind the call as it read before'; 0 by the template 'total and deterministic' (their statements: YtdgccdlaokbnhaaTotals.lean).
  GIVEN WITH THE SEED: the statements are not yours to turn. If you find one false, say at which input.
  Laid BY PROGRAM, IN A SANDBOX (cutbox-rows.mjs): the forced cells as the released guide's own fill.sh prints them over the translation 0f57aacf097b3994… (all of the seat's roots in one cut). By AI agents, Wed Nov 11 2026. No macro, syntax, notation, axiom, sorry.
-/
import Derived.Test.YtdgccdlaokbnhaaChecked
import GoSem.Claim
import GoSem.ClaimJoined
import GoSem.ClaimMapViews
import Derived.JoinedTies
import Derived.KernelRfl
namespace Go.Proofs.Ytdgccdlaokbnhaa
/- THE CELL 'sum', in the pinned program and in every row, IS THE sha256 OF THE DUMP (.gsa) THAT YtdgccdlaokbnhaaProg.lean LOADS. Nothing in Lean hashes anything: it is a label: what it is worth is what the hold of that sum in a sandbox is worth. -/
noncomputable def Try.pinned : Pinned := { name := "ytdgccdlaokbnhaa", sum := "0f57aacf097b3994b307d1d43446c3483279f799b058135cc1952434e65934ef", checked := Try.checked }
namespace Rows
def none {H : Type} : Left H := { results := [], args := [] }

/-- 'laws.FnWorthKept': WHATEVER THE INPUT: true; the input reads as it did. -/
def fnWorthKeptSpec : ChangeSpec := { name := "fnWorthKept", fn := fun _ => fun
  | [d] => { results := [.lit (.bool true)], args := [d] }
  | _ => none }
def fnWorthKeptRow : OpenClaim := { program := "ytdgccdlaokbnhaa", sum := "0f57aacf097b3994b307d1d43446c3483279f799b058135cc1952434e65934ef", func := "loop.example/g00040/laws.FnWorthKept", spec := "fnWorthKept", unfollowed := true, recurses := true, apart := false }
def FnWorthKeptSaid : Prop := fnWorthKeptRow.holds Try.pinned (OpenSpec.ofChange fnWorthKeptSpec)

/-- ITS FALSE NEIGHBOUR: 'it returns false'. Refute it at one input. -/
def fnWorthKeptWrong : ChangeSpec := { name := "fnWorthKept", fn := fun _ => fun
  | [d] => { results := [.lit (.bool false)], args := [d] }
  | _ => none }
def FnWorthKeptWrongFalsely : Prop := fnWorthKeptRow.holds Try.pinned (OpenSpec.ofChange fnWorthKeptWrong)

/-- 'laws.FnWorthUndone': WHATEVER THE INPUT: true; the input reads as it did. -/
def fnWorthUndoneSpec : ChangeSpec := { name := "fnWorthUndone", fn := fun _ => fun
  | [d] => { results := [.lit (.bool true)], args := [d] }
  | _ => none }
def fnWorthUndoneRow : OpenClaim := { program := "ytdgccdlaokbnhaa", sum := "0f57aacf097b3994b307d1d43446c3483279f799b058135cc1952434e65934ef", func := "loop.example/g00040/laws.FnWorthUndone", spec := "fnWorthUndone", unfollowed := true, recurses := true, apart := false }
def FnWorthUndoneSaid : Prop := fnWorthUndoneRow.holds Try.pinned (OpenSpec.ofChange fnWorthUndoneSpec)

/-- ITS FALSE NEIGHBOUR: 'it returns false'. Refute it at one input. -/
def fnWorthUndoneWrong : ChangeSpec := { name := "fnWorthUndone", fn := fun _ => fun
  | [d] => { results := [.lit (.bool false)], args := [d] }
  | _ => none }
def FnWorthUndoneWrongFalsely : Prop := fnWorthUndoneRow.holds Try.pinned (OpenSpec.ofChange fnWorthUndoneWrong)

/-- 'laws.FnWorthPieces': WHATEVER THE INPUT: true; the input reads as it did. -/
def fnWorthPiecesSpec : ChangeSpec := { name := "fnWorthPieces", fn := fun _ => fun
  | [d] => { results := [.lit (.bool true)], args := [d] }
  | _ => none }
def fnWorthPiecesRow : OpenClaim := { program := "ytdgccdlaokbnhaa", sum := "0f57aacf097b3994b307d1d43446c3483279f799b058135cc1952434e65934ef", func := "loop.example/g00040/laws.FnWorthPieces", spec := "fnWorthPieces", unfollowed := true, recurses := true, apart := false }
def FnWorthPiecesSaid : Prop := fnWorthPiecesRow.holds Try.pinned (OpenSpec.ofChange fnWorthPiecesSpec)

/-- ITS FALSE NEIGHBOUR: 'it returns false'. Refute it at one input. -/
def fnWorthPiecesWrong : ChangeSpec := { name := "fnWorthPieces", fn := fun _ => fun
  | [d] => { results := [.lit (.bool false)], args := [d] }
  | _ => none }
def FnWorthPiecesWrongFalsely : Prop := fnWorthPiecesRow.holds Try.pinned (OpenSpec.ofChange fnWorthPiecesWrong)

/-- 'laws.FnLanded': WHATEVER THE INPUT: true; the input reads as it did. -/
def fnLandedSpec : ChangeSpec := { name := "fnLanded", fn := fun _ => fun
  | [d] => { results := [.lit (.bool true)], args := [d] }
  | _ => none }
def fnLandedRow : OpenClaim := { program := "ytdgccdlaokbnhaa", sum := "0f57aacf097b3994b307d1d43446c3483279f799b058135cc1952434e65934ef", func := "loop.example/g00040/laws.FnLanded", spec := "fnLanded", unfollowed := true, recurses := true, apart := false }
def FnLandedSaid : Prop := fnLandedRow.holds Try.pinned (OpenSpec.ofChange fnLandedSpec)

/-- ITS FALSE NEIGHBOUR: 'it returns false'. Refute it at one input. -/
def fnLandedWrong : ChangeSpec := { name := "fnLanded", fn := fun _ => fun
  | [d] => { results := [.lit (.bool false)], args := [d] }
  | _ => none }
def FnLandedWrongFalsely : Prop := fnLandedRow.holds Try.pinned (OpenSpec.ofChange fnLandedWrong)

/-- 'laws.FnExactWorthOk': WHATEVER THE INPUT: true; the input reads as it did. -/
def fnExactWorthOkSpec : ChangeSpec := { name := "fnExactWorthOk", fn := fun _ => fun
  | [d] => { results := [.lit (.bool true)], args := [d] }
  | _ => none }
def fnExactWorthOkRow : OpenClaim := { program := "ytdgccdlaokbnhaa", sum := "0f57aacf097b3994b307d1d43446c3483279f799b058135cc1952434e65934ef", func := "loop.example/g00040/laws.FnExactWorthOk", spec := "fnExactWorthOk", unfollowed := true, recurses := true, apart := false }
def FnExactWorthOkSaid : Prop := fnExactWorthOkRow.holds Try.pinned (OpenSpec.ofChange fnExactWorthOkSpec)

/-- ITS FALSE NEIGHBOUR: 'it returns false'. Refute it at one input. -/
def fnExactWorthOkWrong : ChangeSpec := { name := "fnExactWorthOk", fn := fun _ => fun
  | [d] => { results := [.lit (.bool false)], args := [d] }
  | _ => none }
def FnExactWorthOkWrongFalsely : Prop := fnExactWorthOkRow.holds Try.pinned (OpenSpec.ofChange fnExactWorthOkWrong)

/-- 'laws.FnExactTakeIn': WHATEVER THE INPUT: true; the input reads as it did. -/
def fnExactTakeInSpec : ChangeSpec := { name := "fnExactTakeIn", fn := fun _ => fun
  | [d1, d2, d3] => { results := [.lit (.bool true)], args := [d1, d2, d3] }
  | _ => none }
def fnExactTakeInRow : OpenClaim := { program := "ytdgccdlaokbnhaa", sum := "0f57aacf097b3994b307d1d43446c3483279f799b058135cc1952434e65934ef", func := "loop.example/g00040/laws.FnExactTakeIn", spec := "fnExactTakeIn", unfollowed := true, recurses := true, apart := false }
def FnExactTakeInSaid : Prop := fnExactTakeInRow.holds Try.pinned (OpenSpec.ofChange fnExactTakeInSpec)

/-- ITS FALSE NEIGHBOUR: 'it returns false'. Refute it at one input. -/
def fnExactTakeInWrong : ChangeSpec := { name := "fnExactTakeIn", fn := fun _ => fun
  | [d1, d2, d3] => { results := [.lit (.bool false)], args := [d1, d2, d3] }
  | _ => none }
def FnExactTakeInWrongFalsely : Prop := fnExactTakeInRow.holds Try.pinned (OpenSpec.ofChange fnExactTakeInWrong)

/-- 'laws.FnExactTakeOut': WHATEVER THE INPUT: true; the input reads as it did. -/
def fnExactTakeOutSpec : ChangeSpec := { name := "fnExactTakeOut", fn := fun _ => fun
  | [d1, d2] => { results := [.lit (.bool true)], args := [d1, d2] }
  | _ => none }
def fnExactTakeOutRow : OpenClaim := { program := "ytdgccdlaokbnhaa", sum := "0f57aacf097b3994b307d1d43446c3483279f799b058135cc1952434e65934ef", func := "loop.example/g00040/laws.FnExactTakeOut", spec := "fnExactTakeOut", unfollowed := true, recurses := true, apart := false }
def FnExactTakeOutSaid : Prop := fnExactTakeOutRow.holds Try.pinned (OpenSpec.ofChange fnExactTakeOutSpec)

/-- ITS FALSE NEIGHBOUR: 'it returns false'. Refute it at one input. -/
def fnExactTakeOutWrong : ChangeSpec := { name := "fnExactTakeOut", fn := fun _ => fun
  | [d1, d2] => { results := [.lit (.bool false)], args := [d1, d2] }
  | _ => none }
def FnExactTakeOutWrongFalsely : Prop := fnExactTakeOutRow.holds Try.pinned (OpenSpec.ofChange fnExactTakeOutWrong)

/-- 'laws.FnExactRunWorth': WHATEVER THE INPUT: true; the input reads as it did. -/
def fnExactRunWorthSpec : ChangeSpec := { name := "fnExactRunWorth", fn := fun _ => fun
  | [d1, d2] => { results := [.lit (.bool true)], args := [d1, d2] }
  | _ => none }
def fnExactRunWorthRow : OpenClaim := { program := "ytdgccdlaokbnhaa", sum := "0f57aacf097b3994b307d1d43446c3483279f799b058135cc1952434e65934ef", func := "loop.example/g00040/laws.FnExactRunWorth", spec := "fnExactRunWorth", unfollowed := true, recurses := true, apart := false }
def FnExactRunWorthSaid : Prop := fnExactRunWorthRow.holds Try.pinned (OpenSpec.ofChange fnExactRunWorthSpec)

/-- ITS FALSE NEIGHBOUR: 'it returns false'. Refute it at one input. -/
def fnExactRunWorthWrong : ChangeSpec := { name := "fnExactRunWorth", fn := fun _ => fun
  | [d1, d2] => { results := [.lit (.bool false)], args := [d1, d2] }
  | _ => none }
def FnExactRunWorthWrongFalsely : Prop := fnExactRunWorthRow.holds Try.pinned (OpenSpec.ofChange fnExactRunWorthWrong)

/-- 'laws.FnExactLanded': WHATEVER THE INPUT: true; the input reads as it did. -/
def fnExactLandedSpec : ChangeSpec := { name := "fnExactLanded", fn := fun _ => fun
  | [d1, d2, d3] => { results := [.lit (.bool true)], args := [d1, d2, d3] }
  | _ => none }
def fnExactLandedRow : OpenClaim := { program := "ytdgccdlaokbnhaa", sum := "0f57aacf097b3994b307d1d43446c3483279f799b058135cc1952434e65934ef", func := "loop.example/g00040/laws.FnExactLanded", spec := "fnExactLanded", unfollowed := true, recurses := true, apart := false }
def FnExactLandedSaid : Prop := fnExactLandedRow.holds Try.pinned (OpenSpec.ofChange fnExactLandedSpec)

/-- ITS FALSE NEIGHBOUR: 'it returns false'. Refute it at one input. -/
def fnExactLandedWrong : ChangeSpec := { name := "fnExactLanded", fn := fun _ => fun
  | [d1, d2, d3] => { results := [.lit (.bool false)], args := [d1, d2, d3] }
  | _ => none }
def FnExactLandedWrongFalsely : Prop := fnExactLandedRow.holds Try.pinned (OpenSpec.ofChange fnExactLandedWrong)

/-- 'laws.FnExactValue': WHATEVER THE INPUT: true; the input reads as it did. -/
def fnExactValueSpec : ChangeSpec := { name := "fnExactValue", fn := fun _ => fun
  | [d] => { results := [.lit (.bool true)], args := [d] }
  | _ => none }
def fnExactValueRow : OpenClaim := { program := "ytdgccdlaokbnhaa", sum := "0f57aacf097b3994b307d1d43446c3483279f799b058135cc1952434e65934ef", func := "loop.example/g00040/laws.FnExactValue", spec := "fnExactValue", unfollowed := true, recurses := true, apart := false }
def FnExactValueSaid : Prop := fnExactValueRow.holds Try.pinned (OpenSpec.ofChange fnExactValueSpec)

/-- ITS FALSE NEIGHBOUR: 'it returns false'. Refute it at one input. -/
def fnExactValueWrong : ChangeSpec := { name := "fnExactValue", fn := fun _ => fun
  | [d] => { results := [.lit (.bool false)], args := [d] }
  | _ => none }
def FnExactValueWrongFalsely : Prop := fnExactValueRow.holds Try.pinned (OpenSpec.ofChange fnExactValueWrong)

/- THE SECOND FORM. 'bulk': how many values and letters a reading holds, each counted each time it is reached (what is shared counts as often as it is met; a slice's spare places count too). A statement '..UptoSaid' is the law's where the arguments, and the package variables that the reading takes, are together of bulk at most 1048576: NARROWER than '..Said'. Prove '..Said' where nothing that the law and all that it calls make is longer than what came in: it says more and counts as full. Else prove '..UptoSaid'. A law counts once. -/
mutual
def uptoBulk {H : Type} : DataW H → Nat
  | .lit (.string bytes) => bytes.length + 1
  | .lit _ => 1
  | .nil => 1
  | .ptr d => uptoBulk d + 1
  | .slice elems spare => uptoBulkAll elems + uptoBulkAll spare + 1
  | .agg parts => uptoBulkAll parts + 1
  | .iface _ d => uptoBulk d + 1
  | .map entries => uptoBulkEntries entries + 1
  | .held _ => 1
def uptoBulkAll {H : Type} : List (DataW H) → Nat
  | [] => 0
  | d :: r => uptoBulk d + uptoBulkAll r
def uptoBulkEntries {H : Type} : List (Lit × DataW H) → Nat
  | [] => 0
  | x :: r => uptoBulkEntry x + uptoBulkEntries r
def uptoBulkEntry {H : Type} : Lit × DataW H → Nat
  | (.string bytes, d) => bytes.length + uptoBulk d + 1
  | (_, d) => uptoBulk d + 1
 end
def uptoSmall : (H : Type) → List (DataW H) → Bool := fun _ ds => decide (uptoBulkAll ds ≤ 1048576)
def OpenSpec.upto (s : _root_.Go.ChangeSpec) : _root_.Go.OpenSpec := { _root_.Go.OpenSpec.ofChange s with cond := some uptoSmall }

/-- 'laws.FnWorthKept', WHERE WHAT IT READS IS OF BULK AT MOST 1048576: true; the input reads as it did. -/
def fnWorthKeptUptoRow : OpenClaim := { program := "ytdgccdlaokbnhaa", sum := "0f57aacf097b3994b307d1d43446c3483279f799b058135cc1952434e65934ef", func := "loop.example/g00040/laws.FnWorthKept", spec := "fnWorthKept", unfollowed := true, recurses := true, apart := false, narrowed := true }
def FnWorthKeptUptoSaid : Prop := fnWorthKeptUptoRow.holds Try.pinned (OpenSpec.upto fnWorthKeptSpec)

/-- 'laws.FnWorthUndone', WHERE WHAT IT READS IS OF BULK AT MOST 1048576: true; the input reads as it did. -/
def fnWorthUndoneUptoRow : OpenClaim := { program := "ytdgccdlaokbnhaa", sum := "0f57aacf097b3994b307d1d43446c3483279f799b058135cc1952434e65934ef", func := "loop.example/g00040/laws.FnWorthUndone", spec := "fnWorthUndone", unfollowed := true, recurses := true, apart := false, narrowed := true }
def FnWorthUndoneUptoSaid : Prop := fnWorthUndoneUptoRow.holds Try.pinned (OpenSpec.upto fnWorthUndoneSpec)

/-- 'laws.FnWorthPieces', WHERE WHAT IT READS IS OF BULK AT MOST 1048576: true; the input reads as it did. -/
def fnWorthPiecesUptoRow : OpenClaim := { program := "ytdgccdlaokbnhaa", sum := "0f57aacf097b3994b307d1d43446c3483279f799b058135cc1952434e65934ef", func := "loop.example/g00040/laws.FnWorthPieces", spec := "fnWorthPieces", unfollowed := true, recurses := true, apart := false, narrowed := true }
def FnWorthPiecesUptoSaid : Prop := fnWorthPiecesUptoRow.holds Try.pinned (OpenSpec.upto fnWorthPiecesSpec)

/-- 'laws.FnLanded', WHERE WHAT IT READS IS OF BULK AT MOST 1048576: true; the input reads as it did. -/
def fnLandedUptoRow : OpenClaim := { program := "ytdgccdlaokbnhaa", sum := "0f57aacf097b3994b307d1d43446c3483279f799b058135cc1952434e65934ef", func := "loop.example/g00040/laws.FnLanded", spec := "fnLanded", unfollowed := true, recurses := true, apart := false, narrowed := true }
def FnLandedUptoSaid : Prop := fnLandedUptoRow.holds Try.pinned (OpenSpec.upto fnLandedSpec)

/-- 'laws.FnExactWorthOk', WHERE WHAT IT READS IS OF BULK AT MOST 1048576: true; the input reads as it did. -/
def fnExactWorthOkUptoRow : OpenClaim := { program := "ytdgccdlaokbnhaa", sum := "0f57aacf097b3994b307d1d43446c3483279f799b058135cc1952434e65934ef", func := "loop.example/g00040/laws.FnExactWorthOk", spec := "fnExactWorthOk", unfollowed := true, recurses := true, apart := false, narrowed := true }
def FnExactWorthOkUptoSaid : Prop := fnExactWorthOkUptoRow.holds Try.pinned (OpenSpec.upto fnExactWorthOkSpec)

/-- 'laws.FnExactTakeIn', WHERE WHAT IT READS IS OF BULK AT MOST 1048576: true; the input reads as it did. -/
def fnExactTakeInUptoRow : OpenClaim := { program := "ytdgccdlaokbnhaa", sum := "0f57aacf097b3994b307d1d43446c3483279f799b058135cc1952434e65934ef", func := "loop.example/g00040/laws.FnExactTakeIn", spec := "fnExactTakeIn", unfollowed := true, recurses := true, apart := false, narrowed := true }
def FnExactTakeInUptoSaid : Prop := fnExactTakeInUptoRow.holds Try.pinned (OpenSpec.upto fnExactTakeInSpec)

/-- 'laws.FnExactTakeOut', WHERE WHAT IT READS IS OF BULK AT MOST 1048576: true; the input reads as it did. -/
def fnExactTakeOutUptoRow : OpenClaim := { program := "ytdgccdlaokbnhaa", sum := "0f57aacf097b3994b307d1d43446c3483279f799b058135cc1952434e65934ef", func := "loop.example/g00040/laws.FnExactTakeOut", spec := "fnExactTakeOut", unfollowed := true, recurses := true, apart := false, narrowed := true }
def FnExactTakeOutUptoSaid : Prop := fnExactTakeOutUptoRow.holds Try.pinned (OpenSpec.upto fnExactTakeOutSpec)

/-- 'laws.FnExactRunWorth', WHERE WHAT IT READS IS OF BULK AT MOST 1048576: true; the input reads as it did. -/
def fnExactRunWorthUptoRow : OpenClaim := { program := "ytdgccdlaokbnhaa", sum := "0f57aacf097b3994b307d1d43446c3483279f799b058135cc1952434e65934ef", func := "loop.example/g00040/laws.FnExactRunWorth", spec := "fnExactRunWorth", unfollowed := true, recurses := true, apart := false, narrowed := true }
def FnExactRunWorthUptoSaid : Prop := fnExactRunWorthUptoRow.holds Try.pinned (OpenSpec.upto fnExactRunWorthSpec)

/-- 'laws.FnExactLanded', WHERE WHAT IT READS IS OF BULK AT MOST 1048576: true; the input reads as it did. -/
def fnExactLandedUptoRow : OpenClaim := { program := "ytdgccdlaokbnhaa", sum := "0f57aacf097b3994b307d1d43446c3483279f799b058135cc1952434e65934ef", func := "loop.example/g00040/laws.FnExactLanded", spec := "fnExactLanded", unfollowed := true, recurses := true, apart := false, narrowed := true }
def FnExactLandedUptoSaid : Prop := fnExactLandedUptoRow.holds Try.pinned (OpenSpec.upto fnExactLandedSpec)

/-- 'laws.FnExactValue', WHERE WHAT IT READS IS OF BULK AT MOST 1048576: true; the input reads as it did. -/
def fnExactValueUptoRow : OpenClaim := { program := "ytdgccdlaokbnhaa", sum := "0f57aacf097b3994b307d1d43446c3483279f799b058135cc1952434e65934ef", func := "loop.example/g00040/laws.FnExactValue", spec := "fnExactValue", unfollowed := true, recurses := true, apart := false, narrowed := true }
def FnExactValueUptoSaid : Prop := fnExactValueUptoRow.holds Try.pinned (OpenSpec.upto fnExactValueSpec)

end Rows
end Go.Proofs.Ytdgccdlaokbnhaa
