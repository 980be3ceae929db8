/-
  No cell of these rows narrows 'for every input' (looked for: loops, veiled, ifaces, maps, wideKeys, modest, calm, conditions, laid).
  DERIVED. THE GIVEN ROWS OF THIS SEAT. 7 by the template 'for every input the law returns true; each argument reads behind the call as it read before'; 0 by the template 'total and deterministic' (their statements: YtidhnmodedbmgaaTotals.lean).
  GIVEN WITH THE SEED: the statements are not yours to turn. If you find one false, say at which input.
  Laid BY PROGRAM, IN A SANDBOX (cutbox-rows.mjs): the forced cells as the released guide's own fill.sh prints them over the translation 3dee897d01795ecc… (all of the seat's roots in one cut). By AI agents, Wed Nov 11 2026. No macro, syntax, notation, axiom, sorry.
-/
import Derived.Test.YtidhnmodedbmgaaChecked
import GoSem.Claim
import GoSem.ClaimJoined
import GoSem.ClaimMapViews
import Derived.JoinedTies
import Derived.KernelRfl
namespace Go.Proofs.Ytidhnmodedbmgaa
/- THE CELL 'sum', in the pinned program and in every row, IS THE sha256 OF THE DUMP (.gsa) THAT YtidhnmodedbmgaaProg.lean LOADS. Nothing in Lean hashes anything: it is a label: what it is worth is what the hold of that sum in a sandbox is worth. -/
noncomputable def Try.pinned : Pinned := { name := "ytidhnmodedbmgaa", sum := "3dee897d01795eccf3d6b1b233da815359ac0d0cd66fddf39a850ad6ce0e6a28", checked := Try.checked }
namespace Rows
def none {H : Type} : Left H := { results := [], args := [] }

/-- 'laws.FnThereAndBack': WHATEVER THE INPUT: true; the input reads as it did. -/
def fnThereAndBackSpec : ChangeSpec := { name := "fnThereAndBack", fn := fun _ => fun
  | [d] => { results := [.lit (.bool true)], args := [d] }
  | _ => none }
def fnThereAndBackRow : OpenClaim := { program := "ytidhnmodedbmgaa", sum := "3dee897d01795eccf3d6b1b233da815359ac0d0cd66fddf39a850ad6ce0e6a28", func := "loop.example/g00040/laws.FnThereAndBack", spec := "fnThereAndBack", unfollowed := true, recurses := true, apart := false }
def FnThereAndBackSaid : Prop := fnThereAndBackRow.holds Try.pinned (OpenSpec.ofChange fnThereAndBackSpec)

/-- ITS FALSE NEIGHBOUR: 'it returns false'. Refute it at one input. -/
def fnThereAndBackWrong : ChangeSpec := { name := "fnThereAndBack", fn := fun _ => fun
  | [d] => { results := [.lit (.bool false)], args := [d] }
  | _ => none }
def FnThereAndBackWrongFalsely : Prop := fnThereAndBackRow.holds Try.pinned (OpenSpec.ofChange fnThereAndBackWrong)

/-- 'laws.FnCoins': WHATEVER THE INPUT: true; the input reads as it did. -/
def fnCoinsSpec : ChangeSpec := { name := "fnCoins", fn := fun _ => fun
  | [d] => { results := [.lit (.bool true)], args := [d] }
  | _ => none }
def fnCoinsRow : OpenClaim := { program := "ytidhnmodedbmgaa", sum := "3dee897d01795eccf3d6b1b233da815359ac0d0cd66fddf39a850ad6ce0e6a28", func := "loop.example/g00040/laws.FnCoins", spec := "fnCoins", unfollowed := true, recurses := true, apart := false }
def FnCoinsSaid : Prop := fnCoinsRow.holds Try.pinned (OpenSpec.ofChange fnCoinsSpec)

/-- ITS FALSE NEIGHBOUR: 'it returns false'. Refute it at one input. -/
def fnCoinsWrong : ChangeSpec := { name := "fnCoins", fn := fun _ => fun
  | [d] => { results := [.lit (.bool false)], args := [d] }
  | _ => none }
def FnCoinsWrongFalsely : Prop := fnCoinsRow.holds Try.pinned (OpenSpec.ofChange fnCoinsWrong)

/-- 'laws.FnExactCursOk': WHATEVER THE INPUT: true; the input reads as it did. -/
def fnExactCursOkSpec : ChangeSpec := { name := "fnExactCursOk", fn := fun _ => fun
  | [d] => { results := [.lit (.bool true)], args := [d] }
  | _ => none }
def fnExactCursOkRow : OpenClaim := { program := "ytidhnmodedbmgaa", sum := "3dee897d01795eccf3d6b1b233da815359ac0d0cd66fddf39a850ad6ce0e6a28", func := "loop.example/g00040/laws.FnExactCursOk", spec := "fnExactCursOk", unfollowed := true, recurses := true, apart := false }
def FnExactCursOkSaid : Prop := fnExactCursOkRow.holds Try.pinned (OpenSpec.ofChange fnExactCursOkSpec)

/-- ITS FALSE NEIGHBOUR: 'it returns false'. Refute it at one input. -/
def fnExactCursOkWrong : ChangeSpec := { name := "fnExactCursOk", fn := fun _ => fun
  | [d] => { results := [.lit (.bool false)], args := [d] }
  | _ => none }
def FnExactCursOkWrongFalsely : Prop := fnExactCursOkRow.holds Try.pinned (OpenSpec.ofChange fnExactCursOkWrong)

/-- 'laws.FnExactRatesOk': WHATEVER THE INPUT: true; the input reads as it did. -/
def fnExactRatesOkSpec : ChangeSpec := { name := "fnExactRatesOk", fn := fun _ => fun
  | [d1, d2] => { results := [.lit (.bool true)], args := [d1, d2] }
  | _ => none }
def fnExactRatesOkRow : OpenClaim := { program := "ytidhnmodedbmgaa", sum := "3dee897d01795eccf3d6b1b233da815359ac0d0cd66fddf39a850ad6ce0e6a28", func := "loop.example/g00040/laws.FnExactRatesOk", spec := "fnExactRatesOk", apart := false }
def FnExactRatesOkSaid : Prop := fnExactRatesOkRow.holds Try.pinned (OpenSpec.ofChange fnExactRatesOkSpec)

/-- ITS FALSE NEIGHBOUR: 'it returns false'. Refute it at one input. -/
def fnExactRatesOkWrong : ChangeSpec := { name := "fnExactRatesOk", fn := fun _ => fun
  | [d1, d2] => { results := [.lit (.bool false)], args := [d1, d2] }
  | _ => none }
def FnExactRatesOkWrongFalsely : Prop := fnExactRatesOkRow.holds Try.pinned (OpenSpec.ofChange fnExactRatesOkWrong)

/-- 'laws.FnExactRateAt': WHATEVER THE INPUT: true; the input reads as it did. -/
def fnExactRateAtSpec : ChangeSpec := { name := "fnExactRateAt", fn := fun _ => fun
  | [d1, d2, d3, d4] => { results := [.lit (.bool true)], args := [d1, d2, d3, d4] }
  | _ => none }
def fnExactRateAtRow : OpenClaim := { program := "ytidhnmodedbmgaa", sum := "3dee897d01795eccf3d6b1b233da815359ac0d0cd66fddf39a850ad6ce0e6a28", func := "loop.example/g00040/laws.FnExactRateAt", spec := "fnExactRateAt", unfollowed := true, recurses := true, apart := false }
def FnExactRateAtSaid : Prop := fnExactRateAtRow.holds Try.pinned (OpenSpec.ofChange fnExactRateAtSpec)

/-- ITS FALSE NEIGHBOUR: 'it returns false'. Refute it at one input. -/
def fnExactRateAtWrong : ChangeSpec := { name := "fnExactRateAt", fn := fun _ => fun
  | [d1, d2, d3, d4] => { results := [.lit (.bool false)], args := [d1, d2, d3, d4] }
  | _ => none }
def FnExactRateAtWrongFalsely : Prop := fnExactRateAtRow.holds Try.pinned (OpenSpec.ofChange fnExactRateAtWrong)

/-- 'laws.FnExactConvert': WHATEVER THE INPUT: true; the input reads as it did. -/
def fnExactConvertSpec : ChangeSpec := { name := "fnExactConvert", fn := fun _ => fun
  | [d1, d2, d3, d4, d5, d6] => { results := [.lit (.bool true)], args := [d1, d2, d3, d4, d5, d6] }
  | _ => none }
def fnExactConvertRow : OpenClaim := { program := "ytidhnmodedbmgaa", sum := "3dee897d01795eccf3d6b1b233da815359ac0d0cd66fddf39a850ad6ce0e6a28", func := "loop.example/g00040/laws.FnExactConvert", spec := "fnExactConvert", unfollowed := true, recurses := true, apart := false }
def FnExactConvertSaid : Prop := fnExactConvertRow.holds Try.pinned (OpenSpec.ofChange fnExactConvertSpec)

/-- ITS FALSE NEIGHBOUR: 'it returns false'. Refute it at one input. -/
def fnExactConvertWrong : ChangeSpec := { name := "fnExactConvert", fn := fun _ => fun
  | [d1, d2, d3, d4, d5, d6] => { results := [.lit (.bool false)], args := [d1, d2, d3, d4, d5, d6] }
  | _ => none }
def FnExactConvertWrongFalsely : Prop := fnExactConvertRow.holds Try.pinned (OpenSpec.ofChange fnExactConvertWrong)

/-- 'laws.FnExactCash': WHATEVER THE INPUT: true; the input reads as it did. -/
def fnExactCashSpec : ChangeSpec := { name := "fnExactCash", fn := fun _ => fun
  | [d1, d2] => { results := [.lit (.bool true)], args := [d1, d2] }
  | _ => none }
def fnExactCashRow : OpenClaim := { program := "ytidhnmodedbmgaa", sum := "3dee897d01795eccf3d6b1b233da815359ac0d0cd66fddf39a850ad6ce0e6a28", func := "loop.example/g00040/laws.FnExactCash", spec := "fnExactCash", unfollowed := true, recurses := true, apart := false }
def FnExactCashSaid : Prop := fnExactCashRow.holds Try.pinned (OpenSpec.ofChange fnExactCashSpec)

/-- ITS FALSE NEIGHBOUR: 'it returns false'. Refute it at one input. -/
def fnExactCashWrong : ChangeSpec := { name := "fnExactCash", fn := fun _ => fun
  | [d1, d2] => { results := [.lit (.bool false)], args := [d1, d2] }
  | _ => none }
def FnExactCashWrongFalsely : Prop := fnExactCashRow.holds Try.pinned (OpenSpec.ofChange fnExactCashWrong)

/- THE SECOND FORM. 'bulk': how many values and letters a reading holds, each counted each time it is reached (what is shared counts as often as it is met; a slice's spare places count too). A statement '..UptoSaid' is the law's where the arguments, and the package variables that the reading takes, are together of bulk at most 1048576: NARROWER than '..Said'. Prove '..Said' where nothing that the law and all that it calls make is longer than what came in: it says more and counts as full. Else prove '..UptoSaid'. A law counts once. -/
mutual
def uptoBulk {H : Type} : DataW H → Nat
  | .lit (.string bytes) => bytes.length + 1
  | .lit _ => 1
  | .nil => 1
  | .ptr d => uptoBulk d + 1
  | .slice elems spare => uptoBulkAll elems + uptoBulkAll spare + 1
  | .agg parts => uptoBulkAll parts + 1
  | .iface _ d => uptoBulk d + 1
  | .map entries => uptoBulkEntries entries + 1
  | .held _ => 1
def uptoBulkAll {H : Type} : List (DataW H) → Nat
  | [] => 0
  | d :: r => uptoBulk d + uptoBulkAll r
def uptoBulkEntries {H : Type} : List (Lit × DataW H) → Nat
  | [] => 0
  | x :: r => uptoBulkEntry x + uptoBulkEntries r
def uptoBulkEntry {H : Type} : Lit × DataW H → Nat
  | (.string bytes, d) => bytes.length + uptoBulk d + 1
  | (_, d) => uptoBulk d + 1
 end
def uptoSmall : (H : Type) → List (DataW H) → Bool := fun _ ds => decide (uptoBulkAll ds ≤ 1048576)
def OpenSpec.upto (s : _root_.Go.ChangeSpec) : _root_.Go.OpenSpec := { _root_.Go.OpenSpec.ofChange s with cond := some uptoSmall }

/-- 'laws.FnThereAndBack', WHERE WHAT IT READS IS OF BULK AT MOST 1048576: true; the input reads as it did. -/
def fnThereAndBackUptoRow : OpenClaim := { program := "ytidhnmodedbmgaa", sum := "3dee897d01795eccf3d6b1b233da815359ac0d0cd66fddf39a850ad6ce0e6a28", func := "loop.example/g00040/laws.FnThereAndBack", spec := "fnThereAndBack", unfollowed := true, recurses := true, apart := false, narrowed := true }
def FnThereAndBackUptoSaid : Prop := fnThereAndBackUptoRow.holds Try.pinned (OpenSpec.upto fnThereAndBackSpec)

/-- 'laws.FnCoins', WHERE WHAT IT READS IS OF BULK AT MOST 1048576: true; the input reads as it did. -/
def fnCoinsUptoRow : OpenClaim := { program := "ytidhnmodedbmgaa", sum := "3dee897d01795eccf3d6b1b233da815359ac0d0cd66fddf39a850ad6ce0e6a28", func := "loop.example/g00040/laws.FnCoins", spec := "fnCoins", unfollowed := true, recurses := true, apart := false, narrowed := true }
def FnCoinsUptoSaid : Prop := fnCoinsUptoRow.holds Try.pinned (OpenSpec.upto fnCoinsSpec)

/-- 'laws.FnExactCursOk', WHERE WHAT IT READS IS OF BULK AT MOST 1048576: true; the input reads as it did. -/
def fnExactCursOkUptoRow : OpenClaim := { program := "ytidhnmodedbmgaa", sum := "3dee897d01795eccf3d6b1b233da815359ac0d0cd66fddf39a850ad6ce0e6a28", func := "loop.example/g00040/laws.FnExactCursOk", spec := "fnExactCursOk", unfollowed := true, recurses := true, apart := false, narrowed := true }
def FnExactCursOkUptoSaid : Prop := fnExactCursOkUptoRow.holds Try.pinned (OpenSpec.upto fnExactCursOkSpec)

/-- 'laws.FnExactRatesOk', WHERE WHAT IT READS IS OF BULK AT MOST 1048576: true; the input reads as it did. -/
def fnExactRatesOkUptoRow : OpenClaim := { program := "ytidhnmodedbmgaa", sum := "3dee897d01795eccf3d6b1b233da815359ac0d0cd66fddf39a850ad6ce0e6a28", func := "loop.example/g00040/laws.FnExactRatesOk", spec := "fnExactRatesOk", apart := false, narrowed := true }
def FnExactRatesOkUptoSaid : Prop := fnExactRatesOkUptoRow.holds Try.pinned (OpenSpec.upto fnExactRatesOkSpec)

/-- 'laws.FnExactRateAt', WHERE WHAT IT READS IS OF BULK AT MOST 1048576: true; the input reads as it did. -/
def fnExactRateAtUptoRow : OpenClaim := { program := "ytidhnmodedbmgaa", sum := "3dee897d01795eccf3d6b1b233da815359ac0d0cd66fddf39a850ad6ce0e6a28", func := "loop.example/g00040/laws.FnExactRateAt", spec := "fnExactRateAt", unfollowed := true, recurses := true, apart := false, narrowed := true }
def FnExactRateAtUptoSaid : Prop := fnExactRateAtUptoRow.holds Try.pinned (OpenSpec.upto fnExactRateAtSpec)

/-- 'laws.FnExactConvert', WHERE WHAT IT READS IS OF BULK AT MOST 1048576: true; the input reads as it did. -/
def fnExactConvertUptoRow : OpenClaim := { program := "ytidhnmodedbmgaa", sum := "3dee897d01795eccf3d6b1b233da815359ac0d0cd66fddf39a850ad6ce0e6a28", func := "loop.example/g00040/laws.FnExactConvert", spec := "fnExactConvert", unfollowed := true, recurses := true, apart := false, narrowed := true }
def FnExactConvertUptoSaid : Prop := fnExactConvertUptoRow.holds Try.pinned (OpenSpec.upto fnExactConvertSpec)

/-- 'laws.FnExactCash', WHERE WHAT IT READS IS OF BULK AT MOST 1048576: true; the input reads as it did. -/
def fnExactCashUptoRow : OpenClaim := { program := "ytidhnmodedbmgaa", sum := "3dee897d01795eccf3d6b1b233da815359ac0d0cd66fddf39a850ad6ce0e6a28", func := "loop.example/g00040/laws.FnExactCash", spec := "fnExactCash", unfollowed := true, recurses := true, apart := false, narrowed := true }
def FnExactCashUptoSaid : Prop := fnExactCashUptoRow.holds Try.pinned (OpenSpec.upto fnExactCashSpec)

end Rows
end Go.Proofs.Ytidhnmodedbmgaa
