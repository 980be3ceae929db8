/-
  No cell of these rows narrows 'for every input' (looked for: loops, veiled, ifaces, maps, wideKeys, modest, calm, conditions, laid).
  DERIVED. THE GIVEN ROWS OF THIS SEAT. 11 by the template 'for every input the law returns true; each argument reads behind the call as it read before'; 0 by the template 'total and deterministic' (their statements: YtpmnnfjabppahaaTotals.lean).
  GIVEN WITH THE SEED: the statements are not yours to turn. If you find one false, say at which input.
  Laid BY PROGRAM, IN A SANDBOX (cutbox-rows.mjs): the forced cells as the released guide's own fill.sh prints them over the translation c77ced6485c443b6… (all of the seat's roots in one cut). By AI agents, Wed Nov 11 2026. No macro, syntax, notation, axiom, sorry.
-/
import Derived.Test.YtpmnnfjabppahaaChecked
import GoSem.Claim
import GoSem.ClaimJoined
import GoSem.ClaimMapViews
import Derived.JoinedTies
import Derived.KernelRfl
namespace Go.Proofs.Ytpmnnfjabppahaa
/- THE CELL 'sum', in the pinned program and in every row, IS THE sha256 OF THE DUMP (.gsa) THAT YtpmnnfjabppahaaProg.lean LOADS. Nothing in Lean hashes anything: it is a label: what it is worth is what the hold of that sum in a sandbox is worth. -/
noncomputable def Try.pinned : Pinned := { name := "ytpmnnfjabppahaa", sum := "c77ced6485c443b6f72a7f8dd96a0312cc462ab995fa7eb254c34fa69b7bcf1f", checked := Try.checked }
namespace Rows
def none {H : Type} : Left H := { results := [], args := [] }

/-- 'laws.FnMoved': WHATEVER THE INPUT: true; the input reads as it did. -/
def fnMovedSpec : ChangeSpec := { name := "fnMoved", fn := fun _ => fun
  | [d] => { results := [.lit (.bool true)], args := [d] }
  | _ => none }
def fnMovedRow : OpenClaim := { program := "ytpmnnfjabppahaa", sum := "c77ced6485c443b6f72a7f8dd96a0312cc462ab995fa7eb254c34fa69b7bcf1f", func := "loop.example/g00040/laws.FnMoved", spec := "fnMoved", unfollowed := true, recurses := true, plainKeys := false, apart := false }
def FnMovedSaid : Prop := fnMovedRow.holds Try.pinned (OpenSpec.ofChange fnMovedSpec)

/-- ITS FALSE NEIGHBOUR: 'it returns false'. Refute it at one input. -/
def fnMovedWrong : ChangeSpec := { name := "fnMoved", fn := fun _ => fun
  | [d] => { results := [.lit (.bool false)], args := [d] }
  | _ => none }
def FnMovedWrongFalsely : Prop := fnMovedRow.holds Try.pinned (OpenSpec.ofChange fnMovedWrong)

/-- 'laws.FnPickedShipped': WHATEVER THE INPUT: true; the input reads as it did. -/
def fnPickedShippedSpec : ChangeSpec := { name := "fnPickedShipped", fn := fun _ => fun
  | [d] => { results := [.lit (.bool true)], args := [d] }
  | _ => none }
def fnPickedShippedRow : OpenClaim := { program := "ytpmnnfjabppahaa", sum := "c77ced6485c443b6f72a7f8dd96a0312cc462ab995fa7eb254c34fa69b7bcf1f", func := "loop.example/g00040/laws.FnPickedShipped", spec := "fnPickedShipped", unfollowed := true, recurses := true, plainKeys := false, apart := false }
def FnPickedShippedSaid : Prop := fnPickedShippedRow.holds Try.pinned (OpenSpec.ofChange fnPickedShippedSpec)

/-- ITS FALSE NEIGHBOUR: 'it returns false'. Refute it at one input. -/
def fnPickedShippedWrong : ChangeSpec := { name := "fnPickedShipped", fn := fun _ => fun
  | [d] => { results := [.lit (.bool false)], args := [d] }
  | _ => none }
def FnPickedShippedWrongFalsely : Prop := fnPickedShippedRow.holds Try.pinned (OpenSpec.ofChange fnPickedShippedWrong)

/-- 'laws.FnUnits': WHATEVER THE INPUT: true; the input reads as it did. -/
def fnUnitsSpec : ChangeSpec := { name := "fnUnits", fn := fun _ => fun
  | [d] => { results := [.lit (.bool true)], args := [d] }
  | _ => none }
def fnUnitsRow : OpenClaim := { program := "ytpmnnfjabppahaa", sum := "c77ced6485c443b6f72a7f8dd96a0312cc462ab995fa7eb254c34fa69b7bcf1f", func := "loop.example/g00040/laws.FnUnits", spec := "fnUnits", unfollowed := true, recurses := true, named := ["math/bits.divideError", "math/bits.overflowError"], plainKeys := false, apart := false }
def FnUnitsSaid : Prop := fnUnitsRow.holds Try.pinned (OpenSpec.ofChange fnUnitsSpec)

/-- ITS FALSE NEIGHBOUR: 'it returns false'. Refute it at one input. -/
def fnUnitsWrong : ChangeSpec := { name := "fnUnits", fn := fun _ => fun
  | [d] => { results := [.lit (.bool false)], args := [d] }
  | _ => none }
def FnUnitsWrongFalsely : Prop := fnUnitsRow.holds Try.pinned (OpenSpec.ofChange fnUnitsWrong)

/-- 'laws.FnExactQtyIn': WHATEVER THE INPUT: true; the input reads as it did. -/
def fnExactQtyInSpec : ChangeSpec := { name := "fnExactQtyIn", fn := fun _ => fun
  | [d1, d2, d3, d4] => { results := [.lit (.bool true)], args := [d1, d2, d3, d4] }
  | _ => none }
def fnExactQtyInRow : OpenClaim := { program := "ytpmnnfjabppahaa", sum := "c77ced6485c443b6f72a7f8dd96a0312cc462ab995fa7eb254c34fa69b7bcf1f", func := "loop.example/g00040/laws.FnExactQtyIn", spec := "fnExactQtyIn", unfollowed := true, recurses := true, named := ["math/bits.divideError", "math/bits.overflowError"], plainKeys := false, apart := false }
def FnExactQtyInSaid : Prop := fnExactQtyInRow.holds Try.pinned (OpenSpec.ofChange fnExactQtyInSpec)

/-- ITS FALSE NEIGHBOUR: 'it returns false'. Refute it at one input. -/
def fnExactQtyInWrong : ChangeSpec := { name := "fnExactQtyIn", fn := fun _ => fun
  | [d1, d2, d3, d4] => { results := [.lit (.bool false)], args := [d1, d2, d3, d4] }
  | _ => none }
def FnExactQtyInWrongFalsely : Prop := fnExactQtyInRow.holds Try.pinned (OpenSpec.ofChange fnExactQtyInWrong)

/-- 'laws.FnExactStockOk': WHATEVER THE INPUT: true; the input reads as it did. -/
def fnExactStockOkSpec : ChangeSpec := { name := "fnExactStockOk", fn := fun _ => fun
  | [d] => { results := [.lit (.bool true)], args := [d] }
  | _ => none }
def fnExactStockOkRow : OpenClaim := { program := "ytpmnnfjabppahaa", sum := "c77ced6485c443b6f72a7f8dd96a0312cc462ab995fa7eb254c34fa69b7bcf1f", func := "loop.example/g00040/laws.FnExactStockOk", spec := "fnExactStockOk", unfollowed := true, recurses := true, plainKeys := false, apart := false }
def FnExactStockOkSaid : Prop := fnExactStockOkRow.holds Try.pinned (OpenSpec.ofChange fnExactStockOkSpec)

/-- ITS FALSE NEIGHBOUR: 'it returns false'. Refute it at one input. -/
def fnExactStockOkWrong : ChangeSpec := { name := "fnExactStockOk", fn := fun _ => fun
  | [d] => { results := [.lit (.bool false)], args := [d] }
  | _ => none }
def FnExactStockOkWrongFalsely : Prop := fnExactStockOkRow.holds Try.pinned (OpenSpec.ofChange fnExactStockOkWrong)

/-- 'laws.FnExactMove': WHATEVER THE INPUT: true; the input reads as it did. -/
def fnExactMoveSpec : ChangeSpec := { name := "fnExactMove", fn := fun _ => fun
  | [d1, d2, d3, d4] => { results := [.lit (.bool true)], args := [d1, d2, d3, d4] }
  | _ => none }
def fnExactMoveRow : OpenClaim := { program := "ytpmnnfjabppahaa", sum := "c77ced6485c443b6f72a7f8dd96a0312cc462ab995fa7eb254c34fa69b7bcf1f", func := "loop.example/g00040/laws.FnExactMove", spec := "fnExactMove", unfollowed := true, recurses := true, plainKeys := false, apart := false }
def FnExactMoveSaid : Prop := fnExactMoveRow.holds Try.pinned (OpenSpec.ofChange fnExactMoveSpec)

/-- ITS FALSE NEIGHBOUR: 'it returns false'. Refute it at one input. -/
def fnExactMoveWrong : ChangeSpec := { name := "fnExactMove", fn := fun _ => fun
  | [d1, d2, d3, d4] => { results := [.lit (.bool false)], args := [d1, d2, d3, d4] }
  | _ => none }
def FnExactMoveWrongFalsely : Prop := fnExactMoveRow.holds Try.pinned (OpenSpec.ofChange fnExactMoveWrong)

/-- 'laws.FnExactReceive': WHATEVER THE INPUT: true; the input reads as it did. -/
def fnExactReceiveSpec : ChangeSpec := { name := "fnExactReceive", fn := fun _ => fun
  | [d1, d2] => { results := [.lit (.bool true)], args := [d1, d2] }
  | _ => none }
def fnExactReceiveRow : OpenClaim := { program := "ytpmnnfjabppahaa", sum := "c77ced6485c443b6f72a7f8dd96a0312cc462ab995fa7eb254c34fa69b7bcf1f", func := "loop.example/g00040/laws.FnExactReceive", spec := "fnExactReceive", unfollowed := true, recurses := true, plainKeys := false, apart := false }
def FnExactReceiveSaid : Prop := fnExactReceiveRow.holds Try.pinned (OpenSpec.ofChange fnExactReceiveSpec)

/-- ITS FALSE NEIGHBOUR: 'it returns false'. Refute it at one input. -/
def fnExactReceiveWrong : ChangeSpec := { name := "fnExactReceive", fn := fun _ => fun
  | [d1, d2] => { results := [.lit (.bool false)], args := [d1, d2] }
  | _ => none }
def FnExactReceiveWrongFalsely : Prop := fnExactReceiveRow.holds Try.pinned (OpenSpec.ofChange fnExactReceiveWrong)

/-- 'laws.FnExactPicks': WHATEVER THE INPUT: true; the input reads as it did. -/
def fnExactPicksSpec : ChangeSpec := { name := "fnExactPicks", fn := fun _ => fun
  | [d1, d2, d3, d4] => { results := [.lit (.bool true)], args := [d1, d2, d3, d4] }
  | _ => none }
def fnExactPicksRow : OpenClaim := { program := "ytpmnnfjabppahaa", sum := "c77ced6485c443b6f72a7f8dd96a0312cc462ab995fa7eb254c34fa69b7bcf1f", func := "loop.example/g00040/laws.FnExactPicks", spec := "fnExactPicks", unfollowed := true, recurses := true, plainKeys := false, apart := false }
def FnExactPicksSaid : Prop := fnExactPicksRow.holds Try.pinned (OpenSpec.ofChange fnExactPicksSpec)

/-- ITS FALSE NEIGHBOUR: 'it returns false'. Refute it at one input. -/
def fnExactPicksWrong : ChangeSpec := { name := "fnExactPicks", fn := fun _ => fun
  | [d1, d2, d3, d4] => { results := [.lit (.bool false)], args := [d1, d2, d3, d4] }
  | _ => none }
def FnExactPicksWrongFalsely : Prop := fnExactPicksRow.holds Try.pinned (OpenSpec.ofChange fnExactPicksWrong)

/-- 'laws.FnExactHold': WHATEVER THE INPUT: true; the input reads as it did. -/
def fnExactHoldSpec : ChangeSpec := { name := "fnExactHold", fn := fun _ => fun
  | [d1, d2] => { results := [.lit (.bool true)], args := [d1, d2] }
  | _ => none }
def fnExactHoldRow : OpenClaim := { program := "ytpmnnfjabppahaa", sum := "c77ced6485c443b6f72a7f8dd96a0312cc462ab995fa7eb254c34fa69b7bcf1f", func := "loop.example/g00040/laws.FnExactHold", spec := "fnExactHold", unfollowed := true, recurses := true, plainKeys := false, apart := false }
def FnExactHoldSaid : Prop := fnExactHoldRow.holds Try.pinned (OpenSpec.ofChange fnExactHoldSpec)

/-- ITS FALSE NEIGHBOUR: 'it returns false'. Refute it at one input. -/
def fnExactHoldWrong : ChangeSpec := { name := "fnExactHold", fn := fun _ => fun
  | [d1, d2] => { results := [.lit (.bool false)], args := [d1, d2] }
  | _ => none }
def FnExactHoldWrongFalsely : Prop := fnExactHoldRow.holds Try.pinned (OpenSpec.ofChange fnExactHoldWrong)

/-- 'laws.FnExactShip': WHATEVER THE INPUT: true; the input reads as it did. -/
def fnExactShipSpec : ChangeSpec := { name := "fnExactShip", fn := fun _ => fun
  | [d1, d2] => { results := [.lit (.bool true)], args := [d1, d2] }
  | _ => none }
def fnExactShipRow : OpenClaim := { program := "ytpmnnfjabppahaa", sum := "c77ced6485c443b6f72a7f8dd96a0312cc462ab995fa7eb254c34fa69b7bcf1f", func := "loop.example/g00040/laws.FnExactShip", spec := "fnExactShip", unfollowed := true, recurses := true, plainKeys := false, apart := false }
def FnExactShipSaid : Prop := fnExactShipRow.holds Try.pinned (OpenSpec.ofChange fnExactShipSpec)

/-- ITS FALSE NEIGHBOUR: 'it returns false'. Refute it at one input. -/
def fnExactShipWrong : ChangeSpec := { name := "fnExactShip", fn := fun _ => fun
  | [d1, d2] => { results := [.lit (.bool false)], args := [d1, d2] }
  | _ => none }
def FnExactShipWrongFalsely : Prop := fnExactShipRow.holds Try.pinned (OpenSpec.ofChange fnExactShipWrong)

/-- 'laws.FnExactCount': WHATEVER THE INPUT: true; the input reads as it did. -/
def fnExactCountSpec : ChangeSpec := { name := "fnExactCount", fn := fun _ => fun
  | [d1, d2] => { results := [.lit (.bool true)], args := [d1, d2] }
  | _ => none }
def fnExactCountRow : OpenClaim := { program := "ytpmnnfjabppahaa", sum := "c77ced6485c443b6f72a7f8dd96a0312cc462ab995fa7eb254c34fa69b7bcf1f", func := "loop.example/g00040/laws.FnExactCount", spec := "fnExactCount", unfollowed := true, recurses := true, plainKeys := false, apart := false }
def FnExactCountSaid : Prop := fnExactCountRow.holds Try.pinned (OpenSpec.ofChange fnExactCountSpec)

/-- ITS FALSE NEIGHBOUR: 'it returns false'. Refute it at one input. -/
def fnExactCountWrong : ChangeSpec := { name := "fnExactCount", fn := fun _ => fun
  | [d1, d2] => { results := [.lit (.bool false)], args := [d1, d2] }
  | _ => none }
def FnExactCountWrongFalsely : Prop := fnExactCountRow.holds Try.pinned (OpenSpec.ofChange fnExactCountWrong)

/- THE SECOND FORM. 'bulk': how many values and letters a reading holds, each counted each time it is reached (what is shared counts as often as it is met; a slice's spare places count too). A statement '..UptoSaid' is the law's where the arguments, and the package variables that the reading takes, are together of bulk at most 1048576: NARROWER than '..Said'. Prove '..Said' where nothing that the law and all that it calls make is longer than what came in: it says more and counts as full. Else prove '..UptoSaid'. A law counts once. -/
mutual
def uptoBulk {H : Type} : DataW H → Nat
  | .lit (.string bytes) => bytes.length + 1
  | .lit _ => 1
  | .nil => 1
  | .ptr d => uptoBulk d + 1
  | .slice elems spare => uptoBulkAll elems + uptoBulkAll spare + 1
  | .agg parts => uptoBulkAll parts + 1
  | .iface _ d => uptoBulk d + 1
  | .map entries => uptoBulkEntries entries + 1
  | .held _ => 1
def uptoBulkAll {H : Type} : List (DataW H) → Nat
  | [] => 0
  | d :: r => uptoBulk d + uptoBulkAll r
def uptoBulkEntries {H : Type} : List (Lit × DataW H) → Nat
  | [] => 0
  | x :: r => uptoBulkEntry x + uptoBulkEntries r
def uptoBulkEntry {H : Type} : Lit × DataW H → Nat
  | (.string bytes, d) => bytes.length + uptoBulk d + 1
  | (_, d) => uptoBulk d + 1
 end
def uptoSmall : (H : Type) → List (DataW H) → Bool := fun _ ds => decide (uptoBulkAll ds ≤ 1048576)
def OpenSpec.upto (s : _root_.Go.ChangeSpec) : _root_.Go.OpenSpec := { _root_.Go.OpenSpec.ofChange s with cond := some uptoSmall }

/-- 'laws.FnMoved', WHERE WHAT IT READS IS OF BULK AT MOST 1048576: true; the input reads as it did. -/
def fnMovedUptoRow : OpenClaim := { program := "ytpmnnfjabppahaa", sum := "c77ced6485c443b6f72a7f8dd96a0312cc462ab995fa7eb254c34fa69b7bcf1f", func := "loop.example/g00040/laws.FnMoved", spec := "fnMoved", unfollowed := true, recurses := true, plainKeys := false, apart := false, narrowed := true }
def FnMovedUptoSaid : Prop := fnMovedUptoRow.holds Try.pinned (OpenSpec.upto fnMovedSpec)

/-- 'laws.FnPickedShipped', WHERE WHAT IT READS IS OF BULK AT MOST 1048576: true; the input reads as it did. -/
def fnPickedShippedUptoRow : OpenClaim := { program := "ytpmnnfjabppahaa", sum := "c77ced6485c443b6f72a7f8dd96a0312cc462ab995fa7eb254c34fa69b7bcf1f", func := "loop.example/g00040/laws.FnPickedShipped", spec := "fnPickedShipped", unfollowed := true, recurses := true, plainKeys := false, apart := false, narrowed := true }
def FnPickedShippedUptoSaid : Prop := fnPickedShippedUptoRow.holds Try.pinned (OpenSpec.upto fnPickedShippedSpec)

/-- 'laws.FnUnits', WHERE WHAT IT READS IS OF BULK AT MOST 1048576: true; the input reads as it did. -/
def fnUnitsUptoRow : OpenClaim := { program := "ytpmnnfjabppahaa", sum := "c77ced6485c443b6f72a7f8dd96a0312cc462ab995fa7eb254c34fa69b7bcf1f", func := "loop.example/g00040/laws.FnUnits", spec := "fnUnits", unfollowed := true, recurses := true, named := ["math/bits.divideError", "math/bits.overflowError"], plainKeys := false, apart := false, narrowed := true }
def FnUnitsUptoSaid : Prop := fnUnitsUptoRow.holds Try.pinned (OpenSpec.upto fnUnitsSpec)

/-- 'laws.FnExactQtyIn', WHERE WHAT IT READS IS OF BULK AT MOST 1048576: true; the input reads as it did. -/
def fnExactQtyInUptoRow : OpenClaim := { program := "ytpmnnfjabppahaa", sum := "c77ced6485c443b6f72a7f8dd96a0312cc462ab995fa7eb254c34fa69b7bcf1f", func := "loop.example/g00040/laws.FnExactQtyIn", spec := "fnExactQtyIn", unfollowed := true, recurses := true, named := ["math/bits.divideError", "math/bits.overflowError"], plainKeys := false, apart := false, narrowed := true }
def FnExactQtyInUptoSaid : Prop := fnExactQtyInUptoRow.holds Try.pinned (OpenSpec.upto fnExactQtyInSpec)

/-- 'laws.FnExactStockOk', WHERE WHAT IT READS IS OF BULK AT MOST 1048576: true; the input reads as it did. -/
def fnExactStockOkUptoRow : OpenClaim := { program := "ytpmnnfjabppahaa", sum := "c77ced6485c443b6f72a7f8dd96a0312cc462ab995fa7eb254c34fa69b7bcf1f", func := "loop.example/g00040/laws.FnExactStockOk", spec := "fnExactStockOk", unfollowed := true, recurses := true, plainKeys := false, apart := false, narrowed := true }
def FnExactStockOkUptoSaid : Prop := fnExactStockOkUptoRow.holds Try.pinned (OpenSpec.upto fnExactStockOkSpec)

/-- 'laws.FnExactMove', WHERE WHAT IT READS IS OF BULK AT MOST 1048576: true; the input reads as it did. -/
def fnExactMoveUptoRow : OpenClaim := { program := "ytpmnnfjabppahaa", sum := "c77ced6485c443b6f72a7f8dd96a0312cc462ab995fa7eb254c34fa69b7bcf1f", func := "loop.example/g00040/laws.FnExactMove", spec := "fnExactMove", unfollowed := true, recurses := true, plainKeys := false, apart := false, narrowed := true }
def FnExactMoveUptoSaid : Prop := fnExactMoveUptoRow.holds Try.pinned (OpenSpec.upto fnExactMoveSpec)

/-- 'laws.FnExactReceive', WHERE WHAT IT READS IS OF BULK AT MOST 1048576: true; the input reads as it did. -/
def fnExactReceiveUptoRow : OpenClaim := { program := "ytpmnnfjabppahaa", sum := "c77ced6485c443b6f72a7f8dd96a0312cc462ab995fa7eb254c34fa69b7bcf1f", func := "loop.example/g00040/laws.FnExactReceive", spec := "fnExactReceive", unfollowed := true, recurses := true, plainKeys := false, apart := false, narrowed := true }
def FnExactReceiveUptoSaid : Prop := fnExactReceiveUptoRow.holds Try.pinned (OpenSpec.upto fnExactReceiveSpec)

/-- 'laws.FnExactPicks', WHERE WHAT IT READS IS OF BULK AT MOST 1048576: true; the input reads as it did. -/
def fnExactPicksUptoRow : OpenClaim := { program := "ytpmnnfjabppahaa", sum := "c77ced6485c443b6f72a7f8dd96a0312cc462ab995fa7eb254c34fa69b7bcf1f", func := "loop.example/g00040/laws.FnExactPicks", spec := "fnExactPicks", unfollowed := true, recurses := true, plainKeys := false, apart := false, narrowed := true }
def FnExactPicksUptoSaid : Prop := fnExactPicksUptoRow.holds Try.pinned (OpenSpec.upto fnExactPicksSpec)

/-- 'laws.FnExactHold', WHERE WHAT IT READS IS OF BULK AT MOST 1048576: true; the input reads as it did. -/
def fnExactHoldUptoRow : OpenClaim := { program := "ytpmnnfjabppahaa", sum := "c77ced6485c443b6f72a7f8dd96a0312cc462ab995fa7eb254c34fa69b7bcf1f", func := "loop.example/g00040/laws.FnExactHold", spec := "fnExactHold", unfollowed := true, recurses := true, plainKeys := false, apart := false, narrowed := true }
def FnExactHoldUptoSaid : Prop := fnExactHoldUptoRow.holds Try.pinned (OpenSpec.upto fnExactHoldSpec)

/-- 'laws.FnExactShip', WHERE WHAT IT READS IS OF BULK AT MOST 1048576: true; the input reads as it did. -/
def fnExactShipUptoRow : OpenClaim := { program := "ytpmnnfjabppahaa", sum := "c77ced6485c443b6f72a7f8dd96a0312cc462ab995fa7eb254c34fa69b7bcf1f", func := "loop.example/g00040/laws.FnExactShip", spec := "fnExactShip", unfollowed := true, recurses := true, plainKeys := false, apart := false, narrowed := true }
def FnExactShipUptoSaid : Prop := fnExactShipUptoRow.holds Try.pinned (OpenSpec.upto fnExactShipSpec)

/-- 'laws.FnExactCount', WHERE WHAT IT READS IS OF BULK AT MOST 1048576: true; the input reads as it did. -/
def fnExactCountUptoRow : OpenClaim := { program := "ytpmnnfjabppahaa", sum := "c77ced6485c443b6f72a7f8dd96a0312cc462ab995fa7eb254c34fa69b7bcf1f", func := "loop.example/g00040/laws.FnExactCount", spec := "fnExactCount", unfollowed := true, recurses := true, plainKeys := false, apart := false, narrowed := true }
def FnExactCountUptoSaid : Prop := fnExactCountUptoRow.holds Try.pinned (OpenSpec.upto fnExactCountSpec)

end Rows
end Go.Proofs.Ytpmnnfjabppahaa
