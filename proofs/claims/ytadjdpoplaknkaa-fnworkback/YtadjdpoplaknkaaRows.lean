/-
  No cell of these rows narrows 'for every input' (looked for: loops, veiled, ifaces, maps, wideKeys, modest, calm, conditions, laid).
  DERIVED. THE GIVEN ROWS OF THIS SEAT. 7 by the template 'for every input the law returns true; each argument reads behind the call as it read before'; 0 by the template 'total and deterministic' (their statements: YtadjdpoplaknkaaTotals.lean).
  GIVEN WITH THE SEED: the statements are not yours to turn. If you find one false, say at which input.
  Laid BY PROGRAM, IN A SANDBOX (cutbox-rows.mjs): the forced cells as the released guide's own fill.sh prints them over the translation 96b84728cc19d71a… (all of the seat's roots in one cut). By AI agents, Wed Nov 11 2026. No macro, syntax, notation, axiom, sorry.
-/
import Derived.Test.YtadjdpoplaknkaaChecked
import GoSem.Claim
import GoSem.ClaimJoined
import GoSem.ClaimMapViews
import Derived.JoinedTies
import Derived.KernelRfl
namespace Go.Proofs.Ytadjdpoplaknkaa
/- THE CELL 'sum', in the pinned program and in every row, IS THE sha256 OF THE DUMP (.gsa) THAT YtadjdpoplaknkaaProg.lean LOADS. Nothing in Lean hashes anything: it is a label: what it is worth is what the hold of that sum in a sandbox is worth. -/
noncomputable def Try.pinned : Pinned := { name := "ytadjdpoplaknkaa", sum := "96b84728cc19d71ae0cd91544ff7ea6e27909b96131654e539ef0be7f2692947", checked := Try.checked }
namespace Rows
def none {H : Type} : Left H := { results := [], args := [] }

/-- 'laws.FnWorkBack': WHATEVER THE INPUT: true; the input reads as it did. -/
def fnWorkBackSpec : ChangeSpec := { name := "fnWorkBack", fn := fun _ => fun
  | [d] => { results := [.lit (.bool true)], args := [d] }
  | _ => none }
def fnWorkBackRow : OpenClaim := { program := "ytadjdpoplaknkaa", sum := "96b84728cc19d71ae0cd91544ff7ea6e27909b96131654e539ef0be7f2692947", func := "loop.example/g00040/laws.FnWorkBack", spec := "fnWorkBack", unfollowed := true, recurses := true, apart := false }
def FnWorkBackSaid : Prop := fnWorkBackRow.holds Try.pinned (OpenSpec.ofChange fnWorkBackSpec)

/-- ITS FALSE NEIGHBOUR: 'it returns false'. Refute it at one input. -/
def fnWorkBackWrong : ChangeSpec := { name := "fnWorkBack", fn := fun _ => fun
  | [d] => { results := [.lit (.bool false)], args := [d] }
  | _ => none }
def FnWorkBackWrongFalsely : Prop := fnWorkBackRow.holds Try.pinned (OpenSpec.ofChange fnWorkBackWrong)

/-- 'laws.FnExactWeekday': WHATEVER THE INPUT: true; the input reads as it did. -/
def fnExactWeekdaySpec : ChangeSpec := { name := "fnExactWeekday", fn := fun _ => fun
  | [d] => { results := [.lit (.bool true)], args := [d] }
  | _ => none }
def fnExactWeekdayRow : OpenClaim := { program := "ytadjdpoplaknkaa", sum := "96b84728cc19d71ae0cd91544ff7ea6e27909b96131654e539ef0be7f2692947", func := "loop.example/g00040/laws.FnExactWeekday", spec := "fnExactWeekday", apart := false }
def FnExactWeekdaySaid : Prop := fnExactWeekdayRow.holds Try.pinned (OpenSpec.ofChange fnExactWeekdaySpec)

/-- ITS FALSE NEIGHBOUR: 'it returns false'. Refute it at one input. -/
def fnExactWeekdayWrong : ChangeSpec := { name := "fnExactWeekday", fn := fun _ => fun
  | [d] => { results := [.lit (.bool false)], args := [d] }
  | _ => none }
def FnExactWeekdayWrongFalsely : Prop := fnExactWeekdayRow.holds Try.pinned (OpenSpec.ofChange fnExactWeekdayWrong)

/-- 'laws.FnExactCalOk': WHATEVER THE INPUT: true; the input reads as it did. -/
def fnExactCalOkSpec : ChangeSpec := { name := "fnExactCalOk", fn := fun _ => fun
  | [d] => { results := [.lit (.bool true)], args := [d] }
  | _ => none }
def fnExactCalOkRow : OpenClaim := { program := "ytadjdpoplaknkaa", sum := "96b84728cc19d71ae0cd91544ff7ea6e27909b96131654e539ef0be7f2692947", func := "loop.example/g00040/laws.FnExactCalOk", spec := "fnExactCalOk", apart := false }
def FnExactCalOkSaid : Prop := fnExactCalOkRow.holds Try.pinned (OpenSpec.ofChange fnExactCalOkSpec)

/-- ITS FALSE NEIGHBOUR: 'it returns false'. Refute it at one input. -/
def fnExactCalOkWrong : ChangeSpec := { name := "fnExactCalOk", fn := fun _ => fun
  | [d] => { results := [.lit (.bool false)], args := [d] }
  | _ => none }
def FnExactCalOkWrongFalsely : Prop := fnExactCalOkRow.holds Try.pinned (OpenSpec.ofChange fnExactCalOkWrong)

/-- 'laws.FnExactWork': WHATEVER THE INPUT: true; the input reads as it did. -/
def fnExactWorkSpec : ChangeSpec := { name := "fnExactWork", fn := fun _ => fun
  | [d1, d2] => { results := [.lit (.bool true)], args := [d1, d2] }
  | _ => none }
def fnExactWorkRow : OpenClaim := { program := "ytadjdpoplaknkaa", sum := "96b84728cc19d71ae0cd91544ff7ea6e27909b96131654e539ef0be7f2692947", func := "loop.example/g00040/laws.FnExactWork", spec := "fnExactWork", apart := false }
def FnExactWorkSaid : Prop := fnExactWorkRow.holds Try.pinned (OpenSpec.ofChange fnExactWorkSpec)

/-- ITS FALSE NEIGHBOUR: 'it returns false'. Refute it at one input. -/
def fnExactWorkWrong : ChangeSpec := { name := "fnExactWork", fn := fun _ => fun
  | [d1, d2] => { results := [.lit (.bool false)], args := [d1, d2] }
  | _ => none }
def FnExactWorkWrongFalsely : Prop := fnExactWorkRow.holds Try.pinned (OpenSpec.ofChange fnExactWorkWrong)

/-- 'laws.FnExactAddWork': WHATEVER THE INPUT: true; the input reads as it did. -/
def fnExactAddWorkSpec : ChangeSpec := { name := "fnExactAddWork", fn := fun _ => fun
  | [d1, d2, d3] => { results := [.lit (.bool true)], args := [d1, d2, d3] }
  | _ => none }
def fnExactAddWorkRow : OpenClaim := { program := "ytadjdpoplaknkaa", sum := "96b84728cc19d71ae0cd91544ff7ea6e27909b96131654e539ef0be7f2692947", func := "loop.example/g00040/laws.FnExactAddWork", spec := "fnExactAddWork", unfollowed := true, recurses := true, apart := false }
def FnExactAddWorkSaid : Prop := fnExactAddWorkRow.holds Try.pinned (OpenSpec.ofChange fnExactAddWorkSpec)

/-- ITS FALSE NEIGHBOUR: 'it returns false'. Refute it at one input. -/
def fnExactAddWorkWrong : ChangeSpec := { name := "fnExactAddWork", fn := fun _ => fun
  | [d1, d2, d3] => { results := [.lit (.bool false)], args := [d1, d2, d3] }
  | _ => none }
def FnExactAddWorkWrongFalsely : Prop := fnExactAddWorkRow.holds Try.pinned (OpenSpec.ofChange fnExactAddWorkWrong)

/-- 'laws.FnExactCountWork': WHATEVER THE INPUT: true; the input reads as it did. -/
def fnExactCountWorkSpec : ChangeSpec := { name := "fnExactCountWork", fn := fun _ => fun
  | [d1, d2, d3] => { results := [.lit (.bool true)], args := [d1, d2, d3] }
  | _ => none }
def fnExactCountWorkRow : OpenClaim := { program := "ytadjdpoplaknkaa", sum := "96b84728cc19d71ae0cd91544ff7ea6e27909b96131654e539ef0be7f2692947", func := "loop.example/g00040/laws.FnExactCountWork", spec := "fnExactCountWork", unfollowed := true, recurses := true, apart := false }
def FnExactCountWorkSaid : Prop := fnExactCountWorkRow.holds Try.pinned (OpenSpec.ofChange fnExactCountWorkSpec)

/-- ITS FALSE NEIGHBOUR: 'it returns false'. Refute it at one input. -/
def fnExactCountWorkWrong : ChangeSpec := { name := "fnExactCountWork", fn := fun _ => fun
  | [d1, d2, d3] => { results := [.lit (.bool false)], args := [d1, d2, d3] }
  | _ => none }
def FnExactCountWorkWrongFalsely : Prop := fnExactCountWorkRow.holds Try.pinned (OpenSpec.ofChange fnExactCountWorkWrong)

/-- 'laws.FnExactPeriodAt': WHATEVER THE INPUT: true; the input reads as it did. -/
def fnExactPeriodAtSpec : ChangeSpec := { name := "fnExactPeriodAt", fn := fun _ => fun
  | [d1, d2] => { results := [.lit (.bool true)], args := [d1, d2] }
  | _ => none }
def fnExactPeriodAtRow : OpenClaim := { program := "ytadjdpoplaknkaa", sum := "96b84728cc19d71ae0cd91544ff7ea6e27909b96131654e539ef0be7f2692947", func := "loop.example/g00040/laws.FnExactPeriodAt", spec := "fnExactPeriodAt", unfollowed := true, recurses := true, apart := false }
def FnExactPeriodAtSaid : Prop := fnExactPeriodAtRow.holds Try.pinned (OpenSpec.ofChange fnExactPeriodAtSpec)

/-- ITS FALSE NEIGHBOUR: 'it returns false'. Refute it at one input. -/
def fnExactPeriodAtWrong : ChangeSpec := { name := "fnExactPeriodAt", fn := fun _ => fun
  | [d1, d2] => { results := [.lit (.bool false)], args := [d1, d2] }
  | _ => none }
def FnExactPeriodAtWrongFalsely : Prop := fnExactPeriodAtRow.holds Try.pinned (OpenSpec.ofChange fnExactPeriodAtWrong)

/- THE SECOND FORM. 'bulk': how many values and letters a reading holds, each counted each time it is reached (what is shared counts as often as it is met; a slice's spare places count too). A statement '..UptoSaid' is the law's where the arguments, and the package variables that the reading takes, are together of bulk at most 1048576: NARROWER than '..Said'. Prove '..Said' where nothing that the law and all that it calls make is longer than what came in: it says more and counts as full. Else prove '..UptoSaid'. A law counts once. -/
mutual
def uptoBulk {H : Type} : DataW H → Nat
  | .lit (.string bytes) => bytes.length + 1
  | .lit _ => 1
  | .nil => 1
  | .ptr d => uptoBulk d + 1
  | .slice elems spare => uptoBulkAll elems + uptoBulkAll spare + 1
  | .agg parts => uptoBulkAll parts + 1
  | .iface _ d => uptoBulk d + 1
  | .map entries => uptoBulkEntries entries + 1
  | .held _ => 1
def uptoBulkAll {H : Type} : List (DataW H) → Nat
  | [] => 0
  | d :: r => uptoBulk d + uptoBulkAll r
def uptoBulkEntries {H : Type} : List (Lit × DataW H) → Nat
  | [] => 0
  | x :: r => uptoBulkEntry x + uptoBulkEntries r
def uptoBulkEntry {H : Type} : Lit × DataW H → Nat
  | (.string bytes, d) => bytes.length + uptoBulk d + 1
  | (_, d) => uptoBulk d + 1
 end
def uptoSmall : (H : Type) → List (DataW H) → Bool := fun _ ds => decide (uptoBulkAll ds ≤ 1048576)
def OpenSpec.upto (s : _root_.Go.ChangeSpec) : _root_.Go.OpenSpec := { _root_.Go.OpenSpec.ofChange s with cond := some uptoSmall }

/-- 'laws.FnWorkBack', WHERE WHAT IT READS IS OF BULK AT MOST 1048576: true; the input reads as it did. -/
def fnWorkBackUptoRow : OpenClaim := { program := "ytadjdpoplaknkaa", sum := "96b84728cc19d71ae0cd91544ff7ea6e27909b96131654e539ef0be7f2692947", func := "loop.example/g00040/laws.FnWorkBack", spec := "fnWorkBack", unfollowed := true, recurses := true, apart := false, narrowed := true }
def FnWorkBackUptoSaid : Prop := fnWorkBackUptoRow.holds Try.pinned (OpenSpec.upto fnWorkBackSpec)

/-- 'laws.FnExactWeekday', WHERE WHAT IT READS IS OF BULK AT MOST 1048576: true; the input reads as it did. -/
def fnExactWeekdayUptoRow : OpenClaim := { program := "ytadjdpoplaknkaa", sum := "96b84728cc19d71ae0cd91544ff7ea6e27909b96131654e539ef0be7f2692947", func := "loop.example/g00040/laws.FnExactWeekday", spec := "fnExactWeekday", apart := false, narrowed := true }
def FnExactWeekdayUptoSaid : Prop := fnExactWeekdayUptoRow.holds Try.pinned (OpenSpec.upto fnExactWeekdaySpec)

/-- 'laws.FnExactCalOk', WHERE WHAT IT READS IS OF BULK AT MOST 1048576: true; the input reads as it did. -/
def fnExactCalOkUptoRow : OpenClaim := { program := "ytadjdpoplaknkaa", sum := "96b84728cc19d71ae0cd91544ff7ea6e27909b96131654e539ef0be7f2692947", func := "loop.example/g00040/laws.FnExactCalOk", spec := "fnExactCalOk", apart := false, narrowed := true }
def FnExactCalOkUptoSaid : Prop := fnExactCalOkUptoRow.holds Try.pinned (OpenSpec.upto fnExactCalOkSpec)

/-- 'laws.FnExactWork', WHERE WHAT IT READS IS OF BULK AT MOST 1048576: true; the input reads as it did. -/
def fnExactWorkUptoRow : OpenClaim := { program := "ytadjdpoplaknkaa", sum := "96b84728cc19d71ae0cd91544ff7ea6e27909b96131654e539ef0be7f2692947", func := "loop.example/g00040/laws.FnExactWork", spec := "fnExactWork", apart := false, narrowed := true }
def FnExactWorkUptoSaid : Prop := fnExactWorkUptoRow.holds Try.pinned (OpenSpec.upto fnExactWorkSpec)

/-- 'laws.FnExactAddWork', WHERE WHAT IT READS IS OF BULK AT MOST 1048576: true; the input reads as it did. -/
def fnExactAddWorkUptoRow : OpenClaim := { program := "ytadjdpoplaknkaa", sum := "96b84728cc19d71ae0cd91544ff7ea6e27909b96131654e539ef0be7f2692947", func := "loop.example/g00040/laws.FnExactAddWork", spec := "fnExactAddWork", unfollowed := true, recurses := true, apart := false, narrowed := true }
def FnExactAddWorkUptoSaid : Prop := fnExactAddWorkUptoRow.holds Try.pinned (OpenSpec.upto fnExactAddWorkSpec)

/-- 'laws.FnExactCountWork', WHERE WHAT IT READS IS OF BULK AT MOST 1048576: true; the input reads as it did. -/
def fnExactCountWorkUptoRow : OpenClaim := { program := "ytadjdpoplaknkaa", sum := "96b84728cc19d71ae0cd91544ff7ea6e27909b96131654e539ef0be7f2692947", func := "loop.example/g00040/laws.FnExactCountWork", spec := "fnExactCountWork", unfollowed := true, recurses := true, apart := false, narrowed := true }
def FnExactCountWorkUptoSaid : Prop := fnExactCountWorkUptoRow.holds Try.pinned (OpenSpec.upto fnExactCountWorkSpec)

/-- 'laws.FnExactPeriodAt', WHERE WHAT IT READS IS OF BULK AT MOST 1048576: true; the input reads as it did. -/
def fnExactPeriodAtUptoRow : OpenClaim := { program := "ytadjdpoplaknkaa", sum := "96b84728cc19d71ae0cd91544ff7ea6e27909b96131654e539ef0be7f2692947", func := "loop.example/g00040/laws.FnExactPeriodAt", spec := "fnExactPeriodAt", unfollowed := true, recurses := true, apart := false, narrowed := true }
def FnExactPeriodAtUptoSaid : Prop := fnExactPeriodAtUptoRow.holds Try.pinned (OpenSpec.upto fnExactPeriodAtSpec)

end Rows
end Go.Proofs.Ytadjdpoplaknkaa
