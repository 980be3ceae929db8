/-
  No cell of these rows narrows 'for every input' (looked for: loops, veiled, ifaces, maps, wideKeys, modest, calm, conditions, laid).
  DERIVED. THE GIVEN ROWS OF THIS SEAT. 9 by the template 'for every input the law returns true; each argument reads behind the call as it read before'; 0 by the template 'total and deterministic' (their statements: YtghphlnpginmhaaTotals.lean).
  GIVEN WITH THE SEED: the statements are not yours to turn. If you find one false, say at which input.
  Laid BY PROGRAM, IN A SANDBOX (cutbox-rows.mjs): the forced cells as the released guide's own fill.sh prints them over the translation 05994a42484321cf… (all of the seat's roots in one cut). By AI agents, Wed Nov 11 2026. No macro, syntax, notation, axiom, sorry.
-/
import Derived.Test.YtghphlnpginmhaaChecked
import GoSem.Claim
import GoSem.ClaimJoined
import GoSem.ClaimMapViews
import Derived.JoinedTies
import Derived.KernelRfl
namespace Go.Proofs.Ytghphlnpginmhaa
/- THE CELL 'sum', in the pinned program and in every row, IS THE sha256 OF THE DUMP (.gsa) THAT YtghphlnpginmhaaProg.lean LOADS. Nothing in Lean hashes anything: it is a label: what it is worth is what the hold of that sum in a sandbox is worth. -/
noncomputable def Try.pinned : Pinned := { name := "ytghphlnpginmhaa", sum := "05994a42484321cfab36cd209f27f0187f27fdce5474bca705389dee125449fb", checked := Try.checked }
namespace Rows
def none {H : Type} : Left H := { results := [], args := [] }

/-- 'laws.FnCheapest': WHATEVER THE INPUT: true; the input reads as it did. -/
def fnCheapestSpec : ChangeSpec := { name := "fnCheapest", fn := fun _ => fun
  | [d] => { results := [.lit (.bool true)], args := [d] }
  | _ => none }
def fnCheapestRow : OpenClaim := { program := "ytghphlnpginmhaa", sum := "05994a42484321cfab36cd209f27f0187f27fdce5474bca705389dee125449fb", func := "loop.example/g00040/laws.FnCheapest", spec := "fnCheapest", unfollowed := true, recurses := true, apart := false }
def FnCheapestSaid : Prop := fnCheapestRow.holds Try.pinned (OpenSpec.ofChange fnCheapestSpec)

/-- ITS FALSE NEIGHBOUR: 'it returns false'. Refute it at one input. -/
def fnCheapestWrong : ChangeSpec := { name := "fnCheapest", fn := fun _ => fun
  | [d] => { results := [.lit (.bool false)], args := [d] }
  | _ => none }
def FnCheapestWrongFalsely : Prop := fnCheapestRow.holds Try.pinned (OpenSpec.ofChange fnCheapestWrong)

/-- 'laws.FnPaidReceived': WHATEVER THE INPUT: true; the input reads as it did. -/
def fnPaidReceivedSpec : ChangeSpec := { name := "fnPaidReceived", fn := fun _ => fun
  | [d] => { results := [.lit (.bool true)], args := [d] }
  | _ => none }
def fnPaidReceivedRow : OpenClaim := { program := "ytghphlnpginmhaa", sum := "05994a42484321cfab36cd209f27f0187f27fdce5474bca705389dee125449fb", func := "loop.example/g00040/laws.FnPaidReceived", spec := "fnPaidReceived", unfollowed := true, recurses := true, apart := false }
def FnPaidReceivedSaid : Prop := fnPaidReceivedRow.holds Try.pinned (OpenSpec.ofChange fnPaidReceivedSpec)

/-- ITS FALSE NEIGHBOUR: 'it returns false'. Refute it at one input. -/
def fnPaidReceivedWrong : ChangeSpec := { name := "fnPaidReceived", fn := fun _ => fun
  | [d] => { results := [.lit (.bool false)], args := [d] }
  | _ => none }
def FnPaidReceivedWrongFalsely : Prop := fnPaidReceivedRow.holds Try.pinned (OpenSpec.ofChange fnPaidReceivedWrong)

/-- 'laws.FnExactOfferOk': WHATEVER THE INPUT: true; the input reads as it did. -/
def fnExactOfferOkSpec : ChangeSpec := { name := "fnExactOfferOk", fn := fun _ => fun
  | [d1, d2] => { results := [.lit (.bool true)], args := [d1, d2] }
  | _ => none }
def fnExactOfferOkRow : OpenClaim := { program := "ytghphlnpginmhaa", sum := "05994a42484321cfab36cd209f27f0187f27fdce5474bca705389dee125449fb", func := "loop.example/g00040/laws.FnExactOfferOk", spec := "fnExactOfferOk", apart := false }
def FnExactOfferOkSaid : Prop := fnExactOfferOkRow.holds Try.pinned (OpenSpec.ofChange fnExactOfferOkSpec)

/-- ITS FALSE NEIGHBOUR: 'it returns false'. Refute it at one input. -/
def fnExactOfferOkWrong : ChangeSpec := { name := "fnExactOfferOk", fn := fun _ => fun
  | [d1, d2] => { results := [.lit (.bool false)], args := [d1, d2] }
  | _ => none }
def FnExactOfferOkWrongFalsely : Prop := fnExactOfferOkRow.holds Try.pinned (OpenSpec.ofChange fnExactOfferOkWrong)

/-- 'laws.FnExactOfferPrice': WHATEVER THE INPUT: true; the input reads as it did. -/
def fnExactOfferPriceSpec : ChangeSpec := { name := "fnExactOfferPrice", fn := fun _ => fun
  | [d1, d2, d3] => { results := [.lit (.bool true)], args := [d1, d2, d3] }
  | _ => none }
def fnExactOfferPriceRow : OpenClaim := { program := "ytghphlnpginmhaa", sum := "05994a42484321cfab36cd209f27f0187f27fdce5474bca705389dee125449fb", func := "loop.example/g00040/laws.FnExactOfferPrice", spec := "fnExactOfferPrice", apart := false }
def FnExactOfferPriceSaid : Prop := fnExactOfferPriceRow.holds Try.pinned (OpenSpec.ofChange fnExactOfferPriceSpec)

/-- ITS FALSE NEIGHBOUR: 'it returns false'. Refute it at one input. -/
def fnExactOfferPriceWrong : ChangeSpec := { name := "fnExactOfferPrice", fn := fun _ => fun
  | [d1, d2, d3] => { results := [.lit (.bool false)], args := [d1, d2, d3] }
  | _ => none }
def FnExactOfferPriceWrongFalsely : Prop := fnExactOfferPriceRow.holds Try.pinned (OpenSpec.ofChange fnExactOfferPriceWrong)

/-- 'laws.FnExactBestOffer': WHATEVER THE INPUT: true; the input reads as it did. -/
def fnExactBestOfferSpec : ChangeSpec := { name := "fnExactBestOffer", fn := fun _ => fun
  | [d1, d2, d3, d4, d5, d6] => { results := [.lit (.bool true)], args := [d1, d2, d3, d4, d5, d6] }
  | _ => none }
def fnExactBestOfferRow : OpenClaim := { program := "ytghphlnpginmhaa", sum := "05994a42484321cfab36cd209f27f0187f27fdce5474bca705389dee125449fb", func := "loop.example/g00040/laws.FnExactBestOffer", spec := "fnExactBestOffer", unfollowed := true, recurses := true, apart := false }
def FnExactBestOfferSaid : Prop := fnExactBestOfferRow.holds Try.pinned (OpenSpec.ofChange fnExactBestOfferSpec)

/-- ITS FALSE NEIGHBOUR: 'it returns false'. Refute it at one input. -/
def fnExactBestOfferWrong : ChangeSpec := { name := "fnExactBestOffer", fn := fun _ => fun
  | [d1, d2, d3, d4, d5, d6] => { results := [.lit (.bool false)], args := [d1, d2, d3, d4, d5, d6] }
  | _ => none }
def FnExactBestOfferWrongFalsely : Prop := fnExactBestOfferRow.holds Try.pinned (OpenSpec.ofChange fnExactBestOfferWrong)

/-- 'laws.FnExactOrderOk': WHATEVER THE INPUT: true; the input reads as it did. -/
def fnExactOrderOkSpec : ChangeSpec := { name := "fnExactOrderOk", fn := fun _ => fun
  | [d] => { results := [.lit (.bool true)], args := [d] }
  | _ => none }
def fnExactOrderOkRow : OpenClaim := { program := "ytghphlnpginmhaa", sum := "05994a42484321cfab36cd209f27f0187f27fdce5474bca705389dee125449fb", func := "loop.example/g00040/laws.FnExactOrderOk", spec := "fnExactOrderOk", unfollowed := true, recurses := true, apart := false }
def FnExactOrderOkSaid : Prop := fnExactOrderOkRow.holds Try.pinned (OpenSpec.ofChange fnExactOrderOkSpec)

/-- ITS FALSE NEIGHBOUR: 'it returns false'. Refute it at one input. -/
def fnExactOrderOkWrong : ChangeSpec := { name := "fnExactOrderOk", fn := fun _ => fun
  | [d] => { results := [.lit (.bool false)], args := [d] }
  | _ => none }
def FnExactOrderOkWrongFalsely : Prop := fnExactOrderOkRow.holds Try.pinned (OpenSpec.ofChange fnExactOrderOkWrong)

/-- 'laws.FnExactReceived': WHATEVER THE INPUT: true; the input reads as it did. -/
def fnExactReceivedSpec : ChangeSpec := { name := "fnExactReceived", fn := fun _ => fun
  | [d1, d2, d3] => { results := [.lit (.bool true)], args := [d1, d2, d3] }
  | _ => none }
def fnExactReceivedRow : OpenClaim := { program := "ytghphlnpginmhaa", sum := "05994a42484321cfab36cd209f27f0187f27fdce5474bca705389dee125449fb", func := "loop.example/g00040/laws.FnExactReceived", spec := "fnExactReceived", unfollowed := true, recurses := true, apart := false }
def FnExactReceivedSaid : Prop := fnExactReceivedRow.holds Try.pinned (OpenSpec.ofChange fnExactReceivedSpec)

/-- ITS FALSE NEIGHBOUR: 'it returns false'. Refute it at one input. -/
def fnExactReceivedWrong : ChangeSpec := { name := "fnExactReceived", fn := fun _ => fun
  | [d1, d2, d3] => { results := [.lit (.bool false)], args := [d1, d2, d3] }
  | _ => none }
def FnExactReceivedWrongFalsely : Prop := fnExactReceivedRow.holds Try.pinned (OpenSpec.ofChange fnExactReceivedWrong)

/-- 'laws.FnExactMatchBill': WHATEVER THE INPUT: true; the input reads as it did. -/
def fnExactMatchBillSpec : ChangeSpec := { name := "fnExactMatchBill", fn := fun _ => fun
  | [d1, d2, d3, d4] => { results := [.lit (.bool true)], args := [d1, d2, d3, d4] }
  | _ => none }
def fnExactMatchBillRow : OpenClaim := { program := "ytghphlnpginmhaa", sum := "05994a42484321cfab36cd209f27f0187f27fdce5474bca705389dee125449fb", func := "loop.example/g00040/laws.FnExactMatchBill", spec := "fnExactMatchBill", unfollowed := true, recurses := true, apart := false }
def FnExactMatchBillSaid : Prop := fnExactMatchBillRow.holds Try.pinned (OpenSpec.ofChange fnExactMatchBillSpec)

/-- ITS FALSE NEIGHBOUR: 'it returns false'. Refute it at one input. -/
def fnExactMatchBillWrong : ChangeSpec := { name := "fnExactMatchBill", fn := fun _ => fun
  | [d1, d2, d3, d4] => { results := [.lit (.bool false)], args := [d1, d2, d3, d4] }
  | _ => none }
def FnExactMatchBillWrongFalsely : Prop := fnExactMatchBillRow.holds Try.pinned (OpenSpec.ofChange fnExactMatchBillWrong)

/-- 'laws.FnExactEarlyPay': WHATEVER THE INPUT: true; the input reads as it did. -/
def fnExactEarlyPaySpec : ChangeSpec := { name := "fnExactEarlyPay", fn := fun _ => fun
  | [d1, d2, d3, d4, d5] => { results := [.lit (.bool true)], args := [d1, d2, d3, d4, d5] }
  | _ => none }
def fnExactEarlyPayRow : OpenClaim := { program := "ytghphlnpginmhaa", sum := "05994a42484321cfab36cd209f27f0187f27fdce5474bca705389dee125449fb", func := "loop.example/g00040/laws.FnExactEarlyPay", spec := "fnExactEarlyPay", unfollowed := true, recurses := true, apart := false }
def FnExactEarlyPaySaid : Prop := fnExactEarlyPayRow.holds Try.pinned (OpenSpec.ofChange fnExactEarlyPaySpec)

/-- ITS FALSE NEIGHBOUR: 'it returns false'. Refute it at one input. -/
def fnExactEarlyPayWrong : ChangeSpec := { name := "fnExactEarlyPay", fn := fun _ => fun
  | [d1, d2, d3, d4, d5] => { results := [.lit (.bool false)], args := [d1, d2, d3, d4, d5] }
  | _ => none }
def FnExactEarlyPayWrongFalsely : Prop := fnExactEarlyPayRow.holds Try.pinned (OpenSpec.ofChange fnExactEarlyPayWrong)

/- THE SECOND FORM. 'bulk': how many values and letters a reading holds, each counted each time it is reached (what is shared counts as often as it is met; a slice's spare places count too). A statement '..UptoSaid' is the law's where the arguments, and the package variables that the reading takes, are together of bulk at most 1048576: NARROWER than '..Said'. Prove '..Said' where nothing that the law and all that it calls make is longer than what came in: it says more and counts as full. Else prove '..UptoSaid'. A law counts once. -/
mutual
def uptoBulk {H : Type} : DataW H → Nat
  | .lit (.string bytes) => bytes.length + 1
  | .lit _ => 1
  | .nil => 1
  | .ptr d => uptoBulk d + 1
  | .slice elems spare => uptoBulkAll elems + uptoBulkAll spare + 1
  | .agg parts => uptoBulkAll parts + 1
  | .iface _ d => uptoBulk d + 1
  | .map entries => uptoBulkEntries entries + 1
  | .held _ => 1
def uptoBulkAll {H : Type} : List (DataW H) → Nat
  | [] => 0
  | d :: r => uptoBulk d + uptoBulkAll r
def uptoBulkEntries {H : Type} : List (Lit × DataW H) → Nat
  | [] => 0
  | x :: r => uptoBulkEntry x + uptoBulkEntries r
def uptoBulkEntry {H : Type} : Lit × DataW H → Nat
  | (.string bytes, d) => bytes.length + uptoBulk d + 1
  | (_, d) => uptoBulk d + 1
 end
def uptoSmall : (H : Type) → List (DataW H) → Bool := fun _ ds => decide (uptoBulkAll ds ≤ 1048576)
def OpenSpec.upto (s : _root_.Go.ChangeSpec) : _root_.Go.OpenSpec := { _root_.Go.OpenSpec.ofChange s with cond := some uptoSmall }

/-- 'laws.FnCheapest', WHERE WHAT IT READS IS OF BULK AT MOST 1048576: true; the input reads as it did. -/
def fnCheapestUptoRow : OpenClaim := { program := "ytghphlnpginmhaa", sum := "05994a42484321cfab36cd209f27f0187f27fdce5474bca705389dee125449fb", func := "loop.example/g00040/laws.FnCheapest", spec := "fnCheapest", unfollowed := true, recurses := true, apart := false, narrowed := true }
def FnCheapestUptoSaid : Prop := fnCheapestUptoRow.holds Try.pinned (OpenSpec.upto fnCheapestSpec)

/-- 'laws.FnPaidReceived', WHERE WHAT IT READS IS OF BULK AT MOST 1048576: true; the input reads as it did. -/
def fnPaidReceivedUptoRow : OpenClaim := { program := "ytghphlnpginmhaa", sum := "05994a42484321cfab36cd209f27f0187f27fdce5474bca705389dee125449fb", func := "loop.example/g00040/laws.FnPaidReceived", spec := "fnPaidReceived", unfollowed := true, recurses := true, apart := false, narrowed := true }
def FnPaidReceivedUptoSaid : Prop := fnPaidReceivedUptoRow.holds Try.pinned (OpenSpec.upto fnPaidReceivedSpec)

/-- 'laws.FnExactOfferOk', WHERE WHAT IT READS IS OF BULK AT MOST 1048576: true; the input reads as it did. -/
def fnExactOfferOkUptoRow : OpenClaim := { program := "ytghphlnpginmhaa", sum := "05994a42484321cfab36cd209f27f0187f27fdce5474bca705389dee125449fb", func := "loop.example/g00040/laws.FnExactOfferOk", spec := "fnExactOfferOk", apart := false, narrowed := true }
def FnExactOfferOkUptoSaid : Prop := fnExactOfferOkUptoRow.holds Try.pinned (OpenSpec.upto fnExactOfferOkSpec)

/-- 'laws.FnExactOfferPrice', WHERE WHAT IT READS IS OF BULK AT MOST 1048576: true; the input reads as it did. -/
def fnExactOfferPriceUptoRow : OpenClaim := { program := "ytghphlnpginmhaa", sum := "05994a42484321cfab36cd209f27f0187f27fdce5474bca705389dee125449fb", func := "loop.example/g00040/laws.FnExactOfferPrice", spec := "fnExactOfferPrice", apart := false, narrowed := true }
def FnExactOfferPriceUptoSaid : Prop := fnExactOfferPriceUptoRow.holds Try.pinned (OpenSpec.upto fnExactOfferPriceSpec)

/-- 'laws.FnExactBestOffer', WHERE WHAT IT READS IS OF BULK AT MOST 1048576: true; the input reads as it did. -/
def fnExactBestOfferUptoRow : OpenClaim := { program := "ytghphlnpginmhaa", sum := "05994a42484321cfab36cd209f27f0187f27fdce5474bca705389dee125449fb", func := "loop.example/g00040/laws.FnExactBestOffer", spec := "fnExactBestOffer", unfollowed := true, recurses := true, apart := false, narrowed := true }
def FnExactBestOfferUptoSaid : Prop := fnExactBestOfferUptoRow.holds Try.pinned (OpenSpec.upto fnExactBestOfferSpec)

/-- 'laws.FnExactOrderOk', WHERE WHAT IT READS IS OF BULK AT MOST 1048576: true; the input reads as it did. -/
def fnExactOrderOkUptoRow : OpenClaim := { program := "ytghphlnpginmhaa", sum := "05994a42484321cfab36cd209f27f0187f27fdce5474bca705389dee125449fb", func := "loop.example/g00040/laws.FnExactOrderOk", spec := "fnExactOrderOk", unfollowed := true, recurses := true, apart := false, narrowed := true }
def FnExactOrderOkUptoSaid : Prop := fnExactOrderOkUptoRow.holds Try.pinned (OpenSpec.upto fnExactOrderOkSpec)

/-- 'laws.FnExactReceived', WHERE WHAT IT READS IS OF BULK AT MOST 1048576: true; the input reads as it did. -/
def fnExactReceivedUptoRow : OpenClaim := { program := "ytghphlnpginmhaa", sum := "05994a42484321cfab36cd209f27f0187f27fdce5474bca705389dee125449fb", func := "loop.example/g00040/laws.FnExactReceived", spec := "fnExactReceived", unfollowed := true, recurses := true, apart := false, narrowed := true }
def FnExactReceivedUptoSaid : Prop := fnExactReceivedUptoRow.holds Try.pinned (OpenSpec.upto fnExactReceivedSpec)

/-- 'laws.FnExactMatchBill', WHERE WHAT IT READS IS OF BULK AT MOST 1048576: true; the input reads as it did. -/
def fnExactMatchBillUptoRow : OpenClaim := { program := "ytghphlnpginmhaa", sum := "05994a42484321cfab36cd209f27f0187f27fdce5474bca705389dee125449fb", func := "loop.example/g00040/laws.FnExactMatchBill", spec := "fnExactMatchBill", unfollowed := true, recurses := true, apart := false, narrowed := true }
def FnExactMatchBillUptoSaid : Prop := fnExactMatchBillUptoRow.holds Try.pinned (OpenSpec.upto fnExactMatchBillSpec)

/-- 'laws.FnExactEarlyPay', WHERE WHAT IT READS IS OF BULK AT MOST 1048576: true; the input reads as it did. -/
def fnExactEarlyPayUptoRow : OpenClaim := { program := "ytghphlnpginmhaa", sum := "05994a42484321cfab36cd209f27f0187f27fdce5474bca705389dee125449fb", func := "loop.example/g00040/laws.FnExactEarlyPay", spec := "fnExactEarlyPay", unfollowed := true, recurses := true, apart := false, narrowed := true }
def FnExactEarlyPayUptoSaid : Prop := fnExactEarlyPayUptoRow.holds Try.pinned (OpenSpec.upto fnExactEarlyPaySpec)

end Rows
end Go.Proofs.Ytghphlnpginmhaa
