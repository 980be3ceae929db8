/- LotsOf of both sides. -/
import Derived.Test.YtmbdeafpfdeigaaQs
namespace Go.Proofs.Ytmbdeafpfdeigaa
open Go Go.ChangeShapes Go.WideShapes Go.ChangeAt Go.RowKit
set_option linter.unusedVariables false
set_option linter.unusedSimpArgs false

theorem specLotsOf_any (l : LT) (ad : Option Addr) (n cap : Nat) (m : Nat → Int) (w : World) (hn : (n : Int) ≤ 1048576) (hr : IR w ad n m) :
    Calls Try.prog 34 #[l.val, .slice ad n cap] w fun e w' => ∃ a cp, e = .returned (.tuple #[.slice a (loM l m n) cp, .bool (loB l m n)]) ∧ OwnI w' w.heap.size a (loM l m n) (ordF l m n) ∧ Below w.heap.size w w' := by
  obtain ⟨ki, sz, su, ho⟩ := l
  unfold LT.val
  cases hL : ltB ⟨ki, sz, su, ho⟩
  · exact specLotsF1_any ki sz su ho ad n cap m w hn hr hL
  · cases hN : nqB m n
    · exact specLotsF2_any ki sz su ho ad n cap m w hn hr hL hN
    · have hk := (ltB_p hL).1
      have h : ki = 1 ∨ ki = 2 ∨ ki = 3 ∨ ki = 4 := by
        have h1 : 1 ≤ ki ∧ ki ≤ 4 := hk
        omega
      rcases h with rfl | rfl | rfl | rfl
      · exact specLots1_any sz su ho ad n cap m w hL hN hr
      · exact specLots2_any sz su ho ad n cap m w hL hN hr
      · exact specLots3_any sz su ho ad n cap m w hL hN hr
      · exact specLots4_any sz su ho ad n cap m w hn hr hL hN (fun W h => l18Least_any 4 sz su ho ad n cap m W hL hN h)
end Go.Proofs.Ytmbdeafpfdeigaa
