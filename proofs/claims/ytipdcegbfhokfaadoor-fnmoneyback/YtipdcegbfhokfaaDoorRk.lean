/- The contract of the program's ReadMoney, at every text of at most 1048576 bytes and every number of places: it answers 'rqN' and 'rqB'. -/
import Derived.Test.YtipdcegbfhokfaaDoorRj
namespace Go.Proofs.YtipdcegbfhokfaaDoor
open Go.ChangeShapes Go.WideShapes Go.ChangeAt Go.RowKit
set_option linter.unusedVariables false
set_option linter.unusedSimpArgs false
open Go.Lib

theorem cell_q {w : World} {q : Nat} {a : Addr} {v : Value} (h : w.cell? a = some v) : (w.drewN q).cell? a = some v := h

def rqB (l : List UInt8) (P : Int) : Bool := if 0 ≤ P ∧ P ≤ 6 then rmB l P.toNat else false
def rqN (l : List UInt8) (P : Int) : Int := if 0 ≤ P ∧ P ≤ 6 then rmN l P.toNat else 0

theorem rq_ok {l : List UInt8} {P : Int} (h : 0 ≤ P ∧ P ≤ 6) : rqB l P = rmB l P.toNat ∧ rqN l P = rmN l P.toNat := ⟨if_pos h, if_pos h⟩
theorem rq_bad {l : List UInt8} {P : Int} (h : ¬ (0 ≤ P ∧ P ≤ 6)) : rqB l P = false ∧ rqN l P = 0 := ⟨if_neg h, if_neg h⟩

set_option maxRecDepth 20000 in
theorem implRead_any (s : ByteArray) (P m : Int) (w : World) (hs : (s.size : Int) ≤ 1048576) (hm : w.cell? ⟨0, 0, none⟩ = some (.int .i64 m)) :
    Calls Tryd.prog 7 #[.string s, .int .i64 P] w fun e w' => e = .returned (.tuple #[.int .i64 (rqN s.data.toList P), .bool (rqB s.data.toList P)]) ∧ Below w.heap.size w w' := by
  by_cases h : 0 ≤ P ∧ P ≤ 6
  · obtain ⟨e1, e2⟩ := @rq_ok s.data.toList P h
    rw [e1, e2]
    exact implRead_walk s P.toNat P m w hs (by omega) h.1 h.2 hm
  · obtain ⟨e1, e2⟩ := @rq_bad s.data.toList P h
    rw [e1, e2]
    clear e1 e2
    rcases (show P < 0 ∨ (0 ≤ P ∧ 6 < P) by omega) with g | ⟨g, g1⟩
    · clear h
      go_enter Tryd.func7, Tryd.ntmps7
      go_wp2_with (go_at_call 16; go_in)
      go_returns
      exact ⟨rfl, Below.refl _ _⟩
    · have hd : decide (P ≤ 6) = false := decide_eq_false (by omega)
      clear h
      go_enter Tryd.func7, Tryd.ntmps7
      go_wp2_with (go_at_call 16; go_in)
      go_returns
      exact ⟨rfl, Below.refl _ _⟩

end Go.Proofs.YtipdcegbfhokfaaDoor
