/- What FnCredited draws, and the plain facts of its sum. -/
import Derived.Test.YtnglofgcckdbmaaCa
import Derived.Test.YtnglofgcckdbmaaXm
import Derived.Test.YtnglofgcckdbmaaXe
import Derived.Test.YtnglofgcckdbmaaXg
import Derived.Test.YtnglofgcckdbmaaXb
namespace Go.Proofs.Ytnglofgcckdbmaa
open Go.ChangeShapes Go.WideShapes Go.ChangeAt Go.RowKit
set_option linter.unusedVariables false
set_option linter.unusedSimpArgs false

theorem fur_none (d q : Int) (n : Bool) (hq : 1 ≤ q) : rnd d 0 q n 3 = d := by
  unfold rnd fur
  simp only [show (3 : Int) = 1 ↔ False by decide, show (3 : Int) = 2 ↔ False by decide, if_false, if_true]
  rw [show decide (q ≤ 2 * 0) = false from decide_eq_false (by omega)]
  simp
theorem md_zero {t q : Int} (ht : -100000000000 ≤ t ∧ t ≤ 100000000000) (hq : 1 ≤ q ∧ q ≤ 1000000) : mdV t 0 q 3 = 0 := by
  have e : dv (t * 0) q 3 = 0 := by
    rw [Int.mul_zero]; unfold dv
    rw [show cr 0 q = 0 by unfold cr; simp, fur_none _ _ _ hq.1]; simp
  have hok : MdOk t 0 q 3 := by unfold MdOk; omega
  rw [(md_in hok (by rw [e]; omega) (by rw [e]; omega)).2, e]
theorem md_all {t q : Int} (ht : -100000000000 ≤ t ∧ t ≤ 100000000000) (hq : 1 ≤ q ∧ q ≤ 1000000) : mdV t q q 3 = t := by
  have e : dv (t * q) q 3 = t := by
    unfold dv
    rw [show cr (t * q) q = 0 by unfold cr; split; (rw [← Int.neg_mul]; exact Int.mul_emod_left _ _); (exact Int.mul_emod_left _ _), fur_none _ _ _ hq.1]
    exact Int.mul_tdiv_cancel _ (by omega)
  have hok : MdOk t q q 3 := by unfold MdOk; omega
  rw [(md_in hok (by rw [e]; omega) (by rw [e]; omega)).2, e]
set_option maxRecDepth 20000 in
theorem big_f (ad : Option Addr) (len cap : Nat) (w : World) (h : (len : Int) ≤ 1048576) :
    Calls Try.prog 11 #[.slice ad len cap] w fun e w' => e = .returned (.bool false) ∧ w' = w := by
  have hd : decide ((1048576 : Int) < (len : Int)) = false := decide_eq_false (by omega)
  go_enter Try.func11, Try.ntmps11
  go_wp2
  go_returns
  exact ⟨rfl, rfl⟩
theorem ByteRow.bel {w w' : World} {ad : Option Addr} {len : Nat} (H : ByteRow w w.heap.size ad len) (t : Below w.heap.size w w') : ByteRow w' w.heap.size ad len := H.turns (Turns.of_below t)
theorem l_q {y : Int} {x : Int} (hx : 0 ≤ x ∧ x < 40) (h : y = 1 + x ∨ y ∈ [(0 : Int), 1000000, 1000001]) : 0 ≤ y ∧ y ≤ 1000001 := by simp at h; omega
/-- What DrawCreditNote leaves. -/
def DcP (w : World) (e : Ending) (w' : World) : Prop := ∃ t q b m : Int, e = .returned (.tuple #[.int .i64 t, .int .i64 q, .int .i64 b, .int .i64 m]) ∧ 0 ≤ q ∧ q ≤ 1000001 ∧ Below w.heap.size w w'
end Go.Proofs.Ytnglofgcckdbmaa

