/- What FnCredited draws, and the plain facts of its sum. -/
import Derived.Test.YtlhgmdmbjpaakaaCa
import Derived.Test.YtlhgmdmbjpaakaaXm
import Derived.Test.YtlhgmdmbjpaakaaXe
import Derived.Test.YtlhgmdmbjpaakaaXg
import Derived.Test.YtlhgmdmbjpaakaaXb
namespace Go.Proofs.Ytlhgmdmbjpaakaa
open Go.ChangeShapes Go.WideShapes Go.ChangeAt Go.RowKit
set_option linter.unusedVariables false
set_option linter.unusedSimpArgs false

theorem fur_none (d q : Int) (n : Bool) (hq : 1 ≤ q) : rnd d 0 q n 3 = d := by
  unfold rnd fur
  simp only [show (3 : Int) = 1 ↔ False by decide, show (3 : Int) = 2 ↔ False by decide, if_false, if_true]
  rw [show decide (q ≤ 2 * 0) = false from decide_eq_false (by omega)]
  simp
theorem md_zero {t q : Int} (ht : -100000000000 ≤ t ∧ t ≤ 100000000000) (hq : 1 ≤ q ∧ q ≤ 1000000) : mdV t 0 q 3 = 0 := by
  have e : dv (t * 0) q 3 = 0 := by
    rw [Int.mul_zero]; unfold dv
    rw [show cr 0 q = 0 by unfold cr; simp, fur_none _ _ _ hq.1]; simp
  have hok : MdOk t 0 q 3 := by unfold MdOk; omega
  rw [(md_in hok (by rw [e]; omega) (by rw [e]; omega)).2, e]
theorem md_all {t q : Int} (ht : -100000000000 ≤ t ∧ t ≤ 100000000000) (hq : 1 ≤ q ∧ q ≤ 1000000) : mdV t q q 3 = t := by
  have e : dv (t * q) q 3 = t := by
    unfold dv
    rw [show cr (t * q) q = 0 by unfold cr; split; (rw [← Int.neg_mul]; exact Int.mul_emod_left _ _); (exact Int.mul_emod_left _ _), fur_none _ _ _ hq.1]
    exact Int.mul_tdiv_cancel _ (by omega)
  have hok : MdOk t q q 3 := by unfold MdOk; omega
  rw [(md_in hok (by rw [e]; omega) (by rw [e]; omega)).2, e]
set_option maxRecDepth 20000 in
theorem big_f (ad : Option Addr) (len cap : Nat) (w : World) (h : (len : Int) ≤ 1048576) :
    Calls Try.prog 13 #[.slice ad len cap] w fun e w' => e = .returned (.bool false) ∧ w' = w := by
  have hd : decide ((1048576 : Int) < (len : Int)) = false := decide_eq_false (by omega)
  go_enter Try.func13, Try.ntmps13
  go_wp2
  go_returns
  exact ⟨rfl, rfl⟩
theorem ByteRow.bel {w w' : World} {ad : Option Addr} {len : Nat} (H : ByteRow w w.heap.size ad len) (t : Below w.heap.size w w') : ByteRow w' w.heap.size ad len := H.turns (Turns.of_below t)
set_option maxRecDepth 20000 in
theorem at_any (b : Nat) (ad : Option Addr) (len cap i : Nat) (w : World) (hl : (len : Int) ≤ 1048576) (hi : (i : Int) ≤ 1048576) (hr : ByteRow w b ad len) :
    Calls Try.prog 17 #[.slice ad len cap, .int .i64 (i : Int)] w fun e w' => ∃ x : Int, e = .returned (.int .i64 x) ∧ 0 ≤ x ∧ x ≤ 255 ∧ w' = w := by
  by_cases hlt : i < len
  · rcases hr with h | ⟨k, off, rfl, hb, hk, hcc⟩
    · omega
    · obtain ⟨c, c0, c1, hcell⟩ := hcc i hlt
      have hlt2 : (i : Int) < (len : Int) := by omega
      have HCC := hid hcc
      clear hcc
      go_enter Try.func17, Try.ntmps17
      go_wp2
      go_returns
      exact ⟨_, rfl, by first | exact c0 | omega, by first | exact c1 | omega, rfl⟩
  · have hlt2 : ¬ (i : Int) < (len : Int) := by omega
    go_enter Try.func17, Try.ntmps17
    go_wp2
    go_returns
    exact ⟨0, rfl, by omega, by omega, rfl⟩
theorem l_q {y : Int} {x : Int} (hx : 0 ≤ x ∧ x < 40) (h : y = 1 + x ∨ y ∈ [(0 : Int), 1000000, 1000001]) : 0 ≤ y ∧ y ≤ 1000001 := by simp at h; omega
/-- What DrawCreditNote leaves. -/
def DcP (w : World) (e : Ending) (w' : World) : Prop := ∃ t q b m : Int, e = .returned (.tuple #[.int .i64 t, .int .i64 q, .int .i64 b, .int .i64 m]) ∧ 0 ≤ q ∧ q ≤ 1000001 ∧ Below w.heap.size w w'
set_option maxRecDepth 20000 in
set_option maxHeartbeats 8000000 in
theorem drawCredit_any (ad : Option Addr) (len cap : Nat) (w : World) (hl : (len : Int) ≤ 1048576) (hr : ByteRow w w.heap.size ad len) :
    Calls Try.prog 15 #[.slice ad len cap] w (DcP w) := by
  have HN : Hid (Calls Try.prog 50 #[.slice ad len cap] w fun e w' => e = .returned (.pointer (some ⟨w.heap.size, 0, none⟩)) ∧ Cursor w' w.heap.size ∧ Below w.heap.size w w') := new_any ad len cap w (by omega) hr
  clear hr
  have tok1 : True := trivial
  go_enter Try.func15, Try.ntmps15
  go_wp2_with (first
    | (go_at_call 50; refine HN.out.mono ?_; rintro e w1 ⟨rfl, c1, b1⟩; have M : Hid (Moved w.heap.size w1 w1) := Moved.refl c1; have HB1 : Hid (Below w.heap.size w w1) := b1; clear c1 b1)
    | (go_at_call 52; refine (below_any w.heap.size _ _ M.out.1).mono ?_; rintro e w2 ⟨x, rfl, x0, x1, x2, m2⟩; replace M : Hid (Moved w.heap.size w1 w2) := M.out.trans m2; clear m2)
    | (go_at_call 51; clear tok1; refine (spoil_any w.heap.size _ _ [0, 1000000, 1000001] _ _ _ (M.out.alloc _).1 (IntRow.made M.out.1.lt _ _ _ rfl) rfl (by decide) (by decide)).mono ?_; rintro e w3 ⟨q, rfl, hq, m3⟩; replace M : Hid (Moved w.heap.size w1 w3) := (M.out.alloc _).trans m3; have hq2 := l_q ⟨x0, x1 (by decide)⟩ hq; clear m3 hq x0 x1 x2)
    | (go_at_call 51; refine (spoil_any w.heap.size _ _ [-1] _ _ _ (M.out.alloc _).1 (IntRow.made M.out.1.lt _ _ _ rfl) rfl (by decide) (by decide)).mono ?_; rintro e w4 ⟨b, rfl, hb, m4⟩; replace M : Hid (Moved w.heap.size w1 w4) := (M.out.alloc _).trans m4; clear m4 hb)
    | (go_at_call 54; refine (dAmount_any w.heap.size _ M.out.1).mono ?_; rintro e w5 ⟨t, rfl, t0, t1, m5⟩; replace M : Hid (Moved w.heap.size w1 w5) := M.out.trans m5; clear m5)
    | (go_at_call 53; refine (dBad_any w.heap.size _ _ M.out.1).mono ?_; rintro e w6 ⟨u, rfl, hu, m6⟩; replace M : Hid (Moved w.heap.size w1 w6) := M.out.trans m6; clear m6 hu))
  go_returns
  exact ⟨_, _, _, _, rfl, hq2.1, hq2.2, moved_below HB1.out M.out⟩
end Go.Proofs.Ytlhgmdmbjpaakaa
