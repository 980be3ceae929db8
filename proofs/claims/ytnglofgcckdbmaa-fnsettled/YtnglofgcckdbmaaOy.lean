/- Open items that are drawn: l13DrawOpen. -/
import Derived.Test.YtnglofgcckdbmaaOv
import Derived.Test.YtnglofgcckdbmaaXo
namespace Go.Proofs.Ytnglofgcckdbmaa
open Go Go.ChangeShapes Go.WideShapes Go.ChangeAt Go.RowKit
set_option linter.unusedVariables false
set_option linter.unusedSimpArgs false

set_option maxRecDepth 20000 in
set_option maxHeartbeats 8000000 in
theorem drawOpen_any (b N : Nat) (w : World) (hN : (N : Int) ≤ 12) (hc : Cursor w b) :
    Calls Try.prog 76 #[.pointer (some ⟨b, 0, none⟩), .int .i64 (N : Int)] w fun e w' => ∃ g oc c, e = .returned (.slice (some ⟨g, 0, none⟩) N oc) ∧ DXOI2 b w w.heap.size g N oc c w' := by
  obtain ⟨i0, hi, hz0, hz1, hz2⟩ := infoOI2
  have HW1 : Hid (DXOI2 b w w.heap.size w.heap.size 0 0 (fun _ => ⟨0, 0⟩) (w.alloc (.cells #[] 60 (0, 0)))) := DXOI2.start hc
  have hb := hc.lt
  clear hc
  go_enter Try.func76, Try.ntmps76
  go_wp2
  go_loopw [1, 5] (fun n v wr => ∃ (g k oc q : Nat) (c : Nat → OI2), v = .slice (some ⟨g, 0, none⟩) k oc ∧ n = .int .i64 (q : Int) ∧ k + q = N ∧ Hid (DXOI2 b w w.heap.size g k oc c wr)) (fun n _ _ => (intOf n).toNat)
  case atStart => exact ⟨_, 0, 0, N, _, rfl, rfl, by omega, HW1⟩
  case round =>
    obtain ⟨g, k, oc, q, c, rfl, rfl, hkq, HW⟩ := hrel
    obtain ⟨wo, rfl⟩ : ∃ x, x = wr := ⟨wr, rfl⟩
    have hk2 : (k : Int) ≤ 12 := by omega
    by_cases hq : 0 < q
    · have hq2 : (0 : Int) < (q : Int) := by omega
      have tk1 : True := trivial
      go_wp2_with (first
        | (go_at_call 49; clear tk1; refine (below_any b _ _ HW.out.cur).mono ?_; rintro e w2 ⟨x, rfl, x0, x1, _, m2⟩; have x2 := x1 (by decide); have R2 : Hid (DXOI2 b w w.heap.size g k oc c w2) := HW.out.moved m2; clear m2 x1)
        | (go_at_call 49; refine (below_any b _ _ R2.out.cur).mono ?_; rintro e w3 ⟨y, rfl, y0, y1, _, m3⟩; have y2 := y1 (by decide); have R3 : Hid (DXOI2 b w w.heap.size g k oc c w3) := R2.out.moved m3; clear m3 y1)
        | (at_builtin; go_loud (refine wpList_append_own_at _ rfl _ _ 61 rfl w.heap.size 60 i0 (.agg #[.int .i64 0, .int .i64 0]) 2 16 Try.underlying61 hi hz0 hz1 hz2 rfl (by decide) (.slice (some ⟨g, 0, none⟩) k oc) k (rowOI2 c k) rfl (R3.out.alloc _).own ⟨w3.heap.size, 0, none⟩ 1 1 [.int .i64 x, .int .i64 (1 + y)] rfl rfl (ocells_at rfl) (fun u hu => by simp at hu; rcases hu with rfl | rfl <;> rfl) (by unfold maxLen; omega) (by omega) (own_base (R3.out.alloc _).own rfl) ?_); intro v9 w9 hown hgrow hnil hat; obtain ⟨g9, oc9, rfl, _⟩ := ownsRow_some hown (by omega); have R9 : Hid (DXOI2 b w w.heap.size g9 (k + 1) oc9 (addOI2 c k ⟨x, 1 + y⟩) w9) := (R3.out.alloc _).grow hgrow hown; clear hown hgrow hnil hat))
      go_roundw
      case rel => exact ⟨g9, k + 1, oc9, q - 1, _, rfl, by rw [show ((q - 1 : Nat) : Int) = (q : Int) - 1 by omega], by omega, R9⟩
      case measure => simp [intOf]; omega
    · obtain rfl : q = 0 := by omega
      obtain rfl : k = N := by omega
      by_cases hk0 : k = 0
      · have hkd : decide ((0 : Int) < (k : Int)) = false := by simp [hk0]
        have hkl : ¬ (0 : Int) < (k : Int) := by omega
        clear hk0
        go_wp2_with (go_at_call 51; refine (once_any b _ _ HW.out.cur).mono ?_; rintro e w2 ⟨x, rfl, m2⟩; have R2 : Hid (DXOI2 b w w.heap.size g k oc c w2) := HW.out.moved m2; clear m2; cases x)
        all_goals
          go_returns
          exact ⟨g, oc, c, rfl, R2.out⟩
      have hkl : (0 : Int) < (k : Int) := by omega
      have tk1 : True := trivial
      have tk2 : True := trivial
      have tk3 : True := trivial
      go_wp2_with (first
        | (go_at_call 51; clear tk1; refine (once_any b _ _ HW.out.cur).mono ?_; rintro e w2 ⟨x, rfl, m2⟩; have R2 : Hid (DXOI2 b w w.heap.size g k oc c w2) := HW.out.moved m2; clear m2; cases x)
        | (go_at_call 49; refine (below_any b _ _ R2.out.cur).mono ?_; rintro e w3 ⟨y, rfl, y0, y1, _, m3⟩; obtain ⟨j, rfl, hj⟩ := nat_of y0 (y1 (by omega)); have hj2 : (j : Int) < (k : Int) := (by omega); have R3 : Hid (DXOI2 b w w.heap.size g k oc c w3) := R2.out.moved m3; clear m3 y1)
        | (go_at_call 51; clear tk2; refine (once_any b _ _ R3.out.cur).mono ?_; rintro e w4 ⟨x, rfl, m4⟩; have R4 : Hid (DXOI2 b w w.heap.size g k oc c w4) := R3.out.moved m4; clear m4; cases x; (have tkF : True := trivial); rotate_left; (have tkT : True := trivial); rotate_left)
        | (go_at_call 52; clear tkT; refine (pick_any b _ [-1, 40001] _ _ _ (R4.out.alloc _).cur (IntRow.made R4.out.cur.lt _ _ _ rfl) rfl (by decide) (by decide)).mono ?_; rintro e w5 ⟨v, rfl, hv, m5⟩; have R5 : Hid (DXOI2 b w w.heap.size g k oc c w5) := (R4.out.alloc _).moved m5; have c0 := R5.out.row.cell hj; simp only [Nat.zero_add] at c0; obtain ⟨e0, e1⟩ := c0; have f0 := R5.out.fr (j * 2); have f1 := R5.out.fr (j * 2 + 1); clear m5 hv)
        | (go_at_call 52; clear tkF; refine (pick_any b _ [0, -5, 100000000000, 100000000001] _ _ _ (R4.out.alloc _).cur (IntRow.made R4.out.cur.lt _ _ _ rfl) rfl (by decide) (by decide)).mono ?_; rintro e w5 ⟨v, rfl, hv, m5⟩; have R5 : Hid (DXOI2 b w w.heap.size g k oc c w5) := (R4.out.alloc _).moved m5; have c0 := R5.out.row.cell hj; simp only [Nat.zero_add] at c0; obtain ⟨e0, e1⟩ := c0; have f0 := R5.out.fr (j * 2); have f1 := R5.out.fr (j * 2 + 1); clear m5 hv))
      all_goals go_returns
      all_goals first
        | exact ⟨g, oc, c, rfl, R2.out⟩
        | exact ⟨g, oc, _, rfl, R5.out.put0 hj _⟩
        | exact ⟨g, oc, _, rfl, R5.out.put1 hj _⟩
end Go.Proofs.Ytnglofgcckdbmaa
