/- Receipts that are drawn: l12DrawReceipts. -/
import Derived.Test.YtghphlnpginmhaaXp
import Derived.Test.YtghphlnpginmhaaRv
namespace Go.Proofs.Ytghphlnpginmhaa
open Go Go.ChangeShapes Go.WideShapes Go.ChangeAt Go.RowKit
set_option linter.unusedVariables false
set_option linter.unusedSimpArgs false

set_option maxRecDepth 20000 in
set_option maxHeartbeats 16000000 in
theorem drawRec_any (b g0 n oc0 : Nat) (co : Nat → OL3) (w : World) (hc : Cursor w b) (hg0 : g0 ≠ b) (hn : 1 ≤ n ∧ n ≤ 4) (ho : OrD co) (hrow : OLr w (some ⟨g0, 0, none⟩) n co) :
    Calls Try.prog 73 #[.pointer (some ⟨b, 0, none⟩), .slice (some ⟨g0, 0, none⟩) n oc0] w fun e w' => ∃ g k oc c, e = .returned (.slice (some ⟨g, 0, none⟩) k oc) ∧ k ≤ 25 ∧ DXRC2 b w w.heap.size g k oc c w' := by
  obtain ⟨iRC2, hiRC2, hzRC20, hzRC21, hzRC22⟩ := infoRC2
  have RR : Hid (DXRC2 b w w.heap.size w.heap.size 0 0 (fun _ => ⟨0, 0⟩) (w.alloc (.cells #[] 157 (0, 0)))) := DXRC2.start hc
  have HO : Hid (OrD co) := ho
  have HROW : Hid (OLr w (some ⟨g0, 0, none⟩) n co) := hrow
  have HG : Hid (g0 ≠ b) := hg0
  have hn4 : (n : Int) ≤ 4 := by omega
  have hn1 : (1 : Int) ≤ (n : Int) := by omega
  have HNB : Hid (1 ≤ n ∧ n ≤ 4) := hn
  clear hc ho hrow hg0 hn
  go_enter Try.func73, Try.ntmps73
  go_wp2
  go_loopw [5, 6] (fun v n' wr => ∃ (g k oc i : Nat) (c : Nat → RC2), v = .slice (some ⟨g, 0, none⟩) k oc ∧ n' = .int .i64 (i : Int) ∧ i ≤ n ∧ k ≤ 6 * i ∧ Hid (DXRC2 b w w.heap.size g k oc c wr)) (fun _ i _ => n - (intOf i).toNat)
  case atStart => exact ⟨_, 0, 0, 0, _, rfl, rfl, by omega, by omega, RR.out⟩
  case round =>
    obtain ⟨g, k, oc, i, c, rfl, rfl, hi, hk, HW⟩ := hrel
    obtain ⟨wo, rfl⟩ : ∃ x, x = wr := ⟨wr, rfl⟩
    clear RR
    by_cases hlt : i < n
    · have hlt2 : (i : Int) < (n : Int) := by omega
      have c0 := (HROW.out.turns HW.out.trn HG.out).cell hlt
      simp only [Nat.zero_add] at c0
      obtain ⟨_, e1, _⟩ := c0
      have hq := (HO.out i).2.1
      obtain ⟨Q, hQ⟩ : ∃ Q, (co i).qty = Q := ⟨_, rfl⟩
      rw [hQ] at e1 hq
      clear hQ
      go_wp2_with (go_at_call 59; refine (below_any b _ _ HW.out.cur).mono ?_; rintro e w2 ⟨x, rfl, x0, x1, _, m2⟩; obtain ⟨N, rfl, hN⟩ := nat_of (n := 4) x0 (x1 (by decide)); replace HW := hid (HW.out.moved m2); clear m2 x0 x1 e1)
      go_loopw [5, 7, 8] (fun v l n' wr => ∃ (g k oc q : Nat) (L : Int) (c : Nat → RC2), v = .slice (some ⟨g, 0, none⟩) k oc ∧ l = .int .i64 L ∧ n' = .int .i64 (q : Int) ∧ q ≤ 3 ∧ k + 2 * q ≤ 6 * i + 6 ∧ 0 ≤ L ∧ L ≤ 100 ∧ Hid (DXRC2 b w w.heap.size g k oc c wr)) (fun _ _ n' _ => (intOf n').toNat)
      case atStart => exact ⟨_, _, _, N, Q, _, rfl, rfl, rfl, by omega, by omega, by omega, by omega, HW⟩
      case round =>
        clear hk HW
        obtain ⟨g, k, oc, q, L, c, rfl, rfl, rfl, hq3, hkq, hL0, hL1, HW⟩ := hrel
        obtain ⟨wo, rfl⟩ : ∃ x, x = wr := ⟨wr, rfl⟩
        have hkb : (k : Int) ≤ 30 := by omega
        by_cases hq0 : 0 < q
        · have hq2 : (0 : Int) < (q : Int) := by omega
          have tk2 : True := trivial
          go_wp2_with (first
            | (go_at_call 59; refine (below_any b _ _ HW.out.cur).mono ?_; rintro e w2 ⟨y, rfl, y0, y1, _, m2⟩; have y2 := y1 (by omega); have R2 : Hid (DXRC2 b w w.heap.size g k oc c w2) := hid (HW.out.moved m2); clear m2 y1; rcases (show ¬ 0 < y ∨ 0 < y by omega) with hy | hy)
            | (at_builtin; clear tk2; go_loud (refine wpList_append_own_at _ rfl _ _ 37 rfl w.heap.size 157 iRC2 (.agg #[.int .i64 0, .int .i64 0]) 2 16 Try.underlying37 hiRC2 hzRC20 hzRC21 hzRC22 rfl (by decide) (.slice (some ⟨g, 0, none⟩) (k) oc) (k) (rowRC2 (c) (k)) rfl (R2.out.alloc _).own ⟨w2.heap.size, 0, none⟩ 1 1 [.int .i64 (i : Int), .int .i64 y] rfl rfl (ocells_at rfl) (fun u hu => by simp at hu; rcases hu with rfl | rfl <;> rfl) (by unfold maxLen; omega) (by omega) (own_base (R2.out.alloc _).own rfl) ?_); intro v9 w9 hown hgrow hnil hat; obtain ⟨g9, oc9, rfl, _⟩ := ownsRow_some hown (by omega); have R9 : Hid (DXRC2 b w w.heap.size g9 (k + 1) oc9 (addRC2 (c) (k) ⟨(i : Int), y⟩) w9) := (R2.out.alloc _).grow hgrow hown; clear hown hgrow hnil hat)
            | (go_at_call 74; refine (once_any b _ _ R9.out.cur).mono ?_; rintro e w10 ⟨x, rfl, m4⟩; have R10 := hid (R9.out.moved m4); clear m4; cases x)
            | (at_builtin; go_loud (refine wpList_append_own_at _ rfl _ _ 37 rfl w.heap.size 157 iRC2 (.agg #[.int .i64 0, .int .i64 0]) 2 16 Try.underlying37 hiRC2 hzRC20 hzRC21 hzRC22 rfl (by decide) (.slice (some ⟨g9, 0, none⟩) (k + 1) oc9) (k + 1) (rowRC2 (addRC2 (c) (k) ⟨(i : Int), y⟩) (k + 1)) rfl (R10.out.alloc _).own ⟨w10.heap.size, 0, none⟩ 1 1 [.int .i64 (i : Int), .int .i64 (-1)] rfl rfl (ocells_at rfl) (fun u hu => by simp at hu; rcases hu with rfl | rfl <;> rfl) (by unfold maxLen; omega) (by omega) (own_base (R10.out.alloc _).own rfl) ?_); intro v11 w11 hown hgrow hnil hat; obtain ⟨g11, oc11, rfl, _⟩ := ownsRow_some hown (by omega); have R11 : Hid (DXRC2 b w w.heap.size g11 (k + 1 + 1) oc11 (addRC2 (addRC2 (c) (k) ⟨(i : Int), y⟩) (k + 1) ⟨(i : Int), -1⟩) w11) := (R10.out.alloc _).grow hgrow hown; clear hown hgrow hnil hat))
          all_goals
            go_roundw
            case rel => exact ⟨_, _, _, q - 1, _, _, rfl, rfl, by rw [show ((q - 1 : Nat) : Int) = (q : Int) - 1 by omega], by omega, by omega, by omega, by omega, by first | exact R11 | exact R10⟩
            case measure => simp [intOf]; omega
        · obtain rfl : q = 0 := by omega
          go_wp2
          go_roundw
          case rel => exact ⟨_, _, _, i + 1, _, rfl, by rw [show ((i + 1 : Nat) : Int) = (i : Int) + 1 by omega], by omega, by omega, HW⟩
          case measure => simp [intOf]; omega
    · obtain rfl : i = n := by omega
      have hkb : (k : Int) ≤ 24 := by omega
      have tk1 : True := trivial
      go_wp2_with (first
        | (go_at_call 74; refine (once_any b _ _ HW.out.cur).mono ?_; rintro e w2 ⟨x, rfl, m4⟩; have R2 := hid (HW.out.moved m4); clear m4; cases x)
        | (go_at_call 59; clear tk1; refine (below_any b _ _ R2.out.cur).mono ?_; rintro e w3 ⟨x, rfl, x0, x1, _, m3⟩; have x2 := x1 (by omega); have R3 := hid (R2.out.moved m3); clear m3 x1)
        | (go_at_call 59; refine (below_any b _ _ R3.out.cur).mono ?_; rintro e w4 ⟨z, rfl, z0, z1, _, m4⟩; have z2 := z1 (by decide); have R4 := hid (R3.out.moved m4); clear m4 z1)
        | (go_at_call 75; refine (pick_any b _ [1000, -1000, 1000001, 0] _ _ _ (R4.out.alloc _).cur (IntRow.made R4.out.cur.lt _ _ _ rfl) rfl (by decide) (by decide)).mono ?_; rintro e w5 ⟨v, rfl, hv, m5⟩; have R5 := hid ((R4.out.alloc _).moved m5); clear m5 hv)
        | (at_builtin; go_loud (refine wpList_append_own_at _ rfl _ _ 37 rfl w.heap.size 157 iRC2 (.agg #[.int .i64 0, .int .i64 0]) 2 16 Try.underlying37 hiRC2 hzRC20 hzRC21 hzRC22 rfl (by decide) (.slice (some ⟨g, 0, none⟩) (k) oc) (k) (rowRC2 (c) (k)) rfl (R5.out.alloc _).own ⟨w5.heap.size, 0, none⟩ 1 1 [.int .i64 (x - z), .int .i64 v] rfl rfl (ocells_at rfl) (fun u hu => by simp at hu; rcases hu with rfl | rfl <;> rfl) (by unfold maxLen; omega) (by omega) (own_base (R5.out.alloc _).own rfl) ?_); intro v9 w9 hown hgrow hnil hat; obtain ⟨g9, oc9, rfl, _⟩ := ownsRow_some hown (by omega); have R9 : Hid (DXRC2 b w w.heap.size g9 (k + 1) oc9 (addRC2 (c) (k) ⟨x - z, v⟩) w9) := (R5.out.alloc _).grow hgrow hown; clear hown hgrow hnil hat))
      · go_returns
        first | exact ⟨_, _, _, _, rfl, by omega, R2.out⟩ | exact ⟨_, _, ⟨_, rfl⟩, by omega, _, R2.out⟩
      · go_returns
        first | exact ⟨_, _, _, _, rfl, by omega, R9.out⟩ | exact ⟨_, _, ⟨_, rfl⟩, by omega, _, R9.out⟩
end Go.Proofs.Ytghphlnpginmhaa
