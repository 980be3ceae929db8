/- Orders that are drawn: l12DrawOrder. -/
import Derived.Test.YtghphlnpginmhaaOx
namespace Go.Proofs.Ytghphlnpginmhaa
open Go Go.ChangeShapes Go.WideShapes Go.ChangeAt Go.RowKit
set_option linter.unusedVariables false
set_option linter.unusedSimpArgs false

def OrD (c : Nat → OL3) : Prop := ∀ j, (c j).item.size ≤ 40 ∧ (1 ≤ (c j).qty ∧ (c j).qty ≤ 100) ∧ (0 ≤ (c j).price ∧ (c j).price ≤ 1999)
theorem OrD.add {c : Nat → OL3} (h : OrD c) (k : Nat) {s : ByteArray} {q p : Int} (hs : s.size ≤ 40) (hq : 1 ≤ q ∧ q ≤ 100) (hp : 0 ≤ p ∧ p ≤ 1999) : OrD (addOL3 c k ⟨s, q, p⟩) := fun j => by
  unfold addOL3; split
  · exact ⟨hs, hq, hp⟩
  · exact h j
set_option maxRecDepth 20000 in
set_option maxHeartbeats 8000000 in
theorem drawOrder_any (b : Nat) (w : World) (hc : Cursor w b) :
    Calls Try.prog 72 #[.pointer (some ⟨b, 0, none⟩)] w fun e w' => ∃ g n oc c, e = .returned (.slice (some ⟨g, 0, none⟩) n oc) ∧ 1 ≤ n ∧ n ≤ 4 ∧ OrD c ∧ DXOL3 b w w.heap.size g n oc c w' := by
  obtain ⟨iOL3, hiOL3, hzOL30, hzOL31, hzOL32⟩ := infoOL3
  have RR : Hid (DXOL3 b w w.heap.size w.heap.size 0 0 (fun _ => ⟨ByteArray.empty, 1, 0⟩) (w.alloc (.cells #[] 49 (0, 0)))) := DXOL3.start hc
  clear hc
  go_enter Try.func72, Try.ntmps72
  go_wp2_with (go_at_call 59; refine (below_any b _ _ RR.out.cur).mono ?_; rintro e w2 ⟨x, rfl, x0, x1, _, m2⟩; have x2 := x1 (by decide); replace RR := hid (RR.out.moved m2); clear m2 x1)
  obtain ⟨N, hN⟩ : ∃ N : Nat, 1 + x = (N : Int) := ⟨(1 + x).toNat, by omega⟩
  rw [hN]
  have hN4 : 1 ≤ N ∧ N ≤ 4 := by omega
  clear hN x0 x2
  go_loopw [3, 4] (fun v n wr => ∃ (g k oc q : Nat) (c : Nat → OL3), v = .slice (some ⟨g, 0, none⟩) k oc ∧ n = .int .i64 (q : Int) ∧ k + q = N ∧ Hid (OrD c ∧ DXOL3 b w w.heap.size g k oc c wr)) (fun _ n _ => (intOf n).toNat)
  case atStart => exact ⟨_, 0, 0, N, _, rfl, rfl, by omega, fun j => ⟨Nat.zero_le _, by simp, by simp⟩, RR.out⟩
  case round =>
    obtain ⟨g, k, oc, q, c, rfl, rfl, hkq, HW⟩ := hrel
    obtain ⟨wo, rfl⟩ : ∃ x, x = wr := ⟨wr, rfl⟩
    clear RR
    by_cases hq : 0 < q
    · have hq2 : (0 : Int) < (q : Int) := by omega
      have tk1 : True := trivial
      go_wp2_with (first
        | (go_at_call 120; refine (drawName_any b _ HW.out.2.cur).mono ?_; rintro e w2 ⟨⟨s, rfl, hs⟩, m2⟩; have HS : Hid (s.size ≤ 40) := hs; have R2 : Hid (DXOL3 b w w.heap.size g k oc c w2) := hid (HW.out.2.moved m2); clear m2 hs)
        | (go_at_call 59; clear tk1; refine (below_any b _ _ R2.out.cur).mono ?_; rintro e w3 ⟨x, rfl, x0, x1, _, m3⟩; have x2 := x1 (by decide); have R3 : Hid (DXOL3 b w w.heap.size g k oc c w3) := hid (R2.out.moved m3); clear m3 x1)
        | (go_at_call 59; refine (below_any b _ _ R3.out.cur).mono ?_; rintro e w4 ⟨y, rfl, y0, y1, _, m4⟩; have y2 := y1 (by decide); have R4 : Hid (DXOL3 b w w.heap.size g k oc c w4) := hid (R3.out.moved m4); clear m4 y1)
        | (at_builtin; go_loud (refine wpList_append_own_at _ rfl _ _ 36 rfl w.heap.size 49 iOL3 (.agg #[.string ByteArray.empty, .int .i64 0, .int .i64 0]) 3 32 Try.underlying36 hiOL3 hzOL30 hzOL31 hzOL32 rfl (by decide) (.slice (some ⟨g, 0, none⟩) (k) oc) (k) (rowOL3 (c) (k)) rfl (R4.out.alloc _).own ⟨w4.heap.size, 0, none⟩ 1 1 [.string s, .int .i64 (1 + x), .int .i64 y] rfl rfl (ocells_at rfl) (fun u hu => by simp at hu; rcases hu with rfl | rfl | rfl <;> rfl) (by unfold maxLen; omega) (by omega) (own_base (R4.out.alloc _).own rfl) ?_); intro v9 w9 hown hgrow hnil hat; obtain ⟨g9, oc9, rfl, _⟩ := ownsRow_some hown (by omega); have R9 : Hid (DXOL3 b w w.heap.size g9 (k + 1) oc9 (addOL3 (c) (k) ⟨s, 1 + x, y⟩) w9) := (R4.out.alloc _).grow hgrow hown; clear hown hgrow hnil hat))
      have HO : Hid (OrD (addOL3 c k ⟨s, 1 + x, y⟩)) := hid (HW.out.1.add k HS.out (by omega) (by omega))
      go_roundw
      case rel => exact ⟨g9, k + 1, oc9, q - 1, _, rfl, by rw [show ((q - 1 : Nat) : Int) = (q : Int) - 1 by omega], by omega, HO.out, R9.out⟩
      case measure => simp [intOf]; omega
    · obtain rfl : q = 0 := by omega
      go_wp2
      go_returns
      first | exact ⟨g, k, oc, c, rfl, by omega, by omega, HW.out.1, HW.out.2⟩ | exact ⟨g, k, ⟨oc, rfl⟩, by omega, by omega, c, HW.out.1, HW.out.2⟩ | exact ⟨g, k, oc, rfl, by omega, by omega, c, HW.out.1, HW.out.2⟩
end Go.Proofs.Ytghphlnpginmhaa
