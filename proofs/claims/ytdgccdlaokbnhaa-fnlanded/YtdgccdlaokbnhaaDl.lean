/- DrawLanded. -/
import Derived.Test.YtdgccdlaokbnhaaLw
import Derived.Test.YtdgccdlaokbnhaaXo
import Derived.Test.YtdgccdlaokbnhaaXg
import Derived.Test.YtdgccdlaokbnhaaXb
import Derived.Test.YtdgccdlaokbnhaaNc
namespace Go.Proofs.Ytdgccdlaokbnhaa
open Go Go.ChangeShapes Go.WideShapes Go.ChangeAt Go.RowKit
set_option linter.unusedVariables false
set_option linter.unusedSimpArgs false

def DlP (w : World) (e : Ending) (w' : World) : Prop :=
  ∃ (g n oc : Nat) (c : Nat → LA2) (T b : Int), e = .returned (.tuple #[.slice (some ⟨g, 0, none⟩) n oc, .int .i64 T, .int .i64 b]) ∧ n ≤ 12 ∧ LAr w' (some ⟨g, 0, none⟩) n c ∧ Below w.heap.size w w'
set_option maxRecDepth 20000 in
set_option maxHeartbeats 8000000 in
theorem drawLanded_any (ad : Option Addr) (len cap : Nat) (w : World) (hl : (len : Int) ≤ 1048576) (hr : ByteRow w w.heap.size ad len) :
    Calls Try.prog 25 #[.slice ad len cap] w (DlP w) := by
  have HN : Hid (Calls Try.prog 51 #[.slice ad len cap] w fun e w' => e = .returned (.pointer (some ⟨w.heap.size, 0, none⟩)) ∧ Cursor w' w.heap.size ∧ Below w.heap.size w w') := new_any ad len cap w (by omega) hr
  obtain ⟨i0, hi, hz0, hz1, hz2⟩ := infoLA2
  clear hr
  go_enter Try.func25, Try.ntmps25
  go_wp2_with (first
    | (go_at_call 51; refine HN.out.mono ?_; rintro e w1 ⟨rfl, c1, b1⟩; have HB1 : Hid (Below w.heap.size w w1) := b1; have HW1 : Hid (DXLA2 w.heap.size w1 w1.heap.size w1.heap.size 0 0 (fun _ => ⟨0, 0⟩) (w1.alloc (.cells #[] 40 (0, 0)))) := DXLA2.start c1; clear c1 b1)
    | (go_at_call 56; refine (size_any _ _ _ _ _ hl (by omega)).mono ?_; rintro e wq ⟨s, rfl, s0, s1, ew⟩; replace ew := ew.symm; subst ew)
    | (go_at_call 55; refine (below_any w.heap.size _ _ HW1.out.cur).mono ?_; rintro e w2 ⟨x, rfl, x0, x1, _, m2⟩; obtain ⟨N, rfl, hN⟩ := nat_of (n := 12) x0 (by have := x1 (by omega); omega); have HW2 := hid (HW1.out.moved m2); clear m2 x0 x1))
  go_loopw [6, 7] (fun v n wr => ∃ (g k oc q : Nat) (c : Nat → LA2), v = .slice (some ⟨g, 0, none⟩) k oc ∧ n = .int .i64 (q : Int) ∧ k + q = N ∧ Hid (DXLA2 w.heap.size w1 w1.heap.size g k oc c wr)) (fun _ n _ => (intOf n).toNat)
  case atStart => exact ⟨_, 0, 0, N, _, rfl, rfl, by omega, HW2⟩
  case round =>
    obtain ⟨g, k, oc, q, c, rfl, rfl, hkq, HW⟩ := hrel
    have hk2 : (k : Int) ≤ 12 := by omega
    by_cases hq : 0 < q
    · have hq2 : (0 : Int) < (q : Int) := by omega
      have tk1 : True := trivial
      go_wp2_with (first
        | (go_at_call 55; clear tk1; refine (below_any w.heap.size _ _ HW.out.cur).mono ?_; rintro e w2 ⟨x, rfl, x0, x1, _, m2⟩; have x2 := x1 (by decide); have R2 := hid (HW.out.moved m2); clear m2 x1)
        | (go_at_call 55; refine (below_any w.heap.size _ _ R2.out.cur).mono ?_; rintro e w3 ⟨y, rfl, y0, y1, _, m3⟩; have y2 := y1 (by decide); have R3 := hid (R2.out.moved m3); clear m3 y1)
        | (at_builtin; go_loud (refine wpList_append_own_at _ rfl _ _ 24 rfl w1.heap.size 40 i0 (.agg #[.int .i64 0, .int .i64 0]) 2 16 Try.underlying24 hi hz0 hz1 hz2 rfl (by decide) (.slice (some ⟨g, 0, none⟩) k oc) k (rowLA2 c k) rfl (R3.out.alloc _).own ⟨w3.heap.size, 0, none⟩ 1 1 [.int .i64 (1 + x), .int .i64 y] rfl rfl (ocells_at rfl) (fun u hu => by simp at hu; rcases hu with rfl | rfl <;> rfl) (by unfold maxLen; omega) (by omega) (own_base (R3.out.alloc _).own rfl) ?_); intro v9 w9 hown hgrow hnil hat; obtain ⟨g9, oc9, rfl, _⟩ := ownsRow_some hown (by omega); have R9 : Hid (DXLA2 w.heap.size w1 w1.heap.size g9 (k + 1) oc9 (addLA2 c k ⟨1 + x, y⟩) w9) := (R3.out.alloc _).grow hgrow hown; clear hown hgrow hnil hat))
      go_roundw
      case rel => exact ⟨g9, k + 1, oc9, q - 1, _, rfl, by rw [show ((q - 1 : Nat) : Int) = (q : Int) - 1 by omega], by omega, R9⟩
      case measure => simp [intOf]; omega
    · obtain rfl : q = 0 := by omega
      obtain rfl : k = N := by omega
      have tkA : True := trivial
      have tkB : True := trivial
      have tkC : True := trivial
      by_cases hk0 : k = 0
      · have hkd : decide ((0 : Int) < (k : Int)) = false := by simp [hk0]
        have hkl : ¬ (0 : Int) < (k : Int) := by omega
        clear hk0
        go_wp2_with (first
        | (go_at_call 57; refine (once_any w.heap.size _ _ HW.out.cur).mono ?_; rintro e w2 ⟨x, rfl, m2⟩; have RZ := hid (HW.out.moved m2); clear m2; cases x)
        | (go_at_call 55; clear tkA; refine (below_any w.heap.size _ _ RZ.out.cur).mono ?_; rintro e w6 ⟨x6, rfl, _, _, _, m6⟩; have R6 := hid (RZ.out.moved m6); clear m6)
        | (go_at_call 75; clear tkB; refine (spoil_any w.heap.size _ _ [-1, 100000000000, 100000000001] _ _ _ (R6.out.alloc _).cur (IntRow.made R6.out.cur.lt _ _ _ rfl) rfl (by decide) (by decide)).mono ?_; rintro e w7 ⟨T, rfl, _, m7⟩; have R7 := hid ((R6.out.alloc _).moved m7); clear m7)
        | (go_at_call 55; clear tkC; refine (below_any w.heap.size _ _ R7.out.cur).mono ?_; rintro e w8 ⟨x8, rfl, x80, x81, _, m8⟩; have x82 := x81 (by decide); have R8 := hid (R7.out.moved m8); clear m8 x81)
        | (go_at_call 75; refine (spoil_any w.heap.size _ _ [0, 4] _ _ _ (R8.out.alloc _).cur (IntRow.made R8.out.cur.lt _ _ _ rfl) rfl (by decide) (by decide)).mono ?_; rintro e w9 ⟨b, rfl, _, m9⟩; have R9 := hid ((R8.out.alloc _).moved m9); have HF : Hid (LAr w9 (some ⟨g, 0, none⟩) k _ ∧ Below w.heap.size w w9) := hid ⟨R9.out.row, moved_bel rfl HB1.out R9.out.mv⟩; clear m9))
        all_goals
          go_returns
          exact ⟨g, _, oc, _, T, b, rfl, by omega, HF.out.1, HF.out.2⟩
      have hkl : (0 : Int) < (k : Int) := by omega
      have hj : 0 < k := by omega
      have tkD : True := trivial
      go_wp2_with (first
        | (go_at_call 57; refine (once_any w.heap.size _ _ HW.out.cur).mono ?_; rintro e w2 ⟨x, rfl, m2⟩; have R2 := hid (HW.out.moved m2); clear m2; cases x; (have RZ := R2); rotate_left; (have tkT : True := trivial); rotate_left)
        | (go_at_call 58; clear tkT; refine (pick_any w.heap.size _ [0, 1, 1000000] _ _ _ (R2.out.alloc _).cur (IntRow.made R2.out.cur.lt _ _ _ rfl) rfl (by decide) (by decide)).mono ?_; rintro e w4 ⟨v, rfl, _, m4⟩; have R4 := hid ((R2.out.alloc _).moved m4); clear m4)
        | (go_at_call 58; clear tkD; refine (pick_any w.heap.size _ [-1, 10000001, 100000000000, 0] _ _ _ (R4.out.alloc _).cur (IntRow.made R4.out.cur.lt _ _ _ rfl) rfl (by decide) (by decide)).mono ?_; rintro e w5 ⟨u, rfl, _, m5⟩; have R5 := hid ((R4.out.alloc _).moved m5); have c0 := R5.out.row.cell hj; simp only [Nat.zero_add, Nat.zero_mul] at c0; obtain ⟨e0, e1⟩ := c0; have f0 := R5.out.fr 0; have f1 := R5.out.fr 1; have RZ : Hid (DXLA2 w.heap.size w1 w1.heap.size g k oc _ ((w5.setCell ⟨g, 0, none⟩ (.int .i64 v)).setCell ⟨g, 1, none⟩ (.int .i64 u))) := hid ((R5.out.put0 hj v).put1 hj u); clear m5)
        | (go_at_call 55; clear tkA; refine (below_any w.heap.size _ _ RZ.out.cur).mono ?_; rintro e w6 ⟨x6, rfl, _, _, _, m6⟩; have R6 := hid (RZ.out.moved m6); clear m6)
        | (go_at_call 75; clear tkB; refine (spoil_any w.heap.size _ _ [-1, 100000000000, 100000000001] _ _ _ (R6.out.alloc _).cur (IntRow.made R6.out.cur.lt _ _ _ rfl) rfl (by decide) (by decide)).mono ?_; rintro e w7 ⟨T, rfl, _, m7⟩; have R7 := hid ((R6.out.alloc _).moved m7); clear m7)
        | (go_at_call 55; clear tkC; refine (below_any w.heap.size _ _ R7.out.cur).mono ?_; rintro e w8 ⟨x8, rfl, x80, x81, _, m8⟩; have x82 := x81 (by decide); have R8 := hid (R7.out.moved m8); clear m8 x81)
        | (go_at_call 75; refine (spoil_any w.heap.size _ _ [0, 4] _ _ _ (R8.out.alloc _).cur (IntRow.made R8.out.cur.lt _ _ _ rfl) rfl (by decide) (by decide)).mono ?_; rintro e w9 ⟨b, rfl, _, m9⟩; have R9 := hid ((R8.out.alloc _).moved m9); have HF : Hid (LAr w9 (some ⟨g, 0, none⟩) k _ ∧ Below w.heap.size w w9) := hid ⟨R9.out.row, moved_bel rfl HB1.out R9.out.mv⟩; clear m9))
      all_goals go_returns
      all_goals exact ⟨g, _, oc, _, T, b, rfl, by omega, HF.out.1, HF.out.2⟩
end Go.Proofs.Ytdgccdlaokbnhaa
