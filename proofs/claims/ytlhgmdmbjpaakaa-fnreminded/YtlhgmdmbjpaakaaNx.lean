/- What FnReminded draws: DrawRemind. -/
import Derived.Test.YtlhgmdmbjpaakaaNw
import Derived.Test.YtlhgmdmbjpaakaaXo
import Derived.Test.YtlhgmdmbjpaakaaCr
namespace Go.Proofs.Ytlhgmdmbjpaakaa
open Go Go.ChangeShapes Go.WideShapes Go.ChangeAt Go.RowKit
set_option linter.unusedVariables false
set_option linter.unusedSimpArgs false

/-- What DrawRemind leaves. -/
def DrP (w : World) (e : Ending) (w' : World) : Prop := ∃ (g n oc : Nat) (c : Nat → DN3) (du to_ lv am : Int), e = .returned (.tuple #[.slice (some ⟨g, 0, none⟩) n oc, .int .i64 du, .int .i64 to_, .int .i64 lv, .int .i64 am]) ∧ (n : Int) ≤ 4 ∧ DNr w' (some ⟨g, 0, none⟩) n c ∧ Below w.heap.size w w'
set_option maxRecDepth 20000 in
set_option maxHeartbeats 16000000 in
theorem drawRemind_any (ad : Option Addr) (len cap : Nat) (w : World) (hl : (len : Int) ≤ 1048576) (hr : ByteRow w w.heap.size ad len) :
    Calls Try.prog 23 #[.slice ad len cap] w (DrP w) := by
  obtain ⟨i0, hi, hz0, hz1, hz2⟩ := infoDN3
  have HN : Hid (Calls Try.prog 50 #[.slice ad len cap] w fun e w' => e = .returned (.pointer (some ⟨w.heap.size, 0, none⟩)) ∧ Cursor w' w.heap.size ∧ Below w.heap.size w w') := new_any ad len cap w (by omega) hr
  clear hr
  have tok1 : True := trivial
  go_enter Try.func23, Try.ntmps23
  go_wp2_with (first
    | (go_at_call 50; refine HN.out.mono ?_; rintro e w1 ⟨rfl, c1, b1⟩; have RR : Hid (DWDN3 w.heap.size w.heap.size w1 w1.heap.size w1.heap.size 0 0 (fun _ => ⟨0, 0, 0⟩) (w1.alloc (.cells #[] 43 (0, 0)))) := DWDN3.start c1; have HB1 : Hid (Below w.heap.size w w1) := b1; clear c1 b1)
    | (go_at_call 52; clear tok1; refine (below_any w.heap.size _ _ RR.out.cur).mono ?_; rintro e w2 ⟨D, rfl, D0, x1, _, m2⟩; have D1 := x1 (by decide); replace RR := hid (RR.out.moved m2); clear m2 x1)
    | (go_at_call 52; refine (below_any w.heap.size _ _ RR.out.cur).mono ?_; rintro e w3 ⟨x, rfl, x0, x1, _, m3⟩; obtain ⟨N, rfl, hN⟩ := nat_of (n := 5) x0 (x1 (by decide)); replace RR := hid (RR.out.moved m3); clear m3 x0 x1))
  clear HN
  go_loopw [8, 9, 10] (fun v d n wr => ∃ (g k oc q : Nat) (D : Int) (c : Nat → DN3), v = .slice (some ⟨g, 0, none⟩) k oc ∧ d = .int .i64 D ∧ n = .int .i64 (q : Int) ∧ k + q ≤ 4 ∧ 0 ≤ D ∧ D ≤ 10 + 20 * (k : Int) ∧ Hid (DWDN3 w.heap.size w.heap.size w1 w1.heap.size g k oc c wr)) (fun _ _ n _ => (intOf n).toNat)
  case atStart => exact ⟨_, 0, 0, N, D, _, rfl, rfl, rfl, by omega, by omega, by omega, RR⟩
  case round =>
    obtain ⟨g, k, oc, q, D, c, rfl, rfl, rfl, hkq, hD0, hD1, HW⟩ := hrel
    obtain ⟨wo, rfl⟩ : ∃ x, x = wr := ⟨wr, rfl⟩
    have hk2 : (k : Int) ≤ 4 := by omega
    clear RR D0 D1
    by_cases hq : 0 < q
    · have hq2 : (0 : Int) < (q : Int) := by omega
      have tk1 : True := trivial
      have tk2 : True := trivial
      go_wp2_with (first
        | (go_at_call 52; clear tk1; refine (below_any w.heap.size _ _ HW.out.cur).mono ?_; rintro e w2 ⟨x, rfl, x0, x1, _, m2⟩; have x2 := x1 (by decide); have R2 : Hid (DWDN3 w.heap.size w.heap.size w1 w1.heap.size g k oc c w2) := HW.out.moved m2; clear m2 x1)
        | (go_at_call 52; clear tk2; refine (below_any w.heap.size _ _ R2.out.cur).mono ?_; rintro e w3 ⟨y, rfl, y0, y1, _, m3⟩; have y2 := y1 (by decide); have R3 : Hid (DWDN3 w.heap.size w.heap.size w1 w1.heap.size g k oc c w3) := R2.out.moved m3; clear m3 y1)
        | (at_builtin; go_loud (refine wpList_append_own_at _ rfl _ _ 44 rfl w1.heap.size 43 i0 (.agg #[.int .i64 0, .int .i64 0, .int .i64 0]) 3 24 Try.underlying44 hi hz0 hz1 hz2 rfl (by decide) (.slice (some ⟨g, 0, none⟩) k oc) k (rowDN3 c k) rfl (R3.out.alloc _).own ⟨w3.heap.size, 0, none⟩ 1 1 [.int .i64 D, .int .i64 x, .int .i64 y] rfl rfl (ocells_at rfl) (fun u hu => by simp at hu; rcases hu with rfl | rfl | rfl <;> rfl) (by unfold maxLen; omega) (by omega) (own_base (R3.out.alloc _).own rfl) ?_); intro v9 w9 hown hgrow hnil hat; obtain ⟨g9, oc9, rfl, _⟩ := ownsRow_some hown (by omega); have R9 : Hid (DWDN3 w.heap.size w.heap.size w1 w1.heap.size g9 (k + 1) oc9 (addDN3 c k ⟨D, x, y⟩) w9) := (R3.out.alloc _).grow hgrow hown; clear hown hgrow hnil hat)
        | (go_at_call 52; refine (below_any w.heap.size _ _ R9.out.cur).mono ?_; rintro e w4 ⟨z, rfl, z0, z1, _, m4⟩; have z2 := z1 (by decide); have R10 : Hid (DWDN3 w.heap.size w.heap.size w1 w1.heap.size g9 (k + 1) oc9 (addDN3 c k ⟨D, x, y⟩) w4) := R9.out.moved m4; clear m4 z1))
      go_roundw
      case rel => exact ⟨g9, k + 1, oc9, q - 1, D + 1 + z, _, rfl, rfl, by rw [show ((q - 1 : Nat) : Int) = (q : Int) - 1 by omega], by omega, by omega, by omega, R10⟩
      case measure => simp [intOf]; omega
    · obtain rfl : q = 0 := by omega
      have RR := HW
      have tkS : True := trivial
      by_cases hk0 : k = 0
      · have hkl : ¬ (0 : Int) < (k : Int) := by omega
        clear hk0
        go_wp2_with (first
        | (go_at_call 71; refine (once_any w.heap.size _ _ RR.out.cur).mono ?_; rintro e w4 ⟨x, rfl, m4⟩; replace RR := hid (RR.out.moved m4); clear m4; cases x)
        | (go_at_call 52; refine (below_any w.heap.size _ _ RR.out.cur).mono ?_; rintro e w7 ⟨x, rfl, x0, x1, _, m7⟩; have x2 := x1 (by omega); replace RR := hid (RR.out.moved m7); clear m7 x1)
        | (go_at_call 73; refine (badDay_any w.heap.size _ _ RR.out.cur).mono ?_; rintro e w8 ⟨y, rfl, hy, m8⟩; replace RR := hid (RR.out.moved m8); clear m8 hy)
        | (go_at_call 51; clear tkS; refine (spoil_any w.heap.size _ _ [-1, 9] _ _ _ (RR.out.alloc _).cur (IntRow.made RR.out.cur.lt _ _ _ rfl) rfl (by decide) (by decide)).mono ?_; rintro e w8 ⟨y, rfl, hy, m8⟩; replace RR := hid ((RR.out.alloc _).moved m8); clear m8 hy)
        | (go_at_call 51; refine (spoil_any w.heap.size _ _ [-1, 100000000000, 100000000001] _ _ _ (RR.out.alloc _).cur (IntRow.made RR.out.cur.lt _ _ _ rfl) rfl (by decide) (by decide)).mono ?_; rintro e w8 ⟨y, rfl, hy, m8⟩; replace RR := hid ((RR.out.alloc _).moved m8); clear m8 hy))
        all_goals
          go_returns
          exact ⟨_, _, _, _, _, _, _, _, rfl, by omega, RR.out.row, HB1.out.trans RR.out.bel⟩
      have hkl : (0 : Int) < (k : Int) := by omega
      go_wp2_with (first
        | (go_at_call 71; refine (once_any w.heap.size _ _ RR.out.cur).mono ?_; rintro e w4 ⟨x, rfl, m4⟩; replace RR := hid (RR.out.moved m4); clear m4; cases x; rotate_left; (have tkJ : True := trivial); (have tkY : True := trivial); rotate_left)
        | (go_at_call 52; clear tkJ; refine (below_any w.heap.size _ _ RR.out.cur).mono ?_; rintro e w7 ⟨x, rfl, x0, x1, _, m7⟩; obtain ⟨j, rfl, hj⟩ := nat_of x0 (x1 (by omega)); have hj2 : (j : Int) < (k : Int) := (by omega); replace RR := hid (RR.out.moved m7); clear m7 x1)
        | (go_at_call 52; clear tkY; refine (below_any w.heap.size _ _ RR.out.cur).mono ?_; rintro e w7 ⟨x, rfl, x0, x1, _, m7⟩; replace RR := hid (RR.out.moved m7); rcases (show x = 0 ∨ x = 1 ∨ x = 2 by have := x1 (by decide); omega) with rfl | rfl | rfl; (have tk0 : True := trivial); rotate_left; (have tk1 : True := trivial); rotate_left; (have tk2 : True := trivial); rotate_left; all_goals clear m7 x1 x0)
        | (go_at_call 72; clear tk0; refine (pick_any w.heap.size _ [-1, 1000, 1001, 0] _ _ _ (RR.out.alloc _).cur (IntRow.made RR.out.cur.lt _ _ _ rfl) rfl (by decide) (by decide)).mono ?_; rintro e w5 ⟨v, rfl, hv, m5⟩; replace RR := hid ((RR.out.alloc _).moved m5); have c0 := RR.out.row.cell hj; simp only [Nat.zero_add] at c0; obtain ⟨e0, e1, e2⟩ := c0; have f0 := RR.out.fr (j * 3); have f1 := RR.out.fr (j * 3 + 1); have f2 := RR.out.fr (j * 3 + 2); replace RR := hid (RR.out.put0 hj v); clear m5 hv)
        | (go_at_call 72; clear tk1; refine (pick_any w.heap.size _ [-1, 100000000000, 100000000001] _ _ _ (RR.out.alloc _).cur (IntRow.made RR.out.cur.lt _ _ _ rfl) rfl (by decide) (by decide)).mono ?_; rintro e w5 ⟨v, rfl, hv, m5⟩; replace RR := hid ((RR.out.alloc _).moved m5); have c0 := RR.out.row.cell hj; simp only [Nat.zero_add] at c0; obtain ⟨e0, e1, e2⟩ := c0; have f0 := RR.out.fr (j * 3); have f1 := RR.out.fr (j * 3 + 1); have f2 := RR.out.fr (j * 3 + 2); replace RR := hid (RR.out.put1 hj v); clear m5 hv)
        | (go_at_call 72; clear tk2; refine (pick_any w.heap.size _ [-1, 100000, 100001] _ _ _ (RR.out.alloc _).cur (IntRow.made RR.out.cur.lt _ _ _ rfl) rfl (by decide) (by decide)).mono ?_; rintro e w5 ⟨v, rfl, hv, m5⟩; replace RR := hid ((RR.out.alloc _).moved m5); have c0 := RR.out.row.cell hj; simp only [Nat.zero_add] at c0; obtain ⟨e0, e1, e2⟩ := c0; have f0 := RR.out.fr (j * 3); have f1 := RR.out.fr (j * 3 + 1); have f2 := RR.out.fr (j * 3 + 2); replace RR := hid (RR.out.put2 hj v); clear m5 hv)
        | (go_at_call 52; refine (below_any w.heap.size _ _ RR.out.cur).mono ?_; rintro e w7 ⟨x, rfl, x0, x1, _, m7⟩; have x2 := x1 (by omega); replace RR := hid (RR.out.moved m7); clear m7 x1)
        | (go_at_call 73; refine (badDay_any w.heap.size _ _ RR.out.cur).mono ?_; rintro e w8 ⟨y, rfl, hy, m8⟩; replace RR := hid (RR.out.moved m8); clear m8 hy)
        | (go_at_call 51; clear tkS; refine (spoil_any w.heap.size _ _ [-1, 9] _ _ _ (RR.out.alloc _).cur (IntRow.made RR.out.cur.lt _ _ _ rfl) rfl (by decide) (by decide)).mono ?_; rintro e w8 ⟨y, rfl, hy, m8⟩; replace RR := hid ((RR.out.alloc _).moved m8); clear m8 hy)
        | (go_at_call 51; refine (spoil_any w.heap.size _ _ [-1, 100000000000, 100000000001] _ _ _ (RR.out.alloc _).cur (IntRow.made RR.out.cur.lt _ _ _ rfl) rfl (by decide) (by decide)).mono ?_; rintro e w8 ⟨y, rfl, hy, m8⟩; replace RR := hid ((RR.out.alloc _).moved m8); clear m8 hy))
      all_goals
        go_returns
        exact ⟨_, _, _, _, _, _, _, _, rfl, by omega, RR.out.row, HB1.out.trans RR.out.bel⟩
end Go.Proofs.Ytlhgmdmbjpaakaa
