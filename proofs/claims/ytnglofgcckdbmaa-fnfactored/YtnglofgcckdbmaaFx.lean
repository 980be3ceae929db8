/- What FnFactored draws, and the plain facts of its sum. -/
import Derived.Test.YtnglofgcckdbmaaOx
import Derived.Test.YtnglofgcckdbmaaFb
import Derived.Test.YtnglofgcckdbmaaCr
namespace Go.Proofs.Ytnglofgcckdbmaa
open Go Go.ChangeShapes Go.WideShapes Go.ChangeAt Go.RowKit
set_option linter.unusedVariables false
set_option linter.unusedSimpArgs false

theorem ByteRow.up {w W : World} {ad : Option Addr} {len : Nat} (H : ByteRow w w.heap.size ad len) (b : Below w.heap.size w W) : ByteRow W W.heap.size ad len := by
  rcases H with h | ⟨k, off, e, h1, h2, h3⟩
  · exact .inl h
  · exact .inr ⟨k, off, e, by have := b.size; omega, by have := b.size; omega, fun j hj => by obtain ⟨c, c0, c1, hc⟩ := h3 j hj; exact ⟨c, c0, c1, by rw [World.cell?_of_block (w := w) (b.block k h2)]; exact hc⟩⟩
theorem dv_nonneg {p q : Int} (h0 : 0 ≤ p) (hq : 1 ≤ q) : 0 ≤ dv p q 3 := by
  obtain ⟨e1, _⟩ := dv_pos p q h0 hq
  have := Int.ediv_nonneg h0 (show 0 ≤ q by omega)
  unfold dv rnd
  rw [e1, show decide (p < 0) = false from decide_eq_false (by omega)]
  simp only [Bool.false_eq_true, if_false]
  split <;> omega
theorem md_nonneg {a n q : Int} (ha : 0 ≤ a) (hn : 0 ≤ n) (hq : 1 ≤ q) : 0 ≤ mdV a n q 3 := by
  by_cases h : MdOk a n q 3
  · by_cases g : -100000000000 ≤ dv (a * n) q 3 ∧ dv (a * n) q 3 ≤ 100000000000
    · rw [(md_in h g.1 g.2).2]; exact dv_nonneg (Int.mul_nonneg ha hn) hq
    · rw [(md_out g).2]; omega
  · rw [(md_bad h).2]; omega
theorem fa_sum (n : Nat) (c : Nat → OI2) (fee keep day : Int) : 0 ≤ faX n c fee keep day ∧ 0 ≤ faK n c fee keep day ∧ 0 ≤ faT n c fee keep day ∧ faX n c fee keep day ≤ 100000000000 ∧ faK n c fee keep day ≤ 100000000000 ∧ faT n c fee keep day ≤ 100000000000 ∧ ((faX n c fee keep day + faK n c fee keep day + faT n c fee keep day = 0) ∨ (OpP n c ∧ alS c n ≤ 100000000000 ∧ faX n c fee keep day + faK n c fee keep day + faT n c fee keep day = alS c n)) := by
  by_cases h : FaP n c fee keep day
  · obtain ⟨e1, e2, e3⟩ := fa_yes h
    obtain ⟨h1, h2, h3, h4, h5, h6, h7⟩ := h
    have ho := opB_p h1
    have ha := al_bd ho n (Nat.le_refl _)
    have ht := tk_bd ho h2 (Nat.le_refl _) h5 n (Nat.le_refl _)
    have hk := md_nonneg (q := 100000) ha.1 h3.1 (by omega)
    rw [← e1, ← e2, ← e3]
    refine ⟨by omega, hk, ht.1, by omega, by omega, by omega, .inr ⟨ho, h6, by omega⟩⟩
  · obtain ⟨e1, e2, e3⟩ := fa_no h
    rw [← e1, ← e2, ← e3]
    exact ⟨by omega, by omega, by omega, by omega, by omega, by omega, .inl (by omega)⟩
/-- What DrawFactor leaves. -/
def DfP (w : World) (e : Ending) (w' : World) : Prop := ∃ (g n oc : Nat) (c : Nat → OI2) (fee keep day : Int), e = .returned (.tuple #[.slice (some ⟨g, 0, none⟩) n oc, .int .i64 fee, .int .i64 keep, .int .i64 day]) ∧ (n : Int) ≤ 9 ∧ OIr w' (some ⟨g, 0, none⟩) n c ∧ Below w.heap.size w w'
set_option maxRecDepth 20000 in
set_option maxHeartbeats 8000000 in
theorem drawFactor_any (ad : Option Addr) (len cap : Nat) (w : World) (hl : (len : Int) ≤ 1048576) (hr : ByteRow w w.heap.size ad len) :
    Calls Try.prog 42 #[.slice ad len cap] w (DfP w) := by
  obtain ⟨i0, hi, hz0, hz1, hz2⟩ := infoOI2
  have HN : Hid (Calls Try.prog 48 #[.slice ad len cap] w fun e w' => e = .returned (.pointer (some ⟨w.heap.size, 0, none⟩)) ∧ Cursor w' w.heap.size ∧ Below w.heap.size w w') := new_any ad len cap w (by omega) hr
  clear hr
  have tok1 : True := trivial
  go_enter Try.func42, Try.ntmps42
  go_wp2_with (first
    | (go_at_call 48; refine HN.out.mono ?_; rintro e w1 ⟨rfl, c1, b1⟩; have HC1 : Hid (Cursor w1 w.heap.size) := c1; have HB1 : Hid (Below w.heap.size w w1) := b1; clear c1 b1)
    | (go_at_call 49; clear tok1; refine (below_any w.heap.size _ _ HC1.out).mono ?_; rintro e w2 ⟨x, rfl, x0, x1, _, m2⟩; obtain ⟨k, rfl, hk⟩ := nat_of (n := 8) x0 (x1 (by decide)); have HC2 : Hid (Cursor w2 w.heap.size) := m2.1; have HB2 : Hid (Below w.heap.size w w2) := moved_below HB1.out m2; clear m2 x0 x1)
    | (go_at_call 76; refine (drawOpen_any w.heap.size k _ (by omega) HC2.out).mono ?_; rintro e w3 ⟨g, oc, c, rfl, d3⟩; have RR : Hid (DWOI2 w.heap.size w.heap.size w2 w2.heap.size g k oc c w3) := d3; clear d3)
    | (go_at_call 51; refine (once_any w.heap.size _ _ RR.out.cur).mono ?_; rintro e w4 ⟨x, rfl, m4⟩; replace RR := hid (RR.out.moved m4); clear m4; cases x)
    | (go_at_call 52; refine (pick_any w.heap.size _ [380, 360, 390] _ _ _ (RR.out.alloc _).cur (IntRow.made RR.out.cur.lt _ _ _ rfl) rfl (by decide) (by decide)).mono ?_; rintro e w6 ⟨y, rfl, hy, m6⟩; replace RR := hid ((RR.out.alloc _).moved m6); clear m6 hy)
    | (at_builtin; go_loud (refine wpList_append_own_at _ rfl _ _ 61 rfl w2.heap.size 60 i0 (.agg #[.int .i64 0, .int .i64 0]) 2 16 Try.underlying61 hi hz0 hz1 hz2 rfl (by decide) (.slice (some ⟨g, 0, none⟩) k oc) k (rowOI2 c k) rfl (RR.out.alloc _).own ⟨w6.heap.size, 0, none⟩ 1 1 [.int .i64 y, .int .i64 100] rfl rfl (ocells_at rfl) (fun u hu => by simp at hu; rcases hu with rfl | rfl <;> rfl) (by unfold maxLen; omega) (by omega) (own_base (RR.out.alloc _).own rfl) ?_); intro v9 w9 hown hgrow hnil hat; obtain ⟨g9, oc9, rfl, _⟩ := ownsRow_some hown (by omega); have RR9 : Hid (DWOI2 w.heap.size w.heap.size w2 w2.heap.size g9 (k + 1) oc9 (addOI2 c k ⟨y, 100⟩) w9) := (RR.out.alloc _).grow hgrow hown; replace RR := RR9; clear hown hgrow hnil hat RR9)
    | (go_at_call 49; refine (below_any w.heap.size _ _ RR.out.cur).mono ?_; rintro e w7 ⟨x, rfl, x0, x1, _, m7⟩; replace RR := hid (RR.out.moved m7); clear m7 x0 x1)
    | (go_at_call 54; refine (spoil_any w.heap.size _ _ [-1, 100000, 100001] _ _ _ (RR.out.alloc _).cur (IntRow.made RR.out.cur.lt _ _ _ rfl) rfl (by decide) (by decide)).mono ?_; rintro e w8 ⟨y, rfl, hy, m8⟩; replace RR := hid ((RR.out.alloc _).moved m8); clear m8 hy)
    | (go_at_call 53; refine (badDay_any w.heap.size _ _ RR.out.cur).mono ?_; rintro e w8 ⟨y, rfl, hy, m8⟩; replace RR := hid (RR.out.moved m8); clear m8 hy))
  all_goals
    go_returns
    exact ⟨_, _, _, _, _, _, _, rfl, by omega, RR.out.row, HB2.out.trans RR.out.bel⟩
end Go.Proofs.Ytnglofgcckdbmaa
