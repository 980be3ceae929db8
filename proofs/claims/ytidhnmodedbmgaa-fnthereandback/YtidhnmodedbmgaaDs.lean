/- The draw of a row of rates that is spoilt now and then. -/
import Derived.Test.YtidhnmodedbmgaaDr
namespace Go.Proofs.Ytidhnmodedbmgaa
open Go.ChangeShapes Go.WideShapes Go.ChangeAt Go.RowKit
set_option linter.unusedVariables false
set_option linter.unusedSimpArgs false

def DsPost (b : Nat) (w : World) (e : Ending) (w' : World) : Prop := ∃ (g n cap : Nat), e = .returned (.slice (some ⟨g, 0, none⟩) n cap) ∧ n ≤ 12 ∧ OWN w' b g n cap ∧ Cursor w' b ∧ Below b w w'
theorem dsp {b g n cap : Nat} {w w' : World} (h1 : n ≤ 12) (h3 : OWN w' b g n cap) (h4 : Cursor w' b) (h5 : Below b w w') : DsPost b w (.returned (.slice (some ⟨g, 0, none⟩) n cap)) w' := ⟨g, n, cap, rfl, h1, h3, h4, h5⟩

/-- The row, the cursor, and all below the cursor as it was. -/
structure Sp (w : World) (b g n cap : Nat) (W : World) : Prop where
  own : OWN W b g n cap
  cur : Cursor W b
  bel : Below b w W
theorem Sp.moved {w W W' : World} {b g n cap : Nat} (h : Sp w b g n cap W) (m : Moved b W W') : Sp w b g n cap W' := ⟨h.own.turns m.2, m.1, h.bel.trans (m.2.below (Nat.le_refl _) (Nat.le_of_lt h.cur.lt))⟩
theorem Sp.alloc {w W : World} {b g n cap : Nat} (h : Sp w b g n cap W) (o : Obj) : Sp w b g n cap (W.alloc o) := ⟨h.own.alloc o, h.cur.alloc o, h.bel.alloc (Nat.le_of_lt h.cur.lt) o⟩
theorem Sp.set {w W : World} {b g n cap : Nat} (h : Sp w b g n cap W) (o : Nat) (z : Int) : Sp w b g n cap (W.setCell ⟨g, o, none⟩ (.int .i64 z)) := by
  have h1 := h.own.1
  exact ⟨h.own.set o z, h.cur.low (by simp) (fun k hk => Below.heap_setCell _ _ _ _ (by show k ≠ g; omega)), h.bel.setCell (by simp; omega) _⟩
theorem Sp.grown {w W W' : World} {b g n cap g' cap' : Nat} (h : Sp w b g n cap W) (hg : W.grownBy W' (some g)) (ho : OWN W' b g' (n + 1) cap') : Sp w b g' (n + 1) cap' W' := by
  have h1 := h.own.1
  exact ⟨ho, h.cur.grown hg (fun k e => by cases e; exact h1), h.bel.grown hg (Nat.le_of_lt h.cur.lt) (fun k e => by cases e; exact Nat.le_of_lt h1)⟩

set_option maxRecDepth 20000 in
set_option maxHeartbeats 4000000 in
theorem spoilRates_any (b g n cap : Nat) (w : World) (hc : Cursor w b) (ho : OWN w b g n cap) (hn : n ≤ 11) :
    Calls Try.prog 34 #[.pointer (some ⟨b, 0, none⟩), .slice (some ⟨g, 0, none⟩) n cap] w fun e w' => DsPost b w e w' := by
  have HS : Hid (Sp w b g n cap w) := ⟨ho, hc, Below.refl _ _⟩
  obtain ⟨i0, hi, hz0, hz1, hz2⟩ := info70
  have hn1 : (n : Int) ≤ 11 := by omega
  have tk1 : True := trivial
  clear hc ho
  by_cases hn0 : n = 0
  · subst hn0
    go_enter Try.func34, Try.ntmps34
    go_wp2_with (go_at_call 61; refine (once_any b _ _ HS.out.cur).mono ?_; rintro e w1 ⟨x, rfl, m1⟩; replace HS : Hid (Sp w b g 0 cap w1) := HS.out.moved m1; clear m1; cases x)
    all_goals
      go_returns
      exact dsp (by omega) HS.out.own HS.out.cur HS.out.bel
  · have hnp : (1 : Int) ≤ (n : Int) := by omega
    have en : ((n : Int) == 0) = false := by simp; omega
    go_enter Try.func34, Try.ntmps34
    go_wp2_with (first
      | (go_at_call 61; refine (once_any b _ _ HS.out.cur).mono ?_; rintro e w1 ⟨x, rfl, m1⟩; replace HS : Hid (Sp w b g n cap w1) := HS.out.moved m1; clear m1; cases x)
      | (go_at_call 33; have := tk1; clear tk1; refine (below_any b _ _ HS.out.cur).mono ?_; rintro e w2 ⟨x2, rfl, x20, x21, _, m2⟩; have x22 := x21 hnp; replace HS : Hid (Sp w b g n cap w2) := HS.out.moved m2; clear m2 x21; obtain ⟨k, rfl⟩ : ∃ k : Nat, x2 = (k : Int) := ⟨x2.toNat, by omega⟩; have hkn : k < n := (by omega))
      | (go_at_call 33; refine (below_any b _ _ HS.out.cur).mono ?_; rintro e w3 ⟨x3, rfl, x30, x31, _, m3⟩; have x32 := x31 (by decide); replace HS : Hid (Sp w b g n cap w3) := HS.out.moved m3; clear m3 x31; obtain ⟨⟨z0, q0⟩, f0⟩ := HS.out.own.cell (o := k * 4) (by omega); obtain ⟨⟨z1, q1⟩, f1⟩ := HS.out.own.cell (o := k * 4 + 1) (by omega); obtain ⟨⟨z2, q2⟩, f2⟩ := HS.out.own.cell (o := k * 4 + 2) (by omega); obtain ⟨⟨z3, q3⟩, f3⟩ := HS.out.own.cell (o := k * 4 + 3) (by omega); rcases (show x3 = 0 ∨ x3 = 1 ∨ x3 = 2 ∨ x3 = 3 ∨ x3 = 4 by omega) with rfl | rfl | rfl | rfl | rfl)
      | (go_at_call 62; refine (pick_any b _ [-1, 40001, 0] 3 3 _ (HS.out.alloc _).cur (IntRow.made HS.out.cur.lt _ _ _ rfl) rfl (by decide) (by decide)).mono ?_; rintro e w4 ⟨y, rfl, _, m4⟩; replace HS : Hid (Sp w b g n cap w4) := (HS.out.alloc _).moved m4; clear m4 q0 q1 q2 q3 f0 f1 f2 f3; obtain ⟨⟨z0, q0⟩, f0⟩ := HS.out.own.cell (o := k * 4) (by omega))
      | (go_at_call 62; refine (pick_any b _ [0, 19, 20] 3 3 _ (HS.out.alloc _).cur (IntRow.made HS.out.cur.lt _ _ _ rfl) rfl (by decide) (by decide)).mono ?_; rintro e w4 ⟨y, rfl, _, m4⟩; replace HS : Hid (Sp w b g n cap w4) := (HS.out.alloc _).moved m4; clear m4 q0 q1 q2 q3 f0 f1 f2 f3; obtain ⟨⟨z0, q0⟩, f0⟩ := HS.out.own.cell (o := k * 4 + 1) (by omega))
      | (go_at_call 62; refine (pick_any b _ [0, 10000000, 10000001] 3 3 _ (HS.out.alloc _).cur (IntRow.made HS.out.cur.lt _ _ _ rfl) rfl (by decide) (by decide)).mono ?_; rintro e w4 ⟨y, rfl, _, m4⟩; replace HS : Hid (Sp w b g n cap w4) := (HS.out.alloc _).moved m4; clear m4 q0 q1 q2 q3 f0 f1 f2 f3; obtain ⟨⟨z2, q2⟩, f2⟩ := HS.out.own.cell (o := k * 4 + 2) (by omega); obtain ⟨⟨z3, q3⟩, f3⟩ := HS.out.own.cell (o := k * 4 + 3) (by omega))
      | (at_builtin; have := q3; have := hkn; obtain ⟨xs, hO, hA⟩ := own_row HS.out.own; refine wpList_append_own_at _ rfl _ _ 24 rfl (b + 1) 70 i0 (.agg #[.int .i64 0, .int .i64 0, .int .i64 0, .int .i64 0]) 4 32 Try.underlying24 hi hz0 hz1 hz2 rfl (by decide) (.slice (some ⟨g, 0, none⟩) n cap) n xs rfl (hO.alloc _) ⟨w3.heap.size, 0, none⟩ 1 1 (R4.cells ⟨z0, z1, z2, z3⟩) rfl rfl (four_new w3 ⟨z0, z1, z2, z3⟩ 70) (four_one ⟨z0, z1, z2, z3⟩) (by unfold maxLen; omega) (by omega) (by have := HS.out.cur.lt; simp; omega) ?_; intro v' w7 hown7 hgrow7 _ hloc7; obtain ⟨g', cap', rfl, hO7⟩ := own_app hA hown7; have HS7 : Hid (Sp w b g' (n + 1) cap' w7) := (HS.out.alloc _).grown hgrow7 hO7; clear hown7 hgrow7 hloc7 hO hA))
    all_goals go_returns
    all_goals first
      | exact dsp (by omega) HS7.out.own HS7.out.cur HS7.out.bel
      | exact dsp (by omega) (HS.out.set _ _).own (HS.out.set _ _).cur (HS.out.set _ _).bel
      | exact dsp (by omega) HS.out.own HS.out.cur HS.out.bel

end Go.Proofs.Ytidhnmodedbmgaa
