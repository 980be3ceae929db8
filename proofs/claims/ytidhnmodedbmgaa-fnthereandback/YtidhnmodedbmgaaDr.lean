/- The draw of a row of rates. -/
import Derived.Test.YtidhnmodedbmgaaDu
import Derived.Test.YtidhnmodedbmgaaDc
namespace Go.Proofs.Ytidhnmodedbmgaa
open Go.ChangeShapes Go.WideShapes Go.ChangeAt Go.RowKit
set_option linter.unusedVariables false
set_option linter.unusedSimpArgs false

def DrPost (b : Nat) (w : World) (e : Ending) (w' : World) : Prop := ∃ (g n cap : Nat), e = .returned (.slice (some ⟨g, 0, none⟩) n cap) ∧ n ≤ 11 ∧ w.heap.size ≤ g ∧ OWN w' b g n cap ∧ Moved b w w'
theorem drp {b g n cap : Nat} {w w' : World} (h1 : n ≤ 11) (h2 : w.heap.size ≤ g) (h3 : OWN w' b g n cap) (h4 : Moved b w w') : DrPost b w (.returned (.slice (some ⟨g, 0, none⟩) n cap)) w' := ⟨g, n, cap, rfl, h1, h2, h3, h4⟩

/-- All that a round of the draw keeps. -/
structure Dn2 (w : World) (b g n cap : Nat) (W : World) : Prop where
  own : OWN W b g n cap
  cur : Cursor W b
  tu : Turns b w W
  lo : w.heap.size ≤ g
  lt : b < w.heap.size
theorem Dn2.moved {w W W' : World} {b g n cap : Nat} (h : Dn2 w b g n cap W) (m : Moved b W W') : Dn2 w b g n cap W' := ⟨h.own.turns m.2, m.1, h.tu.trans m.2, h.lo, h.lt⟩
theorem Dn2.alloc {w W : World} {b g n cap : Nat} (h : Dn2 w b g n cap W) (o : Obj) : Dn2 w b g n cap (W.alloc o) := ⟨h.own.alloc o, h.cur.alloc o, h.tu.alloc o, h.lo, h.lt⟩
theorem Dn2.grown {w W W' : World} {b g n cap g' cap' : Nat} (h : Dn2 w b g n cap W) (hg : W.grownBy W' (some g)) (ho : OWN W' b g' (n + 1) cap') (hl : g' = g ∨ g' = W.heap.size) : Dn2 w b g' (n + 1) cap' W' := by
  have h1 := h.own.1
  refine ⟨ho, h.cur.grown hg (fun k e => by cases e; exact h1), h.tu.grown hg (fun k e => by cases e; exact h.lo), ?_, h.lt⟩
  rcases hl with rfl | rfl
  · exact h.lo
  · exact h.tu.size

theorem own_row {w : World} {b g n cap : Nat} (h : OWN w b g n cap) : ∃ xs, w.ownsRow (b + 1) 70 4 (.slice (some ⟨g, 0, none⟩) n cap) n xs ∧ AllI xs := h.2

theorem day_ways (zd D1 zf f : Int) : (∃ D, D1 = D ∧ (zd == D) = false ∧ D1 ≤ D ∧ D ≤ D1 + 1) ∨ (∃ D, D1 = D ∧ (zd == D) = true ∧ zf < f ∧ D1 ≤ D ∧ D ≤ D1 + 1) ∨ (∃ D, D1 + 1 = D ∧ (zd == D1) = true ∧ f ≤ zf ∧ D1 ≤ D ∧ D ≤ D1 + 1) := by
  by_cases h : zd = D1
  · by_cases g : f ≤ zf
    · exact .inr (.inr ⟨_, rfl, by simpa using h, g, by omega, by omega⟩)
    · exact .inr (.inl ⟨_, rfl, by simpa using h, by omega, by omega, by omega⟩)
  · exact .inl ⟨_, rfl, by simpa using h, by omega, by omega⟩

set_option maxRecDepth 20000 in
set_option maxHeartbeats 4000000 in
theorem drawRates_any (b : Nat) (m : Int) (w : World) (hc : Cursor w b) (hm : 2 ≤ m) (hm5 : m ≤ 5) :
    Calls Try.prog 35 #[.pointer (some ⟨b, 0, none⟩), .int .i64 m] w fun e w' => DrPost b w e w' := by
  have HC : Hid (Cursor w b) := hc
  have hlt := hc.lt
  obtain ⟨i0, hi, hz0, hz1, hz2⟩ := info70
  clear hc
  go_enter Try.func35, Try.ntmps35
  go_wp2_with (go_at_call 33; refine (below_any b _ _ (HC.out.alloc _)).mono ?_; rintro e w1 ⟨x, rfl, x0, x1, x2, m1⟩; have x3 := x1 (by decide); have M1 : Hid (Moved b (w.alloc (.cells #[] 70 (0, 0))) w1) := m1; clear m1 x1 x2)
  go_loopw [5, 6, 7] (fun v d u wr => ∃ (g n cap : Nat) (dz kz : Int), v = .slice (some ⟨g, 0, none⟩) n cap ∧ d = .int .i64 dz ∧ u = .int .i64 kz ∧ 0 ≤ dz ∧ dz ≤ 60 * (n : Int) ∧ 0 ≤ kz ∧ (n : Int) + kz ≤ 11 ∧ Dn2 w b g n cap wr) (fun _ _ u _ => (intOf u).toNat)
  case atStart =>
    refine ⟨w.heap.size, 0, 0, 0, x, rfl, rfl, rfl, by omega, by omega, x0, by omega, ?_, M1.out.1, ((Turns.refl b w).alloc _).trans M1.out.2, Nat.le_refl _, hlt⟩
    exact OWN.turns (own_mk hlt (CB.new #[] 70) (Nat.le_refl _) (Nat.zero_le _) rfl (fun u hu => by simp at hu)) M1.out.2
  case round =>
    obtain ⟨g, n, cap, dz, kz, rfl, rfl, rfl, hd0, hd1, hk0, hk1, hD⟩ := hrel
    have HD : Hid (Dn2 w b g n cap wr) := hD
    clear hD
    by_cases hkp : 0 < kz
    · have hn10 : (n : Int) ≤ 10 := by omega
      have tk1 : True := trivial
      have tk2 : True := trivial
      have tk3 : True := trivial
      by_cases hn0 : n = 0
      · subst hn0
        go_wp2_with (first
          | (go_at_call 33; have := tk1; clear tk1; refine (below_any b _ _ HD.out.cur).mono ?_; rintro e w2 ⟨y1, rfl, y10, y11, _, m2⟩; have y12 := y11 (by decide); replace HD : Hid (Dn2 w b g 0 cap w2) := HD.out.moved m2; clear m2 y11)
          | (go_at_call 33; have := tk2; clear tk2; refine (below_any b _ _ HD.out.cur).mono ?_; rintro e w3 ⟨y2, rfl, y20, y21, _, m3⟩; have y22 := y21 (by omega); replace HD : Hid (Dn2 w b g 0 cap w3) := HD.out.moved m3; clear m3 y21)
          | (go_at_call 33; have := tk3; clear tk3; refine (below_any b _ _ HD.out.cur).mono ?_; rintro e w4 ⟨y3, rfl, y30, y31, _, m4⟩; have y32 := y31 (by decide); replace HD : Hid (Dn2 w b g 0 cap w4) := HD.out.moved m4; clear m4 y31)
          | (go_at_call 33; refine (below_any b _ _ HD.out.cur).mono ?_; rintro e w5 ⟨y4, rfl, y40, y41, _, m5⟩; have y42 := y41 (by decide); replace HD : Hid (Dn2 w b g 0 cap w5) := HD.out.moved m5; clear m5 y41)
          | (go_at_call 62; refine (pick_any b _ [1, 100, 1000, 1 + y4] 4 4 _ (HD.out.alloc _).cur (IntRow.made HD.out.cur.lt _ _ _ rfl) rfl (by decide) (by decide)).mono ?_; rintro e w6 ⟨y5, rfl, _, m6⟩; replace HD : Hid (Dn2 w b g 0 cap w6) := (HD.out.alloc _).moved m6; clear m6; obtain ⟨xs, hO, hA⟩ := own_row HD.out.own; have HO : Hid (w6.ownsRow (b + 1) 70 4 (.slice (some ⟨g, 0, none⟩) 0 cap) 0 xs) := hO; have HA : Hid (AllI xs) := hA; clear hO hA)
          | (at_builtin; have := HO; refine wpList_append_own_at _ rfl _ _ 24 rfl (b + 1) 70 i0 (.agg #[.int .i64 0, .int .i64 0, .int .i64 0, .int .i64 0]) 4 32 Try.underlying24 hi hz0 hz1 hz2 rfl (by decide) (.slice (some ⟨g, 0, none⟩) 0 cap) 0 xs rfl (HO.out.alloc _) ⟨w6.heap.size, 0, none⟩ 1 1 (R4.cells ⟨dz + y1, 1 + y2, 1 + y3, y5⟩) rfl rfl (four_new w6 ⟨dz + y1, 1 + y2, 1 + y3, y5⟩ 70) (four_one ⟨dz + y1, 1 + y2, 1 + y3, y5⟩) (by unfold maxLen; omega) (by omega) (by have := HD.out.cur.lt; simp; omega) ?_; intro v' w7 hown7 hgrow7 _ hloc7; obtain ⟨g', cap', rfl, hO7⟩ := own_app HA.out hown7; have HD7 : Hid (Dn2 w b g' (0 + 1) cap' w7) := (HD.out.alloc _).grown hgrow7 hO7 (by simpa [Value.ownBlock] using hloc7); clear hown7 hgrow7 hloc7 HO HA))
        go_roundw
        case rel => exact ⟨g', 0 + 1, cap', dz + y1, kz - 1, rfl, rfl, rfl, by omega, by omega, by omega, by omega, HD7.out⟩
        case measure => simp [intOf]; omega
      · obtain ⟨j, rfl⟩ : ∃ j, n = j + 1 := ⟨n - 1, by omega⟩
        have ej0 : (0 : Int) ≤ (j : Int) := by omega
        have ej1 : (j : Int) < ((j + 1 : Nat) : Int) := by omega
        have ej2 : (j : Int) ≤ 9 := by omega
        clear hn0
        go_wp2_with (first
          | (go_at_call 33; have := tk1; clear tk1; refine (below_any b _ _ HD.out.cur).mono ?_; rintro e w2 ⟨y1, rfl, y10, y11, _, m2⟩; have y12 := y11 (by decide); replace HD : Hid (Dn2 w b g (j + 1) cap w2) := HD.out.moved m2; clear m2 y11; obtain ⟨D1, hD1⟩ : ∃ D1, dz + y1 = D1 := ⟨_, rfl⟩)
          | (go_at_call 33; have := tk2; clear tk2; refine (below_any b _ _ HD.out.cur).mono ?_; rintro e w3 ⟨y2, rfl, y20, y21, _, m3⟩; have y22 := y21 (by omega); replace HD : Hid (Dn2 w b g (j + 1) cap w3) := HD.out.moved m3; clear m3 y21; obtain ⟨⟨zd, hzd⟩, _⟩ := HD.out.own.cell (o := j * 4) (by omega); obtain ⟨⟨zf, hzf⟩, _⟩ := HD.out.own.cell (o := j * 4 + 1) (by omega); rcases day_ways zd D1 zf (1 + y2) with ⟨D, hD, e1, hDb⟩ | ⟨D, hD, e1, e2, hDb⟩ | ⟨D, hD, e1, e2, hDb⟩)
          | (go_at_call 33; have := tk3; clear tk3; clear hzd hzf; refine (below_any b _ _ HD.out.cur).mono ?_; rintro e w4 ⟨y3, rfl, y30, y31, _, m4⟩; have y32 := y31 (by decide); replace HD : Hid (Dn2 w b g (j + 1) cap w4) := HD.out.moved m4; clear m4 y31)
          | (go_at_call 33; refine (below_any b _ _ HD.out.cur).mono ?_; rintro e w5 ⟨y4, rfl, y40, y41, _, m5⟩; have y42 := y41 (by decide); replace HD : Hid (Dn2 w b g (j + 1) cap w5) := HD.out.moved m5; clear m5 y41)
          | (go_at_call 62; refine (pick_any b _ [1, 100, 1000, 1 + y4] 4 4 _ (HD.out.alloc _).cur (IntRow.made HD.out.cur.lt _ _ _ rfl) rfl (by decide) (by decide)).mono ?_; rintro e w6 ⟨y5, rfl, _, m6⟩; replace HD : Hid (Dn2 w b g (j + 1) cap w6) := (HD.out.alloc _).moved m6; clear m6; obtain ⟨xs, hO, hA⟩ := own_row HD.out.own; have HO : Hid (w6.ownsRow (b + 1) 70 4 (.slice (some ⟨g, 0, none⟩) (j + 1) cap) (j + 1) xs) := hO; have HA : Hid (AllI xs) := hA; clear hO hA)
          | (at_builtin; have := HO; refine wpList_append_own_at _ rfl _ _ 24 rfl (b + 1) 70 i0 (.agg #[.int .i64 0, .int .i64 0, .int .i64 0, .int .i64 0]) 4 32 Try.underlying24 hi hz0 hz1 hz2 rfl (by decide) (.slice (some ⟨g, 0, none⟩) (j + 1) cap) (j + 1) xs rfl (HO.out.alloc _) ⟨w6.heap.size, 0, none⟩ 1 1 (R4.cells ⟨D, 1 + y2, 1 + y3, y5⟩) rfl rfl (four_new w6 ⟨D, 1 + y2, 1 + y3, y5⟩ 70) (four_one ⟨D, 1 + y2, 1 + y3, y5⟩) (by unfold maxLen; omega) (by omega) (by have := HD.out.cur.lt; simp; omega) ?_; intro v' w7 hown7 hgrow7 _ hloc7; obtain ⟨g', cap', rfl, hO7⟩ := own_app HA.out hown7; have HD7 : Hid (Dn2 w b g' (j + 1 + 1) cap' w7) := (HD.out.alloc _).grown hgrow7 hO7 (by simpa [Value.ownBlock] using hloc7); clear hown7 hgrow7 hloc7 HO HA))
        all_goals
          go_roundw
          case rel => exact ⟨g', j + 1 + 1, cap', D, kz - 1, rfl, rfl, rfl, by omega, by omega, by omega, by omega, HD7.out⟩
          case measure => simp [intOf]; omega
    · obtain rfl : kz = 0 := by omega
      go_wp2
      go_returns
      exact drp (by omega) HD.out.lo HD.out.own ⟨HD.out.cur, HD.out.tu⟩

end Go.Proofs.Ytidhnmodedbmgaa
