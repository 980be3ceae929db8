/- The contracts of MonthEnd, in the program and in the model: what 'mendV' says at every number. -/
import Derived.Test.YtadjdpoplaknkaaDoorDz
import Derived.Deep.RegionHeld3
namespace Go.Proofs.YtadjdpoplaknkaaDoor
open Go.ChangeShapes Go.WideShapes Go.ChangeAt Go.RowKit
set_option linter.unusedVariables false
set_option linter.unusedSimpArgs false

theorem ML.set {w : World} (h : ML w) {b o : Nat} (hb : 0 < b) (v : Value) : ML (w.setCell ⟨b, o, none⟩ v) := h.below (B := b) ((Below.refl _ _).setCell (by simp) _) hb

theorem keep_cell {W W' : World} {b o : Nat} {v : Value} (h : Below W.heap.size W W') (hc : W.cell? ⟨b, o, none⟩ = some v) : W'.cell? ⟨b, o, none⟩ = some v := by
  have hlt : b < W.heap.size := by
    unfold World.cell? at hc
    rcases Nat.lt_or_ge b W.heap.size with g | g
    · exact g
    · simp [Array.getElem?_eq_none g] at hc
  rw [World.cell?_of_block (w := W) (h.block b hlt)]; exact hc
theorem bel_on {A W W' : World} (h : Below A.heap.size A W) (k : Below W.heap.size W W') : Below A.heap.size A W' := h.trans (k.mono h.size)

/-- The last day of a day's month; -1 where it is none. -/
noncomputable def mendV (day : Int) : Int := if 0 ≤ day ∧ day ≤ 40000 then dayV (dat day).1 (dat day).2.1 (md (dat day).1 (dat day).2.1) else -1

theorem mendV_in {day y m d : Int} (h1 : 0 ≤ day) (h2 : day ≤ 40000) (h : dat day = (y, m, d)) : mendV day = dayV y m (md y m) := by
  unfold mendV; rw [if_pos ⟨h1, h2⟩, h]
theorem mendV_out {day : Int} (h : ¬ (0 ≤ day ∧ day ≤ 40000)) : mendV day = -1 := if_neg h

theorem dat_open {day : Int} (h1 : 0 ≤ day) (h2 : day ≤ 40000) : ∃ y m d, dat day = (y, m, d) ∧ dateA (dat day) = .agg #[.int .i64 y, .int .i64 m, .int .i64 d] ∧ 2000 ≤ y ∧ y ≤ 2109 ∧ 1 ≤ m ∧ m ≤ 12 ∧ 1 ≤ d ∧ d ≤ md y m := by
  have h := dat_is h1 h2
  obtain ⟨b1, b2, b3, b4, b5, b6⟩ := h.bounds h1 h2
  exact ⟨_, _, _, rfl, rfl, b1, b2, b3, b4, b5, b6⟩

set_option maxHeartbeats 1000000 in
theorem implMonthEnd_any (day : Int) (w : World) (ht : ML w) (hp : 0 < w.heap.size) :
    Calls Tryd.prog 15 #[.int .i64 day] w fun e w' => e = .returned (.int .i64 (mendV day)) ∧ Below w.heap.size w w' := by
  by_cases h : 0 ≤ day ∧ day ≤ 40000
  · have hd := dayB_t h
    obtain ⟨y, m, d, k1, k2, y0, y1, m1, m2, d1, d2⟩ := dat_open h.1 h.2
    rw [mendV_in h.1 h.2 k1]
    have HT : Hid (ML w) := ht
    clear ht k1
    obtain ⟨h1, h2⟩ := h
    go_enter Tryd.func15, Tryd.ntmps15
    go_wp2_with (first
      | (go_at_call 39; refine (isDay_any _ _).mono ?_; rintro e w' ⟨rfl, rfl⟩; rw [hd])
      | (go_at_call 14; refine (implDateOf_any _ _ HT.out hp).mono ?_; rintro e w1 ⟨rfl, hb1⟩; rw [k2]; have hs1 := hb1.size)
      | (go_at_call 38; refine (monthDays_any _ _ _ (by omega) m1 m2 ((HT.out.below hb1 hp).alloc (by omega) _)).mono ?_; rintro e w' ⟨rfl, rfl⟩)
      | (go_at_call 13; refine (implDayOf_any _ _ _ _ ((HT.out.below hb1 hp).alloc (by omega) _) (by simp)).mono ?_; rintro e w3 ⟨rfl, hb3⟩))
    go_returns
    exact ⟨rfl, (hb1.alloc hs1 _).trans (hb3.mono (by simp; omega))⟩
  · have hd := dayB_f h
    rw [mendV_out h]
    go_enter Tryd.func15, Tryd.ntmps15
    go_wp2_with (go_at_call 39; refine (isDay_any _ _).mono ?_; rintro e w' ⟨rfl, rfl⟩; rw [hd])
    go_returns
    exact ⟨rfl, by go_grown⟩

set_option maxHeartbeats 1000000 in
theorem specMonthEnd_any (day : Int) (w : World) :
    Calls Tryd.prog 28 #[.int .i64 day] w fun e w' => e = .returned (.int .i64 (mendV day)) ∧ Below w.heap.size w w' := by
  by_cases h : 0 ≤ day ∧ day ≤ 40000
  · have hd := dayB_t h
    obtain ⟨y, m, d, k1, k2, y0, y1, m1, m2, d1, d2⟩ := dat_open h.1 h.2
    rw [mendV_in h.1 h.2 k1]
    clear k1
    obtain ⟨h1, h2⟩ := h
    go_enter Tryd.func28, Tryd.ntmps28
    go_wp2_with (first
      | (go_at_call 43; refine (l2Day_any _ _).mono ?_; rintro e w' ⟨rfl, ew⟩; replace ew := ew.symm; subst ew; rw [hd])
      | (go_at_call 26; refine (specDateOf_any _ _).mono ?_; rintro e w1 ⟨rfl, hb1⟩; rw [k2]; have hs1 := hb1.size))
    have B1 : Below w.heap.size w (w1.alloc (.cells #[.int .i64 y, .int .i64 m, .int .i64 d] 27 (0, 0))).drew := (hb1.alloc hs1 _).drew
    go_region_held3 (fun w' => w'.cell? ⟨w1.heap.size, 0, none⟩ = some (.int .i64 y) ∧ w'.cell? ⟨w1.heap.size, 1, none⟩ = some (.int .i64 m) ∧ Below w.heap.size w w')
      (refine ⟨?_, ?_, ?_⟩ <;> first | assumption | (simp [*, World.cell?_alloc_some, World.cell?_setCell_far]; done))
      (first
      | (go_at_call 45; refine (l2Long_any _ _ _ (by omega) m1 m2).mono ?_; rintro e w2 ⟨rfl, rfl⟩)
      | (go_at_call 24; refine (specDayOf_any _ _ _ _).mono ?_; rintro e w3 ⟨rfl, hb3⟩; have q0 : w3.cell? ⟨w1.heap.size, 0, none⟩ = some (.int .i64 y) := keep_cell hb3 (by simp [*]); have q1 : w3.cell? ⟨w1.heap.size, 1, none⟩ = some (.int .i64 m) := keep_cell hb3 (by simp [*]); have q2 : Below w.heap.size w w3 := bel_on (by assumption) hb3))
    go_wp2
    go_returns
    exact ⟨rfl, q2⟩
  · have hd := dayB_f h
    rw [mendV_out h]
    go_enter Tryd.func28, Tryd.ntmps28
    go_wp2_with (go_at_call 43; refine (l2Day_any _ _).mono ?_; rintro e w' ⟨rfl, rfl⟩; rw [hd])
    go_returns
    exact ⟨rfl, by go_grown⟩

end Go.Proofs.YtadjdpoplaknkaaDoor
