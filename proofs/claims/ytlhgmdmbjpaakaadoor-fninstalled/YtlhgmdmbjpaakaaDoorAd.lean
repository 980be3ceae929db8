/- The contract of the program's AddMonths: what 'addV' says at every two numbers. -/
import Derived.Test.YtlhgmdmbjpaakaaDoorMe
namespace Go.Proofs.YtlhgmdmbjpaakaaDoor.Dt
open Go.ChangeShapes Go.WideShapes Go.ChangeAt Go.RowKit
set_option linter.unusedVariables false
set_option linter.unusedSimpArgs false

/-- The day n months on; -1 where there is none. -/
noncomputable def addV (day n : Int) : Int := if (0 ≤ day ∧ day ≤ 40000) ∧ -1200 ≤ n ∧ n ≤ 1200 then
  dayV ((12 * (dat day).1 + (dat day).2.1 - 1 + n) / 12) ((12 * (dat day).1 + (dat day).2.1 - 1 + n) % 12 + 1) (min (dat day).2.2 (md ((12 * (dat day).1 + (dat day).2.1 - 1 + n) / 12) ((12 * (dat day).1 + (dat day).2.1 - 1 + n) % 12 + 1))) else -1

theorem addV_in {day n y m d : Int} (h : (0 ≤ day ∧ day ≤ 40000) ∧ -1200 ≤ n ∧ n ≤ 1200) (hd : dat day = (y, m, d)) :
    addV day n = dayV ((12 * y + m - 1 + n) / 12) ((12 * y + m - 1 + n) % 12 + 1) (min d (md ((12 * y + m - 1 + n) / 12) ((12 * y + m - 1 + n) % 12 + 1))) := by
  unfold addV; rw [if_pos h, hd]
theorem addV_out {day n : Int} (h : ¬ ((0 ≤ day ∧ day ≤ 40000) ∧ -1200 ≤ n ∧ n ≤ 1200)) : addV day n = -1 := if_neg h

theorem ML.drew {w : World} (h : ML w) : ML w.drew := h
theorem pos_drew (w : World) (o : Obj) : 0 < (w.alloc o).drew.heap.size := by
  show 0 < (w.alloc o).heap.size
  simp

theorem if_min (a d : Int) : (if a < d then a else d) = min d a := by
  rw [Int.min_def]; split <;> split <;> omega

set_option maxHeartbeats 2000000 in
theorem implAddMonths_in (day n : Int) (w : World) (ht : ML w) (hp : 0 < w.heap.size) (h1 : 0 ≤ day) (h2 : day ≤ 40000) (n1 : -1200 ≤ n) (n2 : n ≤ 1200) :
    Calls Tryd.prog 10 #[.int .i64 day, .int .i64 n] w fun e w' => e = .returned (.int .i64 (addV day n)) ∧ Below w.heap.size w w' := by
  have hd := dayB_t ⟨h1, h2⟩
  obtain ⟨y, m, d, k1, k2, y0, y1, m1, m2, d1, d2⟩ := dat_open h1 h2
  rw [addV_in ⟨⟨h1, h2⟩, n1, n2⟩ k1]
  have HT : Hid (ML w) := ht
  have d3 : d ≤ 31 := by have := md_in y m; omega
  clear ht k1 d2
  go_enter Tryd.func10, Tryd.ntmps10
  go_wp2_with (first
    | (go_at_call 18; refine (isDay_any _ _).mono ?_; rintro e w' ⟨rfl, ew⟩; replace ew := ew.symm; subst ew; rw [hd])
    | (go_at_call 38; refine (implDateOf_any _ _ HT.out hp).mono ?_; rintro e w1 ⟨rfl, hb1⟩; rw [k2]; have hs1 := hb1.size))
  obtain ⟨Y, hY⟩ : ∃ Y, (12 * y + m - 1 + n) / 12 = Y := ⟨_, rfl⟩
  obtain ⟨M, hM⟩ : ∃ M, (12 * y + m - 1 + n) % 12 + 1 = M := ⟨_, rfl⟩
  have bY : 1899 ≤ Y ∧ Y ≤ 2210 := by omega
  have bM : 1 ≤ M ∧ M ≤ 12 := by omega
  rw [hY, hM]
  have HY : Hid ((12 * y + m - 1 + n) / 12 = Y) := hY
  have HM : Hid ((12 * y + m - 1 + n) % 12 + 1 = M) := hM
  clear hY hM
  have MT : Hid (ML (w1.alloc (.cells #[.int .i64 Y, .int .i64 M, .int .i64 d] 57 (0, 0))).drew) := (HT.out.below hb1 hp).alloc (by omega) _
  go_region_with (go_at_call 39; refine (monthDays_any _ _ _ (by omega) bM.1 bM.2 MT.out).mono ?_; rintro e w2 ⟨rfl, ew⟩; replace ew := ew.symm; subst ew)
  all_goals
    rw [if_min]
    go_wp2_with (go_at_call 40; refine (implDayOf_any _ _ _ _ (ML.drew ((HT.out.below hb1 hp).alloc (by omega) _)) (pos_drew _ _)).mono ?_; rintro e w3 ⟨rfl, hb3⟩)
    go_returns
    exact ⟨ret_int (by rw [HY.out, HM.out]), ((hb1.alloc hs1 _).drew).trans (hb3.mono (by simp [World.drew]; omega))⟩

theorem implAddMonths_any (day n : Int) (w : World) (ht : ML w) (hp : 0 < w.heap.size) :
    Calls Tryd.prog 10 #[.int .i64 day, .int .i64 n] w fun e w' => e = .returned (.int .i64 (addV day n)) ∧ Below w.heap.size w w' := by
  by_cases h : 0 ≤ day ∧ day ≤ 40000
  · by_cases g : -1200 ≤ n ∧ n ≤ 1200
    · exact implAddMonths_in day n w ht hp h.1 h.2 g.1 g.2
    · have hd := dayB_t h
      rw [addV_out (by omega)]
      by_cases g2 : n < -1200
      · clear g
        go_enter Tryd.func10, Tryd.ntmps10
        go_wp2_with (go_at_call 18; refine (isDay_any _ _).mono ?_; rintro e w' ⟨rfl, rfl⟩; rw [hd])
        go_returns
        exact ⟨rfl, Below.refl _ _⟩
      · have g3 : 1200 < n := by omega
        clear g g2
        go_enter Tryd.func10, Tryd.ntmps10
        go_wp2_with (go_at_call 18; refine (isDay_any _ _).mono ?_; rintro e w' ⟨rfl, rfl⟩; rw [hd])
        go_returns
        exact ⟨rfl, Below.refl _ _⟩
  · have hd := dayB_f h
    rw [addV_out (by omega)]
    go_enter Tryd.func10, Tryd.ntmps10
    go_wp2_with (go_at_call 18; refine (isDay_any _ _).mono ?_; rintro e w' ⟨rfl, rfl⟩; rw [hd])
    go_returns
    exact ⟨rfl, Below.refl _ _⟩

end Go.Proofs.YtlhgmdmbjpaakaaDoor.Dt
