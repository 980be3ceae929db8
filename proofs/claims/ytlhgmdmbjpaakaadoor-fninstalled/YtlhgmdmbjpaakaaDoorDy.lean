/- The contract of the program's DayOf: at every date, right or not, what 'dayV' says. -/
import Derived.Test.YtlhgmdmbjpaakaaDoorDs
namespace Go.Proofs.YtlhgmdmbjpaakaaDoor.Dt
open Go.ChangeShapes Go.WideShapes Go.ChangeAt Go.RowKit
set_option linter.unusedVariables false
set_option linter.unusedSimpArgs false

theorem dayV_far {y m d : Int} (h : ¬ (2000 ≤ y ∧ y ≤ 2109)) : dayV y m d = -1 := by
  unfold dayV
  split
  · rename_i g
    have := sumV_far (y := y) (m := m) (d := d) (by omega) g.2.2.2.1
    omega
  · rfl
theorem dayV_mon {y m d : Int} (h : ¬ (1 ≤ m ∧ m ≤ 12)) : dayV y m d = -1 := by
  unfold dayV; rw [if_neg (by omega)]
theorem dayV_day {y m d : Int} (h : ¬ (1 ≤ d ∧ d ≤ md y m)) : dayV y m d = -1 := by
  unfold dayV; rw [if_neg (by omega)]
theorem dayV_in {y m d : Int} (hy : 2000 ≤ y) (m1 : 1 ≤ m) (m2 : m ≤ 12) (d1 : 1 ≤ d) (d2 : d ≤ md y m) : dayV y m d = if sumV y m d ≤ 40000 then sumV y m d else -1 := by
  unfold dayV
  by_cases h : sumV y m d ≤ 40000
  · rw [if_pos ⟨hy, m1, m2, d1, d2, h⟩, if_pos h]
  · rw [if_neg (by omega), if_neg h]

/-- Of the number that was counted: the date of it is the date that was given, or there is none such. -/
theorem key (Y M d V : Int) (y0 : 2000 ≤ Y) (m1 : 1 ≤ M) (m2 : M ≤ 12) (hV : 1 ≤ d ∧ d ≤ 31 → V = sumV Y M d) :
    (dat V = (Y, M, d) ∧ dayV Y M d = V) ∨ (dayV Y M d = -1 ∧ ((dat V).1 ≠ Y ∨ (dat V).2.1 ≠ M ∨ (dat V).2.2 ≠ d)) := by
  by_cases hd : 1 ≤ d ∧ d ≤ md Y M
  · have e := hV ⟨hd.1, by have := md_in Y M; omega⟩
    rw [dayV_in y0 m1 m2 hd.1 hd.2, ← e]
    have hI := IsDate.of_sum y0 m1 m2 hd.1 hd.2
    rw [← e] at hI
    have h0 : 0 ≤ V := by rw [e]; exact sumV_nonneg hd.1
    by_cases hs : V ≤ 40000
    · exact .inl ⟨dat_eq hI h0 hs, by rw [if_pos hs]⟩
    · refine .inr ⟨by rw [if_neg hs], .inl ?_⟩
      rw [dat_none (by omega)]; simp; omega
  · refine .inr ⟨dayV_day hd, ?_⟩
    by_cases hs : 0 ≤ V ∧ V ≤ 40000
    · have hI := dat_is hs.1 hs.2
      by_cases e1 : (dat V).1 = Y
      · by_cases e2 : (dat V).2.1 = M
        · refine .inr (.inr fun e3 => hd ?_)
          have := hI.bounds hs.1 hs.2
          rw [e1, e2, e3] at this
          omega
        · exact .inr (.inl e2)
      · exact .inl e1
    · refine .inl ?_
      rw [dat_none hs]; simp; omega

theorem l1In_t (x lo hi : Int) (w : World) (h1 : lo ≤ x) (h2 : x ≤ hi) : Calls Tryd.prog 26 #[.int .i64 x, .int .i64 lo, .int .i64 hi] w fun e w' => e = .returned (.bool true) ∧ w' = w := by
  have := l1In_any x lo hi w
  rwa [inB_t ⟨h1, h2⟩] at this
theorem l1In_f (x lo hi : Int) (w : World) (h : ¬ (lo ≤ x ∧ x ≤ hi)) : Calls Tryd.prog 26 #[.int .i64 x, .int .i64 lo, .int .i64 hi] w fun e w' => e = .returned (.bool false) ∧ w' = w := by
  have := l1In_any x lo hi w
  rwa [inB_f h] at this

theorem ML.alloc {w : World} (h : ML w) (hp : 0 < w.heap.size) (o : Obj) : ML (w.alloc o) := h.below ((Below.refl _ _).alloc (Nat.le_refl _) o) hp

theorem i64_of {x : Int} (a : -9223372036854775808 ≤ x) (b : x ≤ 9223372036854775807) : wrap64 x = x := IntWalk.wrap64_in (by omega) (by omega)

set_option maxHeartbeats 1000000 in
theorem implDayOf_no (y m d : Int) (w : World) (h : ¬ (2000 ≤ y ∧ y ≤ 2109) ∨ ¬ (1 ≤ m ∧ m ≤ 12)) :
    Calls Tryd.prog 40 #[.agg #[.int .i64 y, .int .i64 m, .int .i64 d]] w fun e w' => e = .returned (.int .i64 (-1)) ∧ Below w.heap.size w w' := by
  by_cases hy : 2000 ≤ y ∧ y ≤ 2109
  · have hm : ¬ (1 ≤ m ∧ m ≤ 12) := by omega
    have b1 := inB_t hy
    have b2 := inB_f hm
    clear h hm
    go_enter Tryd.func40, Tryd.ntmps40
    go_wp2_with (first | (go_at_call 63; refine (isYear_any _ _).mono ?_; rintro e w' ⟨rfl, rfl⟩; rw [b1]) | (go_at_call 64; refine (isMonth_any _ _).mono ?_; rintro e w' ⟨rfl, rfl⟩; rw [b2]))
    go_returns
    exact ⟨rfl, by go_grown⟩
  · have b1 := inB_f hy
    clear h hy
    go_enter Tryd.func40, Tryd.ntmps40
    go_wp2_with (first | (go_at_call 63; refine (isYear_any _ _).mono ?_; rintro e w' ⟨rfl, rfl⟩; rw [b1]))
    go_returns
    exact ⟨rfl, by go_grown⟩

theorem eq_f {a b : Int} (h : ¬ a = b) : (a == b) = false := by simpa using h

theorem bel_of {w w' : World} {o : Obj} (h : Below (w.alloc o).drew.heap.size (w.alloc o).drew w') : Below w.heap.size w w' :=
  (((Below.refl _ _).alloc (Nat.le_refl _) _).drew).trans (h.mono (by simp [World.drew]))

set_option maxHeartbeats 2000000 in
theorem implDayOf_yes (y m d : Int) (w : World) (ht : ML w) (hp : 0 < w.heap.size) (y0 : 2000 ≤ y) (y1 : y ≤ 2109) (m1 : 1 ≤ m) (m2 : m ≤ 12) :
    Calls Tryd.prog 40 #[.agg #[.int .i64 y, .int .i64 m, .int .i64 d]] w fun e w' => e = .returned (.int .i64 (dayV y m d)) ∧ Below w.heap.size w w' := by
  have b1 := inB_t ⟨y0, y1⟩
  have b2 := inB_t ⟨m1, m2⟩
  have HT : Hid (ML (w.alloc (.cells #[.int .i64 y, .int .i64 m, .int .i64 d] 57 (0, 0)))) := ht.alloc hp _
  clear ht
  go_enter Tryd.func40, Tryd.ntmps40
  go_wp2_with (first | (go_at_call 63; refine (isYear_any _ _).mono ?_; rintro e w' ⟨rfl, rfl⟩; rw [b1]) | (go_at_call 64; refine (isMonth_any _ _).mono ?_; rintro e w' ⟨rfl, rfl⟩; rw [b2]))
  go_loop [3, 4] (fun v u => ∃ (n : Nat) (V Yr : Int), v = .int .i64 V ∧ u = .int .i64 Yr ∧ 2000 ≤ Yr ∧ Yr ≤ y ∧ Hid (Yr = 2000 + n) ∧ Hid (1 ≤ d ∧ d ≤ 31 → V = d - 1 + yS n)) (fun _ u => (y - intOf u).toNat)
  case atStart => exact ⟨0, _, 2000, rfl, rfl, by omega, y0, rfl, fun h => by simp only [yS]; rw [i64_of (by omega) (by omega)]; omega⟩
  case round =>
    obtain ⟨n, V, Yr, rfl, rfl, r0, r1, hY, hV⟩ := hrel
    by_cases hlt : Yr < y
    · go_wp2_with (first | (go_at_call 61; refine (yearDays_any _ _ (by omega)).mono ?_; rintro e w' ⟨rfl, rfl⟩))
      go_round
      case rel =>
        refine ⟨n + 1, _, _, rfl, rfl, by omega, by omega, by have := hY.out; unfold Hid; push_cast; omega, fun h => ?_⟩
        have e := hV.out h
        have := yS_ge n; have := yS_le n; have := yd_in Yr; have := hY.out
        rw [i64_of (by omega) (by omega), yS_step, ← hY.out]; omega
      case measure => simp [intOf]; omega
    · have hYy : Yr = y := by omega
      subst hYy
      go_wp2_with (first | (go_at_call 61; refine (yearDays_any _ _ (by omega)).mono ?_; rintro e w' ⟨rfl, rfl⟩))
      clear hlt r1
      go_loop [3, 5] (fun v u => ∃ (k : Nat) (U Mo : Int), v = .int .i64 U ∧ u = .int .i64 Mo ∧ 1 ≤ Mo ∧ Mo ≤ m ∧ Hid (Mo = 1 + k) ∧ Hid (1 ≤ d ∧ d ≤ 31 → U = d - 1 + yS n + mS Yr k)) (fun _ u => (m - intOf u).toNat)
      case atStart => exact ⟨0, _, 1, rfl, rfl, by omega, m1, rfl, fun h => by rw [hV.out h]; simp [mS]⟩
      case round =>
        obtain ⟨k, U, Mo, rfl, rfl, s0, s1, hM, hU⟩ := hrel
        by_cases hlt : Mo < m
        · go_wp2_with (first | (go_at_call 39; refine (monthDays_any _ _ _ (by omega) (by omega) (by omega) HT.out).mono ?_; rintro e w' ⟨rfl, rfl⟩))
          go_round
          case rel =>
            refine ⟨k + 1, _, _, rfl, rfl, by omega, by omega, by have := hM.out; unfold Hid; push_cast; omega, fun h => ?_⟩
            have e := hU.out h
            have := yS_ge n; have := yS_le n; have := mS_nonneg Yr k; have := mS_le Yr k; have := md_in Yr Mo; have := hM.out; have := hY.out
            rw [i64_of (by omega) (by omega), mS_step, show ((k : Int) + 1) = Mo by omega]; omega
          case measure => simp [intOf]; omega
        · have hMm : Mo = m := by omega
          subst hMm
          clear hlt s1
          have hK := key Yr Mo d U y0 m1 m2 (fun h => by
            rw [hU.out h]; unfold sumV
            have := hY.out; have := hM.out
            rw [show (Yr - 2000).toNat = n by omega, show (Mo - 1).toNat = k by omega]; omega)
          have HD : Hid (DB (w.alloc (.cells #[.int .i64 Yr, .int .i64 Mo, .int .i64 d] 57 (0, 0))) w.heap.size Yr Mo d) := DB.new _ _ _
          have hp' : 0 < (w.alloc (.cells #[.int .i64 Yr, .int .i64 Mo, .int .i64 d] 57 (0, 0))).heap.size := by simp
          rcases hK with ⟨k1, k2⟩ | ⟨k1, k2⟩
          · have k1' : dateA (dat U) = .agg #[.int .i64 Yr, .int .i64 Mo, .int .i64 d] := by rw [k1]; rfl
            clear k1
            go_wp2
            go_region_with (go_at_call 38; refine (implDateOf_any U (w.alloc (.cells #[.int .i64 Yr, .int .i64 Mo, .int .i64 d] 57 (0, 0))).drew HT.out hp').mono ?_; rintro e w' ⟨rfl, hb⟩; rw [k1']; have D2 : DB w' w.heap.size Yr Mo d := DB.below (w := (w.alloc (.cells #[.int .i64 Yr, .int .i64 Mo, .int .i64 d] 57 (0, 0))).drew) HD.out hb (by simp); have e0 := D2.c0; have e1 := D2.c1; have e2 := D2.c2; clear D2)
            all_goals go_wp2
            all_goals go_returns
            all_goals exact ⟨ret_int k2.symm, bel_of hb⟩
          · obtain ⟨t, hT⟩ : ∃ t, t = dat U := ⟨_, rfl⟩
            obtain ⟨ta, tb, tc⟩ := t
            rw [← hT] at k2
            have k1' : dateA (dat U) = .agg #[.int .i64 ta, .int .i64 tb, .int .i64 tc] := by rw [← hT]; rfl
            clear hT
            simp only at k2
            rcases k2 with k2 | k2 | k2
            all_goals
              have k3 := eq_f k2
              clear k2
              go_wp2
              go_region_with (go_at_call 38; refine (implDateOf_any U (w.alloc (.cells #[.int .i64 Yr, .int .i64 Mo, .int .i64 d] 57 (0, 0))).drew HT.out hp').mono ?_; rintro e w' ⟨rfl, hb⟩; rw [k1']; have D2 : DB w' w.heap.size Yr Mo d := DB.below (w := (w.alloc (.cells #[.int .i64 Yr, .int .i64 Mo, .int .i64 d] 57 (0, 0))).drew) HD.out hb (by simp); have e0 := D2.c0; have e1 := D2.c1; have e2 := D2.c2; clear D2)
              all_goals go_wp2
              all_goals go_returns
              all_goals exact ⟨ret_int k1.symm, bel_of hb⟩

theorem implDayOf_any (y m d : Int) (w : World) (ht : ML w) (hp : 0 < w.heap.size) :
    Calls Tryd.prog 40 #[.agg #[.int .i64 y, .int .i64 m, .int .i64 d]] w fun e w' => e = .returned (.int .i64 (dayV y m d)) ∧ Below w.heap.size w w' := by
  by_cases h : 2000 ≤ y ∧ y ≤ 2109
  · by_cases g : 1 ≤ m ∧ m ≤ 12
    · exact implDayOf_yes y m d w ht hp h.1 h.2 g.1 g.2
    · rw [dayV_mon g]; exact implDayOf_no y m d w (.inr g)
  · rw [dayV_far h]; exact implDayOf_no y m d w (.inl h)

end Go.Proofs.YtlhgmdmbjpaakaaDoor.Dt
