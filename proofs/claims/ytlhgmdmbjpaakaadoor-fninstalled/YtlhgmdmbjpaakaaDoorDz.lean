/- The contract of the model's DayOf: at every date, right or not, what 'dayV' says. -/
import Derived.Test.YtlhgmdmbjpaakaaDoorDy
namespace Go.Proofs.YtlhgmdmbjpaakaaDoor.Dt
open Go.ChangeShapes Go.WideShapes Go.ChangeAt Go.RowKit
set_option linter.unusedVariables false
set_option linter.unusedSimpArgs false

theorem l1In_eq (x lo hi : Int) (b : Bool) (w : World) (h : inB x lo hi = b) : Calls Tryd.prog 26 #[.int .i64 x, .int .i64 lo, .int .i64 hi] w fun e w' => e = .returned (.bool b) ∧ w' = w := by
  have := l1In_any x lo hi w
  rwa [h] at this

theorem bel_n {w : World} {o : Obj} {q : Nat} : Below w.heap.size w ((w.alloc o).drewN q) :=
  below_drewN ((Below.refl _ _).alloc (Nat.le_refl _) _) q

set_option maxHeartbeats 1000000 in
theorem specDayOf_no (y m d : Int) (w : World) (h : ¬ (2000 ≤ y ∧ y ≤ 2200) ∨ ¬ (1 ≤ m ∧ m ≤ 12) ∨ ¬ (1 ≤ d ∧ d ≤ md y m)) :
    Calls Tryd.prog 57 #[.agg #[.int .i64 y, .int .i64 m, .int .i64 d]] w fun e w' => e = .returned (.int .i64 (-1)) ∧ Below w.heap.size w w' := by
  by_cases hy : 2000 ≤ y ∧ y ≤ 2200
  · by_cases hm : 1 ≤ m ∧ m ≤ 12
    · have hd : ¬ (1 ≤ d ∧ d ≤ md y m) := by omega
      obtain ⟨y0, y1⟩ := hy
      obtain ⟨m1, m2⟩ := hm
      have b1 := inB_t ⟨y0, y1⟩
      have b2 := inB_t ⟨m1, m2⟩
      have b3 := inB_f hd
      clear h hd
      go_enter Tryd.func57, Tryd.ntmps57
      go_wp2
      go_quiet (first | (go_at_call 26; exact Calls.quiet_of_same (l1In_eq _ _ _ _ _ (by assumption))) | (go_at_call 56; exact Calls.quiet_of_same (l2Long_any _ _ _ (by omega) m1 m2)))
      go_wp2
      go_returns
      exact ⟨rfl, bel_n⟩
    · obtain ⟨y0, y1⟩ := hy
      have b1 := inB_t ⟨y0, y1⟩
      have b2 := inB_f hm
      clear h hm
      go_enter Tryd.func57, Tryd.ntmps57
      go_wp2
      go_quiet ((go_at_call 26; exact Calls.quiet_of_same (l1In_eq _ _ _ _ _ (by assumption))))
      go_wp2
      go_returns
      exact ⟨rfl, bel_n⟩
  · have b1 := inB_f hy
    clear h hy
    go_enter Tryd.func57, Tryd.ntmps57
    go_wp2
    go_quiet ((go_at_call 26; exact Calls.quiet_of_same (l1In_eq _ _ _ _ _ (by assumption))))
    go_wp2
    go_returns
    exact ⟨rfl, bel_n⟩

set_option maxHeartbeats 2000000 in
theorem specDayOf_yes (y m d : Int) (w : World) (y0 : 2000 ≤ y) (y1 : y ≤ 2200) (m1 : 1 ≤ m) (m2 : m ≤ 12) (d1 : 1 ≤ d) (d2 : d ≤ md y m) :
    Calls Tryd.prog 57 #[.agg #[.int .i64 y, .int .i64 m, .int .i64 d]] w fun e w' => e = .returned (.int .i64 (dayV y m d)) ∧ Below w.heap.size w w' := by
  have d3 : d ≤ 31 := by have := md_in y m; omega
  have b1 := inB_t ⟨y0, y1⟩
  have b2 := inB_t ⟨m1, m2⟩
  have b3 := inB_t ⟨d1, d2⟩
  go_enter Tryd.func57, Tryd.ntmps57
  go_wp2
  go_quiet (first | (go_at_call 26; exact Calls.quiet_of_same (l1In_eq _ _ _ _ _ (by assumption))) | (go_at_call 56; exact Calls.quiet_of_same (l2Long_any _ _ _ (by omega) m1 m2)))
  go_wp2
  clear b1 b2 b3
  go_loop [3, 4] (fun v u => ∃ (n : Nat) (V Yr : Int), v = .int .i64 V ∧ u = .int .i64 Yr ∧ 2000 ≤ Yr ∧ Yr ≤ y ∧ 0 ≤ V ∧ V ≤ 74000 ∧ Hid (Yr = 2000 + n) ∧ Hid (V = d - 1 + yS n)) (fun _ u => (y - intOf u).toNat)
  case atStart => exact ⟨0, _, 2000, rfl, rfl, by omega, y0, by omega, by omega, rfl, by unfold Hid; simp only [yS]; omega⟩
  case round =>
    obtain ⟨n, V, Yr, rfl, rfl, r0, r1, v0, v1, hY, hV⟩ := hrel
    by_cases hlt : Yr < y
    · have hs : Hid (V + yd Yr = d - 1 + yS (n + 1)) := by
        have := hV.out; have e := hY.out
        unfold Hid; rw [yS_step, ← e]; omega
      have hs2 : Hid (d - 1 + yS (n + 1) ≤ 74000) := by
        have := yS_le (n + 1); have := hY.out
        unfold Hid; push_cast at this; omega
      have hY2 : Hid (Yr + 1 = 2000 + ((n + 1 : Nat) : Int)) := by have := hY.out; unfold Hid; push_cast; omega
      rcases hl : leapB Yr
      · have e := yd_f hl
        have hv : Hid (V + 365 = d - 1 + yS (n + 1)) := by rw [← e]; exact hs
        clear e hs
        go_wp2_with (first | (go_at_call 70; refine (l2Leap_any _ _ (by omega)).mono ?_; rintro e w' ⟨rfl, rfl⟩; rw [hl]))
        go_round
        case rel => exact ⟨n + 1, _, _, rfl, rfl, by omega, by omega, by omega, by have := hv.out; have := hs2.out; omega, hY2, hv⟩
        case measure => simp [intOf]; omega
      · have e := yd_t hl
        have hv : Hid (V + 365 + 1 = d - 1 + yS (n + 1)) := by have := hs.out; unfold Hid; rw [e] at this; omega
        clear e hs
        go_wp2_with (first | (go_at_call 70; refine (l2Leap_any _ _ (by omega)).mono ?_; rintro e w' ⟨rfl, rfl⟩; rw [hl]))
        go_round
        case rel => exact ⟨n + 1, _, _, rfl, rfl, by omega, by omega, by omega, by have := hv.out; have := hs2.out; omega, hY2, hv⟩
        case measure => simp [intOf]; omega
    · have hYy : Yr = y := by omega
      subst hYy
      clear hlt r1
      go_wp2_with (first | (go_at_call 70; refine (l2Leap_any _ _ (by omega)).mono ?_; rintro e w' ⟨rfl, rfl⟩))
      go_loop [3, 5] (fun v u => ∃ (k : Nat) (U Mo : Int), v = .int .i64 U ∧ u = .int .i64 Mo ∧ 1 ≤ Mo ∧ Mo ≤ m ∧ 0 ≤ U ∧ U ≤ 74400 ∧ Hid (Mo = 1 + k) ∧ Hid (U = V + mS Yr k)) (fun _ u => (m - intOf u).toNat)
      case atStart => exact ⟨0, _, 1, rfl, rfl, by omega, m1, by omega, by omega, rfl, by unfold Hid; simp only [mS]; omega⟩
      case round =>
        obtain ⟨k, U, Mo, rfl, rfl, s0, s1, u0, u1, hM, hU⟩ := hrel
        have mdi := md_in Yr Mo
        by_cases hlt : Mo < m
        · have hs : Hid (U + md Yr Mo = V + mS Yr (k + 1)) := by
            have := hU.out
            unfold Hid; rw [mS_step, show ((k : Int) + 1) = Mo by have := hM.out; omega]; omega
          have hs2 : Hid (U + md Yr Mo ≤ 74400) := by
            have := mS_le Yr (k + 1); have := hM.out; have := hs.out
            unfold Hid; push_cast at this; omega
          go_wp2_with (first | (go_at_call 56; refine (l2Long_any _ _ _ (by omega) (by omega) (by omega)).mono ?_; rintro e w' ⟨rfl, rfl⟩))
          go_round
          case rel => exact ⟨k + 1, _, _, rfl, rfl, by omega, by omega, by omega, hs2.out, by have := hM.out; unfold Hid; push_cast; omega, hs⟩
          case measure => simp [intOf]; omega
        · have hMm : Mo = m := by omega
          subst hMm
          clear hlt s1
          have hS : sumV Yr Mo d = U := by
            rw [hU.out, hV.out]; unfold sumV
            have := hY.out; have := hM.out
            rw [show (Yr - 2000).toNat = n by omega, show (Mo - 1).toNat = k by omega]; omega
          have hd := dayV_in y0 m1 m2 d1 d2
          rw [hS] at hd
          clear hS
          by_cases hs : U ≤ 40000
          · rw [if_pos hs] at hd
            have db := dayB_t ⟨u0, hs⟩
            have HD : Hid (dayV Yr Mo d = U) := hd
            clear hd
            go_wp2_with (go_at_call 54; refine (l2Day_any _ _).mono ?_; rintro e w' ⟨rfl, rfl⟩; rw [db])
            go_returns
            exact ⟨ret_int HD.out.symm, bel_n⟩
          · rw [if_neg hs] at hd
            have db := dayB_f (d := U) (by omega)
            have HD : Hid (dayV Yr Mo d = -1) := hd
            clear hd
            go_wp2_with (go_at_call 54; refine (l2Day_any _ _).mono ?_; rintro e w' ⟨rfl, rfl⟩; rw [db])
            go_returns
            exact ⟨ret_int HD.out.symm, bel_n⟩

theorem specDayOf_any (y m d : Int) (w : World) :
    Calls Tryd.prog 57 #[.agg #[.int .i64 y, .int .i64 m, .int .i64 d]] w fun e w' => e = .returned (.int .i64 (dayV y m d)) ∧ Below w.heap.size w w' := by
  by_cases h : 2000 ≤ y ∧ y ≤ 2200
  · by_cases g : 1 ≤ m ∧ m ≤ 12
    · by_cases f : 1 ≤ d ∧ d ≤ md y m
      · exact specDayOf_yes y m d w h.1 h.2 g.1 g.2 f.1 f.2
      · rw [dayV_day f]; exact specDayOf_no y m d w (.inr (.inr f))
    · rw [dayV_mon g]; exact specDayOf_no y m d w (.inr (.inl g))
  · rw [dayV_far (by omega)]; exact specDayOf_no y m d w (.inl h)

end Go.Proofs.YtlhgmdmbjpaakaaDoor.Dt
