/- The contract of the model's DateOf: the date of a day, and three noughts where it is none. -/
import Derived.Test.YtlhgmdmbjpaakaaDoorDo
namespace Go.Proofs.YtlhgmdmbjpaakaaDoor.Dt
open Go.ChangeShapes Go.WideShapes Go.ChangeAt Go.RowKit
set_option linter.unusedVariables false
set_option linter.unusedSimpArgs false

theorem mS_next {Y : Int} {k : Nat} (h : k = 11) (n : Nat) (hY : Y = 2000 + n) : yS (n + 1) = yS n + mS Y k + md Y (k + 1) := by
  subst h
  have e := mS12 Y
  rw [mS_step] at e
  rw [yS_step, ← hY, ← e]; omega

set_option maxHeartbeats 1000000 in
theorem specDateOf_in (day : Int) (w : World) (h1 : 0 ≤ day) (h2 : day ≤ 40000) :
    Calls Tryd.prog 55 #[.int .i64 day] w fun e w' => e = .returned (dateA (dat day)) ∧ Below w.heap.size w w' := by
  have hd := dayB_t ⟨h1, h2⟩
  go_enter Tryd.func55, Tryd.ntmps55
  go_wp2_with (go_at_call 54; refine (l2Day_any _ _).mono ?_; rintro e w' ⟨rfl, rfl⟩; rw [hd])
  go_loop [0, 3, 4] (fun i y m => ∃ (n k : Nat) (r Y M : Int), i = .int .i64 r ∧ y = .int .i64 Y ∧ m = .int .i64 M ∧ 0 ≤ r ∧ r ≤ 40000 ∧ Hid (Y = 2000 + n) ∧ Hid (M = k + 1) ∧ Hid (yS n + mS Y k + r = day) ∧ 2000 ≤ Y ∧ Y ≤ 2110 ∧ 1 ≤ M ∧ M ≤ 12) (fun i _ _ => (intOf i).toNat)
  case atStart => exact ⟨0, 0, day, 2000, 1, rfl, rfl, rfl, h1, h2, rfl, rfl, by simp [yS, mS, Hid], by omega, by omega, by omega, by omega⟩
  case round =>
    obtain ⟨n, k, r, Y, M, rfl, rfl, rfl, r0, r1, hY, hM, hsum, y0, y1, m1, m2⟩ := hrel
    have mdi := md_in Y M
    have hYb : Hid (Y ≤ 2109) := by
      have := yS_ge n; have := mS_nonneg Y k; have := hY.out; have := hsum.out
      unfold Hid; omega
    by_cases hr : r < md Y M
    · have hdat : dat day = (Y, M, r + 1) := dat_eq ⟨n, k, hY.out, hM.out, by have := hM.out; omega, by omega, by omega, by have := hsum.out; omega⟩ h1 h2
      go_wp2_with (go_at_call 56; refine (l2Long_any _ _ _ (by omega) (by omega) (by omega)).mono ?_; rintro e w' ⟨rfl, rfl⟩)
      go_returns
      exact ⟨by rw [hdat]; rfl, by go_grown⟩
    · by_cases h12 : M = 12
      · have hk : k = 11 := by have := hM.out; omega
        have hs : Hid (yS (n + 1) + mS (Y + 1) 0 + (r - md Y M) = day) := by
          have e := mS_next hk n hY.out
          have := hsum.out
          rw [← hM.out] at e
          unfold Hid; simp only [mS]; omega
        have yb := hYb.out
        have hY2 : Hid (Y + 1 = 2000 + ((n + 1 : Nat) : Int)) := by have := hY.out; unfold Hid; push_cast; omega
        clear hk hsum hY hM
        subst h12
        go_wp2_with (go_at_call 56; refine (l2Long_any _ _ _ (by omega) (by omega) (by omega)).mono ?_; rintro e w' ⟨rfl, rfl⟩)
        go_round
        case rel => exact ⟨n + 1, 0, _, _, _, rfl, rfl, rfl, by omega, by omega, hY2, rfl, hs, by omega, by omega, by omega, by omega⟩
        case measure => simp [intOf]; omega
      · have hs : Hid (yS n + mS Y (k + 1) + (r - md Y M) = day) := by
          have := hsum.out
          unfold Hid; rw [mS_step, ← hM.out]; omega
        have hM2 : Hid (M + 1 = ((k + 1 : Nat) : Int) + 1) := by have := hM.out; unfold Hid; push_cast; omega
        have b13 : (M + 1 == 13) = false := by simpa using (by omega : ¬ M + 1 = 13)
        have m3 : M ≤ 11 := by omega
        clear hsum hM h12
        go_wp2_with (go_at_call 56; refine (l2Long_any _ _ _ (by omega) (by omega) (by omega)).mono ?_; rintro e w' ⟨rfl, rfl⟩)
        go_round
        case rel => exact ⟨n, k + 1, _, _, _, rfl, rfl, rfl, by omega, by omega, hY, hM2, hs, by omega, by omega, by omega, by omega⟩
        case measure => simp [intOf]; omega

theorem specDateOf_out (day : Int) (w : World) (h : ¬ (0 ≤ day ∧ day ≤ 40000)) :
    Calls Tryd.prog 55 #[.int .i64 day] w fun e w' => e = .returned (dateA (dat day)) ∧ Below w.heap.size w w' := by
  have hd := dayB_f h
  rw [dat_none h]
  go_enter Tryd.func55, Tryd.ntmps55
  go_wp2_with (go_at_call 54; refine (l2Day_any _ _).mono ?_; rintro e w' ⟨rfl, rfl⟩; rw [hd])
  go_returns
  exact ⟨rfl, by go_grown⟩

/-- DateOf of the model. -/
theorem specDateOf_any (day : Int) (w : World) :
    Calls Tryd.prog 55 #[.int .i64 day] w fun e w' => e = .returned (dateA (dat day)) ∧ Below w.heap.size w w' := by
  by_cases h : 0 ≤ day ∧ day ≤ 40000
  · exact specDateOf_in day w h.1 h.2
  · exact specDateOf_out day w h

end Go.Proofs.YtlhgmdmbjpaakaaDoor.Dt
