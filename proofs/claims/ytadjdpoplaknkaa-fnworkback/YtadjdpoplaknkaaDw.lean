/- Contracts of what tells a day and its weekday, in the program and in the model. No conditions but that a number is one of 64 bits. -/
import Derived.Test.YtadjdpoplaknkaaProg
import Derived.WalkKit
import Derived.ProofKit
import Derived.WalkLawsBesides
namespace Go.Proofs.Ytadjdpoplaknkaa
open Go.ChangeShapes Go.WideShapes Go.ChangeAt Go.RowKit
set_option linter.unusedVariables false

def dayB (d : Int) : Bool := decide (0 ≤ d ∧ d ≤ 40000)

def wkV (d : Int) : Int := if 0 ≤ d ∧ d ≤ 40000 then (d + 5) % 7 else -1

theorem ret_bool {a b : Bool} (h : a = b) : Ending.returned (.bool a) = .returned (.bool b) := by rw [h]
theorem ret_int {a b : Int} (h : a = b) : Ending.returned (.int .i64 a) = .returned (.int .i64 b) := by rw [h]

theorem dayB_t {d : Int} (h : 0 ≤ d ∧ d ≤ 40000) : dayB d = true := decide_eq_true h
theorem dayB_f {d : Int} (h : ¬ (0 ≤ d ∧ d ≤ 40000)) : dayB d = false := decide_eq_false h
theorem wkV_t {d : Int} (h : 0 ≤ d ∧ d ≤ 40000) : wkV d = (d + 5) % 7 := if_pos h
theorem wkV_f {d : Int} (h : ¬ (0 ≤ d ∧ d ≤ 40000)) : wkV d = -1 := if_neg h

theorem isDay_any (d : Int) (w : World) : Calls Try.prog 36 #[.int .i64 d] w fun e w' => e = .returned (.bool (dayB d)) ∧ w' = w := by
  go_enter Try.func36, Try.ntmps36
  go_wp2
  all_goals go_ret
  all_goals
    refine ⟨ret_bool ?_, rfl⟩
    rw [Bool.eq_iff_iff]; simp [dayB]; try omega

def inB (x lo hi : Int) : Bool := decide (lo ≤ x ∧ x ≤ hi)

theorem l1In_any (x lo hi : Int) (w : World) : Calls Try.prog 41 #[.int .i64 x, .int .i64 lo, .int .i64 hi] w fun e w' => e = .returned (.bool (inB x lo hi)) ∧ w' = w := by
  go_enter Try.func41, Try.ntmps41
  go_wp2
  all_goals go_ret
  all_goals
    refine ⟨ret_bool ?_, rfl⟩
    rw [Bool.eq_iff_iff]; simp [inB]; try omega

theorem l2Day_any (d : Int) (w : World) : Calls Try.prog 40 #[.int .i64 d] w fun e w' => e = .returned (.bool (dayB d)) ∧ w' = w := by
  go_enter Try.func40, Try.ntmps40
  go_wp2_with (go_at_call 41; refine (l1In_any _ _ _ _).mono ?_; rintro e w' ⟨rfl, rfl⟩)
  go_ret
  exact ⟨rfl, rfl⟩

theorem implWeekday_any (d : Int) (w : World) : Calls Try.prog 17 #[.int .i64 d] w fun e w' => e = .returned (.int .i64 (wkV d)) ∧ w' = w := by
  by_cases h : 0 ≤ d ∧ d ≤ 40000
  · have hd := dayB_t h
    obtain ⟨h1, h2⟩ := h
    go_enter Try.func17, Try.ntmps17
    go_wp2_with (go_at_call 36; refine (isDay_any _ _).mono ?_; rintro e w' ⟨rfl, rfl⟩; rw [hd])
    go_ret
    exact ⟨ret_int (by rw [wkV_t ⟨h1, h2⟩]), rfl⟩
  · have hd := dayB_f h
    have hw := wkV_f h
    clear h
    go_enter Try.func17, Try.ntmps17
    go_wp2_with (go_at_call 36; refine (isDay_any _ _).mono ?_; rintro e w' ⟨rfl, rfl⟩; rw [hd])
    go_ret
    exact ⟨ret_int hw.symm, rfl⟩

theorem specWeekday_any (d : Int) (w : World) : Calls Try.prog 16 #[.int .i64 d] w fun e w' => e = .returned (.int .i64 (wkV d)) ∧ w' = w := by
  by_cases h : 0 ≤ d ∧ d ≤ 40000
  · have hd := dayB_t h
    obtain ⟨h1, h2⟩ := h
    go_enter Try.func16, Try.ntmps16
    go_wp2_with (go_at_call 40; refine (l2Day_any _ _).mono ?_; rintro e w' ⟨rfl, rfl⟩; rw [hd])
    go_ret
    exact ⟨ret_int (by rw [wkV_t ⟨h1, h2⟩]), rfl⟩
  · have hd := dayB_f h
    have hw := wkV_f h
    clear h
    go_enter Try.func16, Try.ntmps16
    go_wp2_with (go_at_call 40; refine (l2Day_any _ _).mono ?_; rintro e w' ⟨rfl, rfl⟩; rw [hd])
    go_ret
    exact ⟨ret_int hw.symm, rfl⟩

end Go.Proofs.Ytadjdpoplaknkaa
