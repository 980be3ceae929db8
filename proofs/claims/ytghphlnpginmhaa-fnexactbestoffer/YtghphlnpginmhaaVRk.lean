/- Contracts of one rate's tests and of the comparison of two rates. -/
import Derived.Test.YtghphlnpginmhaaVRq
namespace Go.Proofs.Ytghphlnpginmhaa.Rt
open Go.ChangeShapes Go.WideShapes Go.ChangeAt Go.RowKit
set_option linter.unusedVariables false
set_option linter.unusedSimpArgs false
/-- One rate is right among m currencies. -/
def rB (m d f n e : Int) : Bool := inB d 0 40000 && decide (0 < f ∧ f < m) && inB n 1 10000000 && inB e 1 10000000
set_option maxHeartbeats 1000000 in
theorem rIsRight_any (d f n e m : Int) (w : World) :
    Calls Try.prog 148 #[.agg #[.int .i64 d, .int .i64 f, .int .i64 n, .int .i64 e], .int .i64 m] w fun e' w' => e' = .returned (.bool (rB m d f n e)) ∧ Below w.heap.size w w' := by
  cases h1 : inB d 0 40000 <;> cases h2 : inB n 1 10000000 <;> cases h3 : inB e 1 10000000
  all_goals
    go_enter Try.func148, Try.ntmps148
    go_wp2_with (first | (go_at_call 92; refine (isDay_any _ _).mono ?_; rintro e w1 ⟨rfl, rfl⟩) | (go_at_call 144; refine (isDivisor_any _ _).mono ?_; rintro e w1 ⟨rfl, rfl⟩))
    all_goals go_returns
    all_goals exact ⟨ret_bool (by simp [rB, h1, h2, h3]; try omega), by go_grown⟩
def cmpI (a b : Int) : Int := if a < b then -1 else if b < a then 1 else 0
def orI (a b : Int) : Int := if a = 0 then b else a
def cmpV (d f d2 f2 : Int) : Int := orI (cmpI d d2) (cmpI f f2)
def ltB (d f d2 f2 : Int) : Bool := decide (d < d2 ∨ (d = d2 ∧ f < f2))
theorem cmpV_lt {d f d2 f2 : Int} (h : ltB d f d2 f2 = true) : cmpV d f d2 f2 = -1 := by
  unfold ltB at h; simp at h
  unfold cmpV orI cmpI
  repeat' split
  all_goals omega
theorem cmpV_ge {d f d2 f2 : Int} (h : ltB d f d2 f2 = false) : cmpV d f d2 f2 = 0 ∨ cmpV d f d2 f2 = 1 := by
  unfold ltB at h; simp at h
  unfold cmpV orI cmpI
  repeat' split
  all_goals omega
theorem isNaN_any (a : Int) (w : World) : Calls Try.prog 165 #[.int .i64 a] w fun e w' => e = .returned (.bool false) ∧ w' = w := by
  go_enter Try.func165, Try.ntmps165
  go_wp2
  go_returns
  exact ⟨ret_bool (by simp), rfl⟩
theorem ret_i {k : IntKind} {a b : Int} (h : a = b) : Ending.returned (.int k a) = .returned (.int k b) := by rw [h]
theorem compare_any (a b : Int) (w : World) : Calls Try.prog 158 #[.int .i64 a, .int .i64 b] w fun e w' => e = .returned (.int .i64 (cmpI a b)) ∧ w' = w := by
  rcases Int.lt_trichotomy a b with h | h | h
  · go_enter Try.func158, Try.ntmps158
    go_wp2_with (go_at_call 165; refine (isNaN_any _ _).mono ?_; rintro e w' ⟨rfl, rfl⟩)
    go_returns
    exact ⟨ret_i (by unfold cmpI; rw [if_pos h]), rfl⟩
  · have h1 : decide (a < b) = false := decide_eq_false (by omega)
    have h2 : decide (b < a) = false := decide_eq_false (by omega)
    go_enter Try.func158, Try.ntmps158
    go_wp2_with (go_at_call 165; refine (isNaN_any _ _).mono ?_; rintro e w' ⟨rfl, rfl⟩)
    go_returns
    exact ⟨ret_i (by unfold cmpI; rw [if_neg (by omega), if_neg (by omega)]), rfl⟩
  · have h1 : decide (a < b) = false := decide_eq_false (by omega)
    go_enter Try.func158, Try.ntmps158
    go_wp2_with (go_at_call 165; refine (isNaN_any _ _).mono ?_; rintro e w' ⟨rfl, rfl⟩)
    go_returns
    exact ⟨ret_i (by unfold cmpI; rw [if_neg (by omega), if_pos h]), rfl⟩
theorem or_any (k : Nat) (a b : Int) (w : World) (h0 : w.cell? ⟨k, 0, none⟩ = some (.int .i64 a)) (h1 : w.cell? ⟨k, 1, none⟩ = some (.int .i64 b)) :
    Calls Try.prog 157 #[.slice (some ⟨k, 0, none⟩) 2 2] w fun e w' => e = .returned (.int .i64 (orI a b)) ∧ w' = w := by
  by_cases ha : a = 0
  · by_cases hb : b = 0
    · subst ha hb
      go_enter Try.func157, Try.ntmps157
      go_wp2
      refine wp_loop_rounds 3 ?_
      rw [rounds_succ]
      go_wp2
      rw [rounds_succ]
      go_wp2
      rw [rounds_succ]
      go_wp2
      go_returns
      exact ⟨ret_i (by simp [orI]), rfl⟩
    · subst ha
      have e1 : (b == 0) = false := by simpa using hb
      go_enter Try.func157, Try.ntmps157
      go_wp2
      refine wp_loop_rounds 2 ?_
      rw [rounds_succ]
      go_wp2
      rw [rounds_succ]
      go_wp2
      go_returns
      exact ⟨ret_i (by simp [orI]), rfl⟩
  · have e1 : (a == 0) = false := by simpa using ha
    go_enter Try.func157, Try.ntmps157
    go_wp2
    refine wp_loop_rounds 1 ?_
    rw [rounds_succ]
    go_wp2
    go_returns
    exact ⟨ret_i (by simp [orI, ha]), rfl⟩
end Go.Proofs.Ytghphlnpginmhaa.Rt
