/- Contracts of RoundTo, in the program and in the model: both answer 'rtV' and 'rtB', at every argument; nothing that was there is written. -/
import Derived.Test.YtidhnmodedbmgaaMm
import Derived.Test.YtidhnmodedbmgaaMj
namespace Go.Proofs.Ytidhnmodedbmgaa
open Go.ChangeShapes Go.WideShapes Go.ChangeAt Go.RowKit
set_option linter.unusedVariables false
set_option linter.unusedSimpArgs false

def rtB (a s m : Int) : Bool := decide (-100000000000 ≤ a ∧ a ≤ 100000000000 ∧ 1 ≤ s ∧ s ≤ 10000000 ∧ 1 ≤ m ∧ m ≤ 6) && amB (dv a s m * s)
def rtV (a s m : Int) : Int := if rtB a s m = true then dv a s m * s else 0

theorem dv_small (a s m : Int) (h0 : -100000000000 ≤ a) (h1 : a ≤ 100000000000) (hs : 1 ≤ s) : -100000000000 ≤ dv a s m ∧ dv a s m ≤ 100000000000 := by
  obtain ⟨c0, c1, cp, cn⟩ := cut_facts a s hs
  by_cases hs1 : s = 1
  · subst hs1
    have hr : cr a 1 = 0 := by omega
    have hd : a.tdiv 1 = a := Int.tdiv_one a
    have : dv a 1 m = a := by
      unfold dv; rw [hr, hd]; simp [rnd, fur]
    rw [this]; omega
  · have near := rnd_near (a.tdiv s) (cr a s) s (decide (a < 0)) m
    unfold dv
    by_cases h : a < 0
    · obtain ⟨n1, n2, n3, n4⟩ := cn h
      have : a.tdiv s * s ≤ a.tdiv s * 2 := Int.mul_le_mul_of_nonpos_left n2 (by omega)
      omega
    · obtain ⟨n1, n2, n3, n4, n5⟩ := cp (by omega)
      have : a.tdiv s * 2 ≤ a.tdiv s * s := Int.mul_le_mul_of_nonneg_left (by omega) n1
      omega

theorem prod_bd (d s : Int) (h0 : -100000000000 ≤ d) (h1 : d ≤ 100000000000) (hs : 1 ≤ s) (hs1 : s ≤ 10000000) : -1000000000000000000 ≤ d * s ∧ d * s ≤ 1000000000000000000 := by
  have := mul_bd d s 100000000000 10000000 (by omega) (by omega) (by omega) (by omega) (by omega)
  omega

def RtOk (a s m : Int) : Prop := -100000000000 ≤ a ∧ a ≤ 100000000000 ∧ 1 ≤ s ∧ s ≤ 10000000 ∧ 1 ≤ m ∧ m ≤ 6

theorem rt_bad {a s m : Int} (h : ¬ RtOk a s m) : rtB a s m = false ∧ rtV a s m = 0 := by
  have : rtB a s m = false := by unfold RtOk at h; unfold rtB; rw [decide_eq_false h]; rfl
  exact ⟨this, by unfold rtV; rw [this]; rfl⟩

theorem rt_ok {a s m : Int} (h : RtOk a s m) : rtB a s m = amB (dv a s m * s) ∧ rtV a s m = am (dv a s m * s) := by
  have e : rtB a s m = amB (dv a s m * s) := by unfold RtOk at h; unfold rtB; rw [decide_eq_true h]; rfl
  refine ⟨e, ?_⟩
  unfold rtV; rw [e]; unfold amB am
  by_cases g : -100000000000 ≤ dv a s m * s ∧ dv a s m * s ≤ 100000000000
  · rw [if_pos g, decide_eq_true g]; rfl
  · rw [if_neg g, decide_eq_false g]; rfl

theorem md_one_ok {a s m : Int} (h : RtOk a s m) : mdB a 1 s m = true ∧ mdV a 1 s m = dv a s m := by
  unfold RtOk at h
  have e := dv_small a s m (by omega) (by omega) (by omega)
  have := @md_in a 1 s m (by unfold MdOk; omega) (by rw [Int.mul_one]; exact e.1) (by rw [Int.mul_one]; exact e.2)
  rw [Int.mul_one] at this; exact this

theorem md_one_bad {a s m : Int} (h : ¬ RtOk a s m) : mdB a 1 s m = false ∧ mdV a 1 s m = 0 := by
  unfold RtOk at h
  exact md_bad (by unfold MdOk; omega)

set_option maxHeartbeats 1000000 in
theorem implRoundTo_any (a s m : Int) (w : World) :
    Calls Try.prog 48 #[.int .i64 a, .int .i64 s, .int .i64 m] w fun e w' => e = .returned (.tuple #[.int .i64 (rtV a s m), .bool (rtB a s m)]) ∧ Below w.heap.size w w' := by
  by_cases hok : RtOk a s m
  · obtain ⟨m1, m2⟩ := md_one_ok hok
    have R := rt_ok hok
    rw [R.1, R.2]
    clear R
    unfold RtOk at hok
    have e := dv_small a s m (by omega) (by omega) (by omega)
    obtain ⟨p1, p2⟩ := prod_bd (dv a s m) s e.1 e.2 (by omega) (by omega)
    go_enter Try.func48, Try.ntmps48
    go_wp2_with (first | (go_at_call 74; refine (implMulDiv_any _ _ _ _ _).mono ?_; rintro e w1 ⟨rfl, hb⟩) | (go_at_call 75; refine (amountOr0_any (dv a s m * s) _).mono ?_; rintro e w4 ⟨rfl, rfl⟩))
    go_returns
    exact ⟨rfl, hb⟩
  · obtain ⟨m1, m2⟩ := md_one_bad hok
    have R := rt_bad hok
    rw [R.1, R.2]
    clear R hok
    go_enter Try.func48, Try.ntmps48
    go_wp2_with (go_at_call 74; refine (implMulDiv_any _ _ _ _ _).mono ?_; rintro e w1 ⟨rfl, hb⟩)
    go_returns
    exact ⟨rfl, hb⟩

set_option maxHeartbeats 2000000 in
theorem specRoundTo_any (a s m : Int) (w : World) :
    Calls Try.prog 59 #[.int .i64 a, .int .i64 s, .int .i64 m] w fun e w' => e = .returned (.tuple #[.int .i64 (rtV a s m), .bool (rtB a s m)]) ∧ w' = w := by
  by_cases hok : RtOk a s m
  · have R := rt_ok hok
    rw [R.1, R.2]
    clear R
    unfold RtOk at hok
    obtain ⟨a1, a2, a3, a4, a5, a6⟩ := hok
    have e := dv_small a s m a1 a2 a3
    obtain ⟨p1, p2⟩ := prod_bd (dv a s m) s e.1 e.2 a3 a4
    obtain ⟨x, hx⟩ : ∃ x, dv a s m * s = x := ⟨_, rfl⟩
    rw [hx] at p1 p2
    have HX : Hid (dv a s m * s = x) := hx
    rw [hx]
    clear e
    rcases (show x < -100000000000 ∨ (-100000000000 ≤ x ∧ x ≤ 100000000000) ∨ (-100000000000 ≤ x ∧ 100000000000 < x) by omega) with g | ⟨g, g2⟩ | ⟨g, g2⟩
    · have q1 : am x = 0 := if_neg (by omega)
      have q2 : amB x = false := decide_eq_false (by omega)
      rw [q1, q2]; clear q1 q2
      go_enter Try.func59, Try.ntmps59
      go_wp2_with (first | (go_at_call 70; refine (l1Div_any a s m _ (by omega) (by omega) a3 (by omega) a5 a6).mono ?_; rintro e w' ⟨rfl, rfl⟩) | go_in)
      go_returns
      exact ⟨rfl, rfl⟩
    · have q1 : am x = x := if_pos ⟨g, g2⟩
      have q2 : amB x = true := decide_eq_true ⟨g, g2⟩
      rw [q1, q2]; clear q1 q2
      go_enter Try.func59, Try.ntmps59
      go_wp2_with (first | (go_at_call 70; refine (l1Div_any a s m _ (by omega) (by omega) a3 (by omega) a5 a6).mono ?_; rintro e w' ⟨rfl, rfl⟩) | go_in)
      go_returns
      exact ⟨rfl, rfl⟩
    · have q1 : am x = 0 := if_neg (by omega)
      have q2 : amB x = false := decide_eq_false (by omega)
      rw [q1, q2]; clear q1 q2
      have hdx : decide (x ≤ 100000000000) = false := decide_eq_false (by omega)
      go_enter Try.func59, Try.ntmps59
      go_wp2_with (first | (go_at_call 70; refine (l1Div_any a s m _ (by omega) (by omega) a3 (by omega) a5 a6).mono ?_; rintro e w' ⟨rfl, rfl⟩) | go_in)
      go_returns
      exact ⟨rfl, rfl⟩
  · have R := rt_bad hok
    rw [R.1, R.2]
    clear R
    unfold RtOk at hok
    rcases (show a < -100000000000 ∨ (-100000000000 ≤ a ∧ 100000000000 < a) ∨ ((-100000000000 ≤ a ∧ a ≤ 100000000000) ∧ (s < 1 ∨ (1 ≤ s ∧ 10000000 < s) ∨ ((1 ≤ s ∧ s ≤ 10000000) ∧ (m < 1 ∨ (1 ≤ m ∧ 6 < m))))) by omega) with h | ⟨h1, h2⟩ | ⟨⟨h1, h2⟩, h | ⟨h3, h4⟩ | ⟨⟨h3, h4⟩, h | ⟨h5, h6⟩⟩⟩
    all_goals
      clear hok
      try have q1 : decide (a ≤ 100000000000) = false := decide_eq_false (by omega)
      try have q2 : decide (s ≤ 10000000) = false := decide_eq_false (by omega)
      try have q3 : decide (m ≤ 6) = false := decide_eq_false (by omega)
      go_enter Try.func59, Try.ntmps59
      go_wp2
      go_returns
      exact ⟨rfl, rfl⟩

end Go.Proofs.Ytidhnmodedbmgaa
