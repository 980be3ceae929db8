/- Plain facts on the last day of a month and on months on, and the contract of the program's Weekday. -/
import Derived.Test.YtadjdpoplaknkaaDoorAd
namespace Go.Proofs.YtadjdpoplaknkaaDoor
open Go.ChangeShapes Go.WideShapes Go.ChangeAt Go.RowKit
set_option linter.unusedVariables false

theorem mend_facts {d y m dd : Int} (h0 : 0 ≤ d) (h1 : d < 39960) (hd : dat d = (y, m, dd)) :
    ∃ E y2 m2, mendV d = E ∧ d ≤ E ∧ E < d + 31 ∧ E ≤ 39999 ∧ dat E = (y, m, md y m) ∧ dat (E + 1) = (y2, m2, 1) ∧ dayV y m dd = d := by
  have hI := dat_is h0 (by omega)
  rw [hd] at hI
  simp only at hI
  have hdv := hI.dayV (by omega)
  have mdi := md_in y m
  obtain ⟨n, k, rfl, rfl, hk, g1, g2, g3⟩ := hI
  have e0 := mS_nonneg (2000 + n) k
  have e1 := yS_ge n
  have hE : IsDate (d - dd + md (2000 + n) (k + 1)) (2000 + n) (k + 1) (md (2000 + n) (k + 1)) := ⟨n, k, rfl, rfl, hk, by omega, by omega, by omega⟩
  have hm := mendV_in h0 (by omega) hd
  rw [hE.dayV (by omega)] at hm
  refine ⟨d - dd + md (2000 + n) (k + 1), ?_⟩
  by_cases h12 : k + 1 < 12
  · have hN : IsDate (d - dd + md (2000 + n) (k + 1) + 1) (2000 + n) (((k + 1 : Nat) : Int) + 1) 1 := ⟨n, k + 1, rfl, rfl, h12, by omega, by have := md_in (2000 + n) (((k + 1 : Nat) : Int) + 1); omega, by rw [mS_step]; omega⟩
    exact ⟨_, _, hm, by omega, by omega, by omega, dat_eq hE (by omega) (by omega), dat_eq hN (by omega) (by omega), hdv⟩
  · have hk11 : k = 11 := by omega
    have hy := mS12 (2000 + n)
    have hs := mS_step (2000 + n) 11
    rw [hy] at hs
    have hN : IsDate (d - dd + md (2000 + n) (k + 1) + 1) (2000 + ((n + 1 : Nat) : Int)) (((0 : Nat) : Int) + 1) 1 := ⟨n + 1, 0, rfl, rfl, by omega, by omega, by have := md_in (2000 + ((n + 1 : Nat) : Int)) (((0 : Nat) : Int) + 1); omega, by rw [yS_step]; subst hk11; simp only [mS]; have hs2 : mS (2000 + (n : Int)) 11 + md (2000 + (n : Int)) (((11 : Nat) : Int) + 1) = yd (2000 + (n : Int)) := hs.symm; omega⟩
    exact ⟨_, _, hm, by omega, by omega, by omega, dat_eq hE (by omega) (by omega), dat_eq hN (by omega) (by omega), hdv⟩

theorem dayV_yes {Y M D : Int} (h : 0 ≤ dayV Y M D) : 2000 ≤ Y ∧ 1 ≤ M ∧ M ≤ 12 ∧ 1 ≤ D ∧ D ≤ md Y M ∧ dayV Y M D ≤ 40000 ∧ IsDate (dayV Y M D) Y M D := by
  by_cases c : 2000 ≤ Y ∧ 1 ≤ M ∧ M ≤ 12 ∧ 1 ≤ D ∧ D ≤ md Y M ∧ sumV Y M D ≤ 40000
  · have e : dayV Y M D = sumV Y M D := if_pos c
    rw [e]
    exact ⟨c.1, c.2.1, c.2.2.1, c.2.2.2.1, c.2.2.2.2.1, c.2.2.2.2.2, IsDate.of_sum c.1 c.2.1 c.2.2.1 c.2.2.2.1 c.2.2.2.2.1⟩
  · have e : dayV Y M D = -1 := if_neg c
    omega

theorem addV_bd (d n : Int) : -1 ≤ addV d n ∧ addV d n ≤ 40000 := by
  unfold addV
  split
  · unfold dayV
    split
    · rename_i g
      exact ⟨by have := sumV_nonneg (y := (12 * (dat d).1 + (dat d).2.1 - 1 + n) / 12) (m := (12 * (dat d).1 + (dat d).2.1 - 1 + n) % 12 + 1) g.2.2.2.1; omega, g.2.2.2.2.2⟩
    · omega
  · omega

/-- A day n months on: its date, and that it is the month's last where the date was cut. -/
theorem add_facts {d n : Int} (h : 0 ≤ addV d n) : ∃ y m dd Y M D, dat d = (y, m, dd) ∧ dat (addV d n) = (Y, M, D) ∧ (2000 ≤ y ∧ y ≤ 2109) ∧ (1 ≤ m ∧ m ≤ 12) ∧ (1 ≤ dd ∧ dd ≤ 31) ∧ (2000 ≤ Y ∧ Y ≤ 2109) ∧ (1 ≤ M ∧ M ≤ 12) ∧
    Y * 12 + M - y * 12 - m = n ∧ (D = dd ∨ (D < dd ∧ mendV (addV d n) = addV d n)) ∧ 0 ≤ d ∧ d ≤ 40000 ∧ addV d n ≤ 40000 := by
  by_cases c : (0 ≤ d ∧ d ≤ 40000) ∧ -1200 ≤ n ∧ n ≤ 1200
  · obtain ⟨y, m, dd, k1, k2, y0, y1, m1, m2, d1, d2⟩ := dat_open c.1.1 c.1.2
    have e := addV_in c k1
    have hb := addV_bd d n
    have hy := dayV_yes (Y := (12 * y + m - 1 + n) / 12) (M := (12 * y + m - 1 + n) % 12 + 1) (D := min dd (md ((12 * y + m - 1 + n) / 12) ((12 * y + m - 1 + n) % 12 + 1))) (by rw [← e]; exact h)
    rw [← e] at hy
    obtain ⟨a1, a2, a3, a4, a5, a6, a7⟩ := hy
    have hdat := dat_eq a7 h a6
    have hbd := a7.bounds h a6
    refine ⟨y, m, dd, _, _, _, k1, hdat, ⟨y0, y1⟩, ⟨m1, m2⟩, ⟨d1, by have := md_in y m; omega⟩, ⟨a1, hbd.2.1⟩, ⟨a2, a3⟩, by omega, ?_, c.1.1, c.1.2, a6⟩
    by_cases g : dd ≤ md ((12 * y + m - 1 + n) / 12) ((12 * y + m - 1 + n) % 12 + 1)
    · exact .inl (by omega)
    · have emin : min dd (md ((12 * y + m - 1 + n) / 12) ((12 * y + m - 1 + n) % 12 + 1)) = md ((12 * y + m - 1 + n) / 12) ((12 * y + m - 1 + n) % 12 + 1) := by omega
      refine .inr ⟨by omega, ?_⟩
      rw [mendV_in h a6 hdat]
      rw [emin] at e
      exact e.symm
  · have := addV_out c
    omega

theorem add30 : addV 30 1 = 59 := by
  have h1 : IsDate 30 2000 1 31 := ⟨0, 0, rfl, rfl, by omega, by omega, by decide, by simp [yS, mS]⟩
  have hd := dat_eq h1 (by omega) (by omega)
  rw [addV_in (by omega) hd]
  decide

theorem day60 : dayV 2000 3 1 = 60 := by decide

def wkV (d : Int) : Int := if 0 ≤ d ∧ d ≤ 40000 then (d + 5) % 7 else -1
theorem implWeekday_in (d : Int) (w : World) (h1 : 0 ≤ d) (h2 : d ≤ 40000) : Calls Tryd.prog 16 #[.int .i64 d] w fun e w' => e = .returned (.int .i64 ((d + 5) % 7)) ∧ w' = w := by
  have hd := dayB_t ⟨h1, h2⟩
  go_enter Tryd.func16, Tryd.ntmps16
  go_wp2_with (go_at_call 39; refine (isDay_any _ _).mono ?_; rintro e w' ⟨rfl, rfl⟩; rw [hd])
  go_ret
  exact ⟨rfl, rfl⟩

theorem fld1 (a b c : Int) (W : World) : Sem.run Tryd.prog (Instr.field 27 (Value.agg #[.int .i64 a, .int .i64 b, .int .i64 c]) 1) W = Result.ok (.int .i64 b) W := rfl
theorem fld2 (a b c : Int) (W : World) : Sem.run Tryd.prog (Instr.field 27 (Value.agg #[.int .i64 a, .int .i64 b, .int .i64 c]) 2) W = Result.ok (.int .i64 c) W := rfl

end Go.Proofs.YtadjdpoplaknkaaDoor
