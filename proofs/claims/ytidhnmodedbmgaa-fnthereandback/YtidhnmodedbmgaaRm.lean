/- Plain arithmetic: how near to the quotient each mode lies. Nothing of the program. -/
import Derived.Test.YtidhnmodedbmgaaDv
namespace Go.Proofs.Ytidhnmodedbmgaa
set_option linter.unusedVariables false

/-- The outcome times the divisor, against what was divided. -/
theorem dv_times (p q m : Int) (hq : 1 ≤ q) : (0 ≤ p ∧ 0 ≤ p.tdiv q * q ∧ p.tdiv q * q + cr p q = p ∧ ((fur (p.tdiv q) (cr p q) q false m = true ∧ dv p q m * q = p.tdiv q * q + q ∧ dv p q m = p.tdiv q + 1) ∨ (fur (p.tdiv q) (cr p q) q false m = false ∧ dv p q m * q = p.tdiv q * q ∧ dv p q m = p.tdiv q))) ∨
    (p < 0 ∧ p.tdiv q * q ≤ 0 ∧ p.tdiv q * q - cr p q = p ∧ ((fur (p.tdiv q) (cr p q) q true m = true ∧ dv p q m * q = p.tdiv q * q - q ∧ dv p q m = p.tdiv q - 1) ∨ (fur (p.tdiv q) (cr p q) q true m = false ∧ dv p q m * q = p.tdiv q * q ∧ dv p q m = p.tdiv q))) := by
  obtain ⟨c0, c1, cp, cn⟩ := cut_facts p q hq
  by_cases h : p < 0
  · obtain ⟨n1, n2, n3, n4⟩ := cn h
    have hle := Int.mul_le_mul_of_nonneg_right n2 (show 0 ≤ q by omega)
    rw [Int.zero_mul] at hle
    refine .inr ⟨h, hle, n4, ?_⟩
    have e : dv p q m = rnd (p.tdiv q) (cr p q) q true m := by unfold dv; rw [decide_eq_true h]
    cases f : fur (p.tdiv q) (cr p q) q true m
    · right; have e2 : dv p q m = p.tdiv q := by rw [e]; simp [rnd, f]
      exact ⟨rfl, by rw [e2], e2⟩
    · left; have e2 : dv p q m = p.tdiv q - 1 := by rw [e]; simp [rnd, f]
      exact ⟨rfl, by rw [e2, Int.sub_mul]; omega, e2⟩
  · obtain ⟨n1, n2, n3, n4, n5⟩ := cp (by omega)
    refine .inl ⟨by omega, Int.mul_nonneg n1 (by omega), n5, ?_⟩
    have e : dv p q m = rnd (p.tdiv q) (cr p q) q false m := by unfold dv; rw [decide_eq_false h]
    cases f : fur (p.tdiv q) (cr p q) q false m
    · right; have e2 : dv p q m = p.tdiv q := by rw [e]; simp [rnd, f]
      exact ⟨rfl, by rw [e2], e2⟩
    · left; have e2 : dv p q m = p.tdiv q + 1 := by rw [e]; simp [rnd, f]
      exact ⟨rfl, by rw [e2, Int.add_mul]; omega, e2⟩

theorem near1 (p q t : Int) (hq : 1 ≤ q) (ht : dv p q 1 * q = t) : (0 ≤ p ∧ 0 ≤ t ∧ t ≤ p ∧ p - t < q) ∨ (p < 0 ∧ t ≤ 0 ∧ p ≤ t ∧ t - p < q) := by
  have c := cut_facts p q hq
  rcases dv_times p q 1 hq with ⟨h, h1, h2, ⟨f, g, _⟩ | ⟨f, g, _⟩⟩ | ⟨h, h1, h2, ⟨f, g, _⟩ | ⟨f, g, _⟩⟩
  all_goals simp [fur] at f
  · left; omega
  · right; omega

theorem near2 (p q t : Int) (hq : 1 ≤ q) (ht : dv p q 2 * q = t) : (0 ≤ p ∧ 0 ≤ t ∧ p ≤ t ∧ t - p < q) ∨ (p < 0 ∧ t ≤ p ∧ p - t < q) := by
  have c := cut_facts p q hq
  rcases dv_times p q 2 hq with ⟨h, h1, h2, ⟨f, g, _⟩ | ⟨f, g, _⟩⟩ | ⟨h, h1, h2, ⟨f, g, _⟩ | ⟨f, g, _⟩⟩
  all_goals simp [fur] at f
  all_goals omega

theorem near5 (p q t : Int) (hq : 1 ≤ q) (ht : dv p q 5 * q = t) : t ≤ p ∧ p - t < q := by
  have c := cut_facts p q hq
  rcases dv_times p q 5 hq with ⟨h, h1, h2, ⟨f, g, _⟩ | ⟨f, g, _⟩⟩ | ⟨h, h1, h2, ⟨f, g, _⟩ | ⟨f, g, _⟩⟩
  all_goals simp [fur] at f
  all_goals omega

theorem near6 (p q t : Int) (hq : 1 ≤ q) (ht : dv p q 6 * q = t) : p ≤ t ∧ t - p < q := by
  have c := cut_facts p q hq
  rcases dv_times p q 6 hq with ⟨h, h1, h2, ⟨f, g, _⟩ | ⟨f, g, _⟩⟩ | ⟨h, h1, h2, ⟨f, g, _⟩ | ⟨f, g, _⟩⟩
  all_goals simp [fur] at f
  all_goals omega

theorem near3 (p q t : Int) (hq : 1 ≤ q) (ht : dv p q 3 * q = t) : (0 ≤ p ∧ 0 ≤ t ∧ t ≤ p ∧ 2 * (p - t) < q) ∨ (0 ≤ p ∧ 0 ≤ t ∧ p < t ∧ 2 * (t - p) ≤ q) ∨ (p < 0 ∧ t ≤ 0 ∧ p ≤ t ∧ 2 * (t - p) < q) ∨ (p < 0 ∧ t < p ∧ 2 * (p - t) ≤ q) := by
  have c := cut_facts p q hq
  rcases dv_times p q 3 hq with ⟨h, h1, h2, ⟨f, g, _⟩ | ⟨f, g, _⟩⟩ | ⟨h, h1, h2, ⟨f, g, _⟩ | ⟨f, g, _⟩⟩
  all_goals simp [fur] at f
  all_goals omega

theorem near4 (p q t : Int) (hq : 1 ≤ q) (ht : dv p q 4 * q = t) : (t ≤ p ∧ 2 * (p - t) < q) ∨ (p < t ∧ 2 * (t - p) < q) ∨ (t < p ∧ 2 * (p - t) = q ∧ (dv p q 4).tmod 2 = 0) ∨ (p < t ∧ 2 * (t - p) = q ∧ (dv p q 4).tmod 2 = 0) := by
  have c := cut_facts p q hq
  have par : ∀ d : Int, ¬ d.tmod 2 = 0 → (d + 1).tmod 2 = 0 ∧ (d - 1).tmod 2 = 0 := by
    intro d hd
    have e1 : d % 2 = 1 := by
      rcases Int.emod_two_eq d with h | h
      · exact absurd (Int.tmod_eq_zero_of_dvd (Int.dvd_of_emod_eq_zero h)) hd
      · exact h
    exact ⟨Int.tmod_eq_zero_of_dvd (Int.dvd_of_emod_eq_zero (by omega)), Int.tmod_eq_zero_of_dvd (Int.dvd_of_emod_eq_zero (by omega))⟩
  have P := par (p.tdiv q)
  rcases dv_times p q 4 hq with ⟨h, h1, h2, ⟨f, g, k⟩ | ⟨f, g, k⟩⟩ | ⟨h, h1, h2, ⟨f, g, k⟩ | ⟨f, g, k⟩⟩
  all_goals by_cases hh : 2 * cr p q = q
  all_goals simp [fur, hh] at f
  · right; right; right; rw [k]; exact ⟨by omega, by omega, (P f).1⟩
  · right; left; omega
  · right; right; left; rw [k]; exact ⟨by omega, by omega, f⟩
  · left; omega
  · right; right; left; rw [k]; exact ⟨by omega, by omega, (P f).2⟩
  · left; omega
  · right; right; right; rw [k]; exact ⟨by omega, by omega, f⟩
  · by_cases z : cr p q = 0
    · left; omega
    · right; left; omega

end Go.Proofs.Ytidhnmodedbmgaa
