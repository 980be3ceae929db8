/- Plain facts on dates: the days of years and months from the year 2000 on, and that a day has one date alone. -/
import Derived.Handy
namespace Go.Proofs.YtlhgmdmbjpaakaaDoor.Dt
set_option linter.unusedVariables false

def leapB (y : Int) : Bool := (decide (y % 4 = 0) && !decide (y % 100 = 0)) || decide (y % 400 = 0)
def yd (y : Int) : Int := if leapB y = true then 366 else 365
def md (y m : Int) : Int := if m = 2 then (if leapB y = true then 29 else 28) else if m = 4 ∨ m = 6 ∨ m = 9 ∨ m = 11 then 30 else 31

def yS : Nat → Int
  | 0 => 0
  | n + 1 => yS n + yd (2000 + n)

def mS (y : Int) : Nat → Int
  | 0 => 0
  | k + 1 => mS y k + md y (k + 1)

def IsDate (day y m d : Int) : Prop := ∃ n k : Nat, y = 2000 + n ∧ m = k + 1 ∧ k < 12 ∧ 1 ≤ d ∧ d ≤ md y m ∧ day = yS n + mS y k + d - 1

theorem md_in (y m : Int) : 28 ≤ md y m ∧ md y m ≤ 31 := by
  unfold md; split
  · split <;> omega
  · split <;> omega

theorem yd_in (y : Int) : 365 ≤ yd y ∧ yd y ≤ 366 := by
  unfold yd; split <;> omega

theorem mS12 (y : Int) : mS y 12 = yd y := by
  simp only [mS, md, yd]
  by_cases h : leapB y = true
  · simp [h]
  · simp [h]

theorem mS_step (y : Int) (k : Nat) : mS y (k + 1) = mS y k + md y (k + 1) := rfl

theorem yS_step (n : Nat) : yS (n + 1) = yS n + yd (2000 + n) := rfl

theorem yS_ge : ∀ n : Nat, 365 * (n : Int) ≤ yS n
  | 0 => by simp [yS]
  | n + 1 => by
    have := yS_ge n
    have := yd_in (2000 + n)
    rw [yS_step]; omega

theorem yS_le : ∀ n : Nat, yS n ≤ 366 * (n : Int)
  | 0 => by simp [yS]
  | n + 1 => by
    have := yS_le n
    have := yd_in (2000 + n)
    rw [yS_step]; omega

theorem yS_mono {a : Nat} : ∀ {b : Nat}, a ≤ b → yS a ≤ yS b
  | 0, h => by obtain rfl : a = 0 := by omega
               exact Int.le_refl _
  | b + 1, h => by
    rcases Nat.lt_or_ge a (b + 1) with h1 | h1
    · have := yS_mono (a := a) (b := b) (by omega)
      have := yd_in (2000 + b)
      rw [yS_step]; omega
    · obtain rfl : a = b + 1 := by omega
      exact Int.le_refl _

theorem mS_mono {y : Int} {a : Nat} : ∀ {b : Nat}, a ≤ b → mS y a ≤ mS y b
  | 0, h => by obtain rfl : a = 0 := by omega
               exact Int.le_refl _
  | b + 1, h => by
    rcases Nat.lt_or_ge a (b + 1) with h1 | h1
    · have := mS_mono (y := y) (a := a) (b := b) (by omega)
      have := md_in y (b + 1)
      rw [mS_step]; omega
    · obtain rfl : a = b + 1 := by omega
      exact Int.le_refl _

theorem mS_nonneg (y : Int) (k : Nat) : 0 ≤ mS y k := by
  have := mS_mono (y := y) (a := 0) (b := k) (by omega)
  simpa [mS] using this

theorem mS_le (y : Int) : ∀ k : Nat, mS y k ≤ 31 * (k : Int)
  | 0 => by simp [mS]
  | k + 1 => by
    have := mS_le y k
    have := md_in y (k + 1)
    rw [mS_step]; omega

theorem in_year {y d : Int} {k : Nat} (hk : k < 12) (h2 : d ≤ md y ((k : Int) + 1)) : mS y k + d ≤ yd y := by
  have h := mS_mono (y := y) (a := k + 1) (b := 12) (by omega)
  rw [mS12, mS_step] at h
  omega

theorem IsDate.unique {day y m d y' m' d' : Int} (h : IsDate day y m d) (h' : IsDate day y' m' d') : y = y' ∧ m = m' ∧ d = d' := by
  obtain ⟨n, k, rfl, rfl, hk, h1, h2, h3⟩ := h
  obtain ⟨n', k', rfl, rfl, hk', h1', h2', h3'⟩ := h'
  have i1 := in_year hk h2
  have i2 := in_year hk' h2'
  have p1 := mS_nonneg (2000 + n) k
  have p2 := mS_nonneg (2000 + n') k'
  have hn : n = n' := by
    rcases Nat.lt_trichotomy n n' with g | g | g
    · have := yS_mono (a := n + 1) (b := n') (by omega)
      rw [yS_step] at this; omega
    · exact g
    · have := yS_mono (a := n' + 1) (b := n) (by omega)
      rw [yS_step] at this; omega
  subst hn
  have hkk : k = k' := by
    rcases Nat.lt_trichotomy k k' with g | g | g
    · have := mS_mono (y := 2000 + n) (a := k + 1) (b := k') (by omega)
      rw [mS_step] at this; omega
    · exact g
    · have := mS_mono (y := 2000 + n) (a := k' + 1) (b := k) (by omega)
      rw [mS_step] at this; omega
  subst hkk
  refine ⟨rfl, rfl, by omega⟩

theorem ex_date (day : Int) (h : 0 ≤ day) : ∃ y m d, IsDate day y m d := by
  have ey : ∀ N : Nat, day < yS N → ∃ n : Nat, yS n ≤ day ∧ day < yS (n + 1) := by
    intro N
    induction N with
    | zero => intro g; simp [yS] at g; omega
    | succ N ih =>
      intro g
      by_cases c : day < yS N
      · exact ih c
      · exact ⟨N, by omega, g⟩
  obtain ⟨n, hn1, hn2⟩ := ey (day.toNat + 1) (by have := yS_ge (day.toNat + 1); omega)
  rw [yS_step] at hn2
  have em : ∀ K : Nat, K ≤ 12 → day - yS n < mS (2000 + n) K → ∃ k : Nat, k < 12 ∧ mS (2000 + n) k ≤ day - yS n ∧ day - yS n < mS (2000 + n) (k + 1) := by
    intro K
    induction K with
    | zero => intro _ g; simp [mS] at g; omega
    | succ K ih =>
      intro hK g
      by_cases c : day - yS n < mS (2000 + n) K
      · exact ih (by omega) c
      · exact ⟨K, by omega, by omega, g⟩
  obtain ⟨k, hk, h1, h2⟩ := em 12 (by omega) (by rw [mS12]; omega)
  rw [mS_step] at h2
  exact ⟨2000 + n, k + 1, day - yS n - mS (2000 + n) k + 1, n, k, rfl, rfl, hk, by omega, by omega, by omega⟩

theorem IsDate.bounds {day y m d : Int} (h : IsDate day y m d) (h1 : 0 ≤ day) (h2 : day ≤ 40000) : 2000 ≤ y ∧ y ≤ 2109 ∧ 1 ≤ m ∧ m ≤ 12 ∧ 1 ≤ d ∧ d ≤ md y m := by
  obtain ⟨n, k, rfl, rfl, hk, g1, g2, g3⟩ := h
  have := yS_ge n
  have := mS_nonneg (2000 + n) k
  refine ⟨by omega, by omega, by omega, by omega, g1, g2⟩

/-- The day of a date; -1 where there is none such date or no such day. -/
def sumV (y m d : Int) : Int := yS (y - 2000).toNat + mS y (m - 1).toNat + d - 1
def dayV (y m d : Int) : Int := if 2000 ≤ y ∧ 1 ≤ m ∧ m ≤ 12 ∧ 1 ≤ d ∧ d ≤ md y m ∧ sumV y m d ≤ 40000 then sumV y m d else -1

theorem IsDate.of_sum {y m d : Int} (hy : 2000 ≤ y) (m1 : 1 ≤ m) (m2 : m ≤ 12) (d1 : 1 ≤ d) (d2 : d ≤ md y m) : IsDate (sumV y m d) y m d :=
  ⟨(y - 2000).toNat, (m - 1).toNat, by omega, by omega, by omega, d1, d2, rfl⟩

theorem IsDate.sum {day y m d : Int} (h : IsDate day y m d) : sumV y m d = day := by
  obtain ⟨n, k, rfl, rfl, hk, g1, g2, g3⟩ := h
  unfold sumV
  rw [show (2000 + (n : Int) - 2000).toNat = n by omega, show ((k : Int) + 1 - 1).toNat = k by omega]
  omega

theorem IsDate.dayV {day y m d : Int} (h : IsDate day y m d) (h2 : day ≤ 40000) : dayV y m d = day := by
  have hs := h.sum
  obtain ⟨n, k, rfl, rfl, hk, g1, g2, g3⟩ := h
  unfold YtlhgmdmbjpaakaaDoor.Dt.dayV
  rw [if_pos ⟨by omega, by omega, by omega, g1, g2, by omega⟩, hs]

theorem sumV_nonneg {y m d : Int} (d1 : 1 ≤ d) : 0 ≤ sumV y m d := by
  have := yS_ge (y - 2000).toNat
  have := mS_nonneg y (m - 1).toNat
  unfold sumV; omega

theorem sumV_far {y m d : Int} (hy : 2109 < y) (d1 : 1 ≤ d) : 40000 < sumV y m d := by
  have := yS_ge (y - 2000).toNat
  have := mS_nonneg y (m - 1).toNat
  unfold sumV; omega

/-- The date of a day, as three numbers. -/
def datP (day : Int) (t : Int × Int × Int) : Prop := IsDate day t.1 t.2.1 t.2.2
open Classical in
noncomputable def dat (day : Int) : Int × Int × Int := if h : (0 ≤ day ∧ day ≤ 40000) ∧ ∃ t, datP day t then Classical.choose h.2 else (0, 0, 0)

theorem dat_eq {day y m d : Int} (h : IsDate day y m d) (h1 : 0 ≤ day) (h2 : day ≤ 40000) : dat day = (y, m, d) := by
  have hh : (0 ≤ day ∧ day ≤ 40000) ∧ ∃ t, datP day t := ⟨⟨h1, h2⟩, (y, m, d), h⟩
  unfold dat
  rw [dif_pos hh]
  have hc : IsDate day (Classical.choose hh.2).1 (Classical.choose hh.2).2.1 (Classical.choose hh.2).2.2 := Classical.choose_spec hh.2
  obtain ⟨e1, e2, e3⟩ := hc.unique h
  rw [← e1, ← e2, ← e3]

theorem dat_none {day : Int} (h : ¬ (0 ≤ day ∧ day ≤ 40000)) : dat day = (0, 0, 0) := by
  unfold dat
  rw [dif_neg (fun g => h g.1)]

theorem dat_is {day : Int} (h1 : 0 ≤ day) (h2 : day ≤ 40000) : IsDate day (dat day).1 (dat day).2.1 (dat day).2.2 := by
  obtain ⟨y, m, d, h⟩ := ex_date day h1
  rw [dat_eq h h1 h2]; exact h

end Go.Proofs.YtlhgmdmbjpaakaaDoor.Dt
