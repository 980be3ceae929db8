/- Plain facts on periods: where each begins and ends, and when there are so many. -/
import Derived.Test.YtadjdpoplaknkaaDoorDv
namespace Go.Proofs.YtadjdpoplaknkaaDoor
open Go.RowKit
set_option linter.unusedVariables false

def dn (e : Int) : Int := if 0 ≤ e ∧ e ≤ 40000 then e else -1
/-- The last day of a period; -1 where there is none. -/
noncomputable def pEnd (kind first : Int) (place : Nat) : Int :=
  if kind = 1 then (if (dat first).2.2 = 1 then mendV first else -1)
  else if kind = 2 then dn (first + (if place % 3 = 2 then 35 else 28) - 1)
  else if kind = 3 then dn (first + 28 - 1) else -1

noncomputable def fst (kind first : Int) : Nat → Int
  | 0 => first
  | j + 1 => pEnd kind (fst kind first j) j + 1
noncomputable def lst (kind first : Int) (j : Nat) : Int := pEnd kind (fst kind first j) j

def perOk (kind first count : Int) : Prop := (0 ≤ first ∧ first ≤ 40000) ∧ (1 ≤ count ∧ count ≤ 60) ∧ ∀ j : Nat, (j : Int) < count → 0 ≤ lst kind first j

theorem dn_bd (e : Int) : -1 ≤ dn e ∧ dn e ≤ 40000 := by unfold dn; split <;> omega
theorem mendV_bd (x : Int) : -1 ≤ mendV x ∧ mendV x ≤ 40000 := by
  unfold mendV
  split
  · unfold dayV
    split
    · rename_i h g
      exact ⟨by have := sumV_nonneg (y := (dat x).1) (m := (dat x).2.1) g.2.2.2.1; omega, g.2.2.2.2.2⟩
    · omega
  · omega
theorem pEnd_bd (kind first : Int) (j : Nat) : -1 ≤ pEnd kind first j ∧ pEnd kind first j ≤ 40000 := by
  unfold pEnd
  split
  · split
    · exact mendV_bd _
    · omega
  · split
    · exact dn_bd _
    · split
      · exact dn_bd _
      · omega
theorem lst_bd (kind first : Int) (j : Nat) : -1 ≤ lst kind first j ∧ lst kind first j ≤ 40000 := pEnd_bd _ _ _
theorem fst_succ (kind first : Int) (j : Nat) : fst kind first (j + 1) = lst kind first j + 1 := rfl
theorem fst_bd (kind first : Int) (h : 0 ≤ first ∧ first ≤ 40000) : ∀ j : Nat, 0 ≤ fst kind first j ∧ fst kind first j ≤ 40001
  | 0 => ⟨h.1, by show first ≤ 40001; omega⟩
  | j + 1 => by have := lst_bd kind first j; rw [fst_succ]; omega

theorem p1 {first : Int} {j : Nat} (h : (dat first).2.2 = 1) : pEnd 1 first j = mendV first := by simp [pEnd, h]
theorem p1n {first : Int} {j : Nat} (h : (dat first).2.2 ≠ 1) : pEnd 1 first j = -1 := by simp [pEnd, h]
theorem p2 {first : Int} {j : Nat} (h : j % 3 = 2) : pEnd 2 first j = dn (first + 35 - 1) := by simp [pEnd, h]
theorem p2n {first : Int} {j : Nat} (h : j % 3 ≠ 2) : pEnd 2 first j = dn (first + 28 - 1) := by simp [pEnd, h]
theorem p3 {first : Int} {j : Nat} : pEnd 3 first j = dn (first + 28 - 1) := by simp [pEnd]
theorem pn {kind first : Int} {j : Nat} (h : ¬ (1 ≤ kind ∧ kind ≤ 3)) : pEnd kind first j = -1 := by
  unfold pEnd; rw [if_neg (by omega), if_neg (by omega), if_neg (by omega)]

/-- Behind a month's last day comes a first. -/
theorem next_first {f : Int} (h0 : 0 ≤ f) (h1 : f ≤ 40000) (hm : 0 ≤ mendV f) (h2 : mendV f + 1 ≤ 40000) : (dat (mendV f + 1)).2.2 = 1 := by
  obtain ⟨y, m, dd, k1, k2, y0, y1, m1, m2, d1, d2⟩ := dat_open h0 h1
  have e := mendV_in h0 h1 k1
  rw [e] at hm h2 ⊢
  obtain ⟨a1, a2, a3, a4, a5, a6, a7⟩ := dayV_yes hm
  obtain ⟨n, k, hn, hk, hk12, g1, g2, g3⟩ := a7
  by_cases h12 : k + 1 < 12
  · have hN : IsDate (dayV y m (md y m) + 1) y (((k + 1 : Nat) : Int) + 1) 1 := ⟨n, k + 1, hn, rfl, h12, by omega, by have := md_in y (((k + 1 : Nat) : Int) + 1); omega, by
      rw [mS_step, ← hk]; omega⟩
    rw [dat_eq hN (by omega) h2]
  · have hk11 : k = 11 := by omega
    have hy := mS12 y
    have hs := mS_step y 11
    rw [hy] at hs
    subst hk11
    have hm12 : m = 12 := by omega
    have hN : IsDate (dayV y m (md y m) + 1) (2000 + ((n + 1 : Nat) : Int)) (((0 : Nat) : Int) + 1) 1 := ⟨n + 1, 0, rfl, rfl, by omega, by omega, by have := md_in (2000 + ((n + 1 : Nat) : Int)) (((0 : Nat) : Int) + 1); omega, by
      rw [yS_step, ← hn]; simp only [mS]
      have e2 : mS y 11 + md y m = yd y := by rw [hm12]; exact hs.symm
      omega⟩
    rw [dat_eq hN (by omega) h2]

/-- Of months: each begins on a first. -/
theorem month_first {first : Int} (h : 0 ≤ first ∧ first ≤ 40000) (hd : (dat first).2.2 = 1) : ∀ k : Nat, (∀ j, j < k → 0 ≤ lst 1 first j) → fst 1 first k ≤ 40000 → (dat (fst 1 first k)).2.2 = 1
  | 0, _, _ => hd
  | k + 1, hj, h4 => by
    have hk := hj k (by omega)
    have hb := fst_bd 1 first h k
    rw [fst_succ] at h4 ⊢
    have hf : fst 1 first k ≤ 40000 := by
      by_cases c : fst 1 first k ≤ 40000
      · exact c
      · exfalso
        have : lst 1 first k = -1 := by
          unfold lst; rw [p1n]; rw [dat_none (by omega)]; simp
        omega
    have hd2 := month_first h hd k (fun j hh => hj j (by omega)) hf
    have e : lst 1 first k = mendV (fst 1 first k) := p1 hd2
    rw [e] at hk h4 ⊢
    exact next_first hb.1 hf hk h4

end Go.Proofs.YtadjdpoplaknkaaDoor
