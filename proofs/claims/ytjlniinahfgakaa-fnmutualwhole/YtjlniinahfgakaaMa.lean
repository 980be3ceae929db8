/- What Mutual tells, plain: services have nothing, each place got what its trace says, and the sum stays. -/
import Derived.Test.YtjlniinahfgakaaMd
import Derived.Test.YtjlniinahfgakaaSw
namespace Go.Proofs.Ytjlniinahfgakaa
open Go Go.RowKit
set_option linter.unusedVariables false
set_option linter.unusedSimpArgs false

theorem cm_ok {N n : Nat} {ln : Nat → Nat} {z : Nat → Nat → Int} {c : Nat → Int} (hc : CostP N c) (hs : ShS N (n : Int) n ln z) (hD : dl (mF n z) 3 (oF false false false) ≠ 0) {i : Nat} (hi : i < n) : ShOk (c i) (N - n) (wtF n z i) := by
  by_cases h : ShOk (c i) (N - n) (wtF n z i)
  · exact h
  · have e := cm_full hc hs hD hi
    unfold cmN at e
    rw [shM_no h] at e
    have := hs.2.1
    omega
theorem hC_wait {n N : Nat} {z : Nat → Nat → Int} {c : Nat → Int} : ∀ (i p : Nat), i ≤ p → p < n → hC n N z c i p = c p
  | 0, p, _, _ => rfl
  | i + 1, p, h1, h2 => by
    simp only [hC]
    unfold upd
    rw [if_neg (by omega)]
    unfold adC
    rw [if_neg (by omega)]
    exact hC_wait i p (by omega) h2
theorem hC_low {n N : Nat} {z : Nat → Nat → Int} {c : Nat → Int} : ∀ (i p : Nat), i ≤ n → p < i → hC n N z c i p = 0
  | 0, p, _, h => by omega
  | i + 1, p, h1, h2 => by
    simp only [hC]
    unfold upd
    by_cases e : p = i
    · rw [if_pos e]
    · rw [if_neg e]
      unfold adC
      rw [if_neg (by omega)]
      exact hC_low i p (by omega) (by omega)
theorem hC_high {n N : Nat} {z : Nat → Nat → Int} {c : Nat → Int} (hm : ∀ j, j < n → cmN n N z c j = N - n) : ∀ (i p : Nat), i ≤ n → n ≤ p → p < N → hC n N z c i p = c p + sm (fun j => cmV n N z c j (p - n)) i
  | 0, p, _, _, _ => by simp [hC, sm]
  | i + 1, p, h1, h2, h3 => by
    have ih := hC_high hm i p (by omega) h2 h3
    simp only [hC]
    unfold upd
    rw [if_neg (by omega)]
    unfold adC
    rw [hm i (by omega), if_pos ⟨h2, by omega⟩, ih, sm_succ]
    omega
theorem adC_sum (n : Nat) (h v : Nat → Int) (K : Nat) : sm (adC n h v K) (n + K) = sm h (n + K) + sm v K := by
  rw [sm_split, sm_split h]
  have e1 : sm (adC n h v K) n = sm h n := sm_congr (fun j hj => by unfold adC; rw [if_neg (by omega)])
  have e2 : ∀ L, L ≤ K → sm (fun k => adC n h v K (n + k)) L = sm (fun k => h (n + k)) L + sm v L := by
    intro L
    induction L with
    | zero => intro _; simp [sm]
    | succ L ih =>
      intro hL
      rw [sm_succ, sm_succ, sm_succ, ih (by omega)]
      have : adC n h v K (n + L) = h (n + L) + v L := by unfold adC; rw [if_pos ⟨by omega, by omega⟩, show n + L - n = L by omega]
      rw [this]
      omega
  rw [e1, e2 K (Nat.le_refl _)]
  omega
theorem hC_sum {n N : Nat} {ln : Nat → Nat} {z : Nat → Nat → Int} {c : Nat → Int} (hc : CostP N c) (hs : ShS N (n : Int) n ln z) (hD : dl (mF n z) 3 (oF false false false) ≠ 0) : ∀ i, i ≤ n → sm (hC n N z c i) N = sm c N
  | 0, _ => rfl
  | i + 1, h => by
    have hnN : n < N := by have := hs.2.1; omega
    have ih := hC_sum hc hs hD i (by omega)
    have e1 := (shV_facts (cm_ok hc hs hD (i := i) (by omega))).1
    have hm := cm_full hc hs hD (i := i) (by omega)
    simp only [hC]
    rw [sm_upd (by omega), hm]
    have e2 := adC_sum n (hC n N z c i) (cmV n N z c i) (N - n)
    rw [show n + (N - n) = N by omega] at e2
    rw [e2, ih]
    have e3 : sm (cmV n N z c i) (N - n) = c i := e1
    have e4 : adC n (hC n N z c i) (cmV n N z c i) (N - n) i = c i := by
      unfold adC
      rw [if_neg (by omega)]
      exact hC_wait i i (Nat.le_refl _) (by omega)
    rw [e3, e4]
    omega
end Go.Proofs.Ytjlniinahfgakaa
