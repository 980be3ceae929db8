/- The model's EntryOk: it answers enB. -/
import Derived.Test.YtapailihjlfkgaaDoorSk
import Derived.BigQuiet
namespace Go.Proofs.YtapailihjlfkgaaDoor
open Go.ChangeShapes Go.WideShapes Go.ChangeAt Go.RowKit
set_option linter.unusedVariables false
set_option linter.unusedSimpArgs false

def sumA (ls : Nat → L5) (c : Int) : Nat → Int
  | 0 => 0
  | k + 1 => if (ls k).cur = c then sumA ls c k + (ls k).amt else sumA ls c k
def sumB (ls : Nat → L5) (d : Int) : Nat → Int
  | 0 => 0
  | k + 1 => if (ls k).dim = d then sumB ls d k + (ls k).base else sumB ls d k

theorem GS_sum {ls : Nat → L5} {n : Nat} (h : ∀ i, i < n → LOk (ls i)) : ∀ k, k ≤ n → ∀ x y, GS ls k x y = (if y = -1 then sumA ls x k else 0) + (if x = -1 then sumB ls y k else 0)
  | 0, _, x, y => by simp [GS, sumA, sumB]
  | k + 1, hk, x, y => by
    have ih := GS_sum h k (by omega)
    obtain ⟨q1, _, q3, _, _⟩ := h k (by omega)
    have e2 : GS ls (k + 1) = upG (G1 (GS ls k) (ls k)) (-1) (ls k).dim (G1 (GS ls k) (ls k) (-1) (ls k).dim + (ls k).base) := rfl
    rw [e2]
    unfold upG G1 upG
    simp only [ih, sumA, sumB]
    by_cases a1 : x = -1 <;> by_cases a2 : y = -1 <;> by_cases a3 : (ls k).cur = x <;> by_cases a4 : (ls k).dim = y <;> simp_all <;> (try split) <;> (try omega) <;> (try simp_all) <;> (try omega)

theorem sumA_none {ls : Nat → L5} {c : Int} : ∀ {n : Nat}, (∀ i, i < n → (ls i).cur ≠ c) → sumA ls c n = 0
  | 0, _ => rfl
  | n + 1, h => by unfold sumA; rw [if_neg (h n (by omega))]; exact sumA_none (fun i hi => h i (by omega))
theorem sumB_none {ls : Nat → L5} {c : Int} : ∀ {n : Nat}, (∀ i, i < n → (ls i).dim ≠ c) → sumB ls c n = 0
  | 0, _ => rfl
  | n + 1, h => by unfold sumB; rw [if_neg (h n (by omega))]; exact sumB_none (fun i hi => h i (by omega))

theorem ev_all {ls : Nat → L5} {n : Nat} (h : ∀ i, i < n → LOk (ls i)) (hs : ∀ i, i < n → sumA ls (ls i).cur n = 0 ∧ sumB ls (ls i).dim n = 0) : evB n ls = true := by
  refine @decide_eq_true _ (Classical.propDecidable _) (fun x y _ _ => ?_)
  rw [GS_sum h n (Nat.le_refl _)]
  have hA : sumA ls x n = 0 := by
    by_cases g : ∃ i, i < n ∧ (ls i).cur = x
    · obtain ⟨i, hi, rfl⟩ := g; exact (hs i hi).1
    · exact sumA_none (fun i hi q => g ⟨i, hi, q⟩)
  have hB : sumB ls y n = 0 := by
    by_cases g : ∃ i, i < n ∧ (ls i).dim = y
    · obtain ⟨i, hi, rfl⟩ := g; exact (hs i hi).2
    · exact sumB_none (fun i hi q => g ⟨i, hi, q⟩)
  rw [hA, hB]; simp
theorem ev_not {ls : Nat → L5} {n i : Nat} (h : ∀ i, i < n → LOk (ls i)) (hi : i < n) (hs : ¬ (sumA ls (ls i).cur n = 0 ∧ sumB ls (ls i).dim n = 0)) : evB n ls = false := by
  refine @decide_eq_false _ (Classical.propDecidable _) (fun q => hs ?_)
  obtain ⟨q1, q2, q3, q4, _⟩ := h i hi
  have e1 := q (ls i).cur (-1) ⟨by omega, by omega⟩ ⟨by omega, by omega⟩
  have e2 := q (-1) (ls i).dim ⟨by omega, by omega⟩ ⟨by omega, by omega⟩
  rw [GS_sum h n (Nat.le_refl _)] at e1 e2
  rw [if_pos rfl, if_neg (by omega)] at e1
  rw [if_neg (by omega), if_pos rfl] at e2
  exact ⟨by omega, by omega⟩
theorem sumA_bd {ls : Nat → L5} {n : Nat} (h : ∀ i, i < n → LOk (ls i)) (c : Int) : ∀ k, k ≤ n → -((k : Int) * 100000000000) ≤ sumA ls c k ∧ sumA ls c k ≤ (k : Int) * 100000000000
  | 0, _ => by simp [sumA]
  | k + 1, hk => by
    have ih := sumA_bd h c k (by omega)
    obtain ⟨_, _, _, _, h1, h2, h3, h4⟩ := h k (by omega)
    unfold sumA; split <;> push_cast <;> omega
theorem sumB_bd {ls : Nat → L5} {n : Nat} (h : ∀ i, i < n → LOk (ls i)) (c : Int) : ∀ k, k ≤ n → -((k : Int) * 100000000000) ≤ sumB ls c k ∧ sumB ls c k ≤ (k : Int) * 100000000000
  | 0, _ => by simp [sumB]
  | k + 1, hk => by
    have ih := sumB_bd h c k (by omega)
    obtain ⟨_, _, _, _, h1, h2, h3, h4⟩ := h k (by omega)
    unfold sumB; split <;> push_cast <;> omega

end Go.Proofs.YtapailihjlfkgaaDoor
