/- Determinants, plain: by rows with columns left out; by the first row. -/
import Derived.Test.YtjlniinahfgakaaCl
namespace Go.Proofs.Ytjlniinahfgakaa
open Go.RowKit
set_option linter.unusedVariables false

/-- The first k columns of a row: what they come to, and the next sign. -/
def dlS (M D : Nat → Int) (o : Nat → Bool) : Nat → Int × Int
  | 0 => (0, 1)
  | k + 1 => if o k = true then dlS M D o k else ((dlS M D o k).1 + (dlS M D o k).2 * M k * D k, -(dlS M D o k).2)
/-- The determinant of the last n rows of three, without the columns of o. -/
def dl (f : Nat → Nat → Int) : Nat → (Nat → Bool) → Int
  | 0, _ => 1
  | n + 1, o => (dlS (f (2 - n)) (fun k => dl f n (updB o k)) o 3).1
def dB : Nat → Int
  | 0 => 1
  | n + 1 => 300 * dB n
theorem dB_pos : ∀ n, 0 < dB n
  | 0 => by simp [dB]
  | n + 1 => by have := dB_pos n; simp only [dB]; omega
theorem mul_in {s x d B : Int} (hs : s = 1 ∨ s = -1) (h0 : -100 ≤ x) (h1 : x ≤ 100) (hB : 0 ≤ B) (hd0 : -B ≤ d) (hd1 : d ≤ B) : (-100 ≤ s * x ∧ s * x ≤ 100) ∧ -(100 * B) ≤ s * x * d ∧ s * x * d ≤ 100 * B := by
  have key : ∀ y : Int, -100 ≤ y → y ≤ 100 → -(100 * B) ≤ y * d ∧ y * d ≤ 100 * B := fun y a b => by
    have e1 : 0 ≤ (100 - y) * (B - d) := Int.mul_nonneg (by omega) (by omega)
    have e2 : 0 ≤ (100 + y) * (B - d) := Int.mul_nonneg (by omega) (by omega)
    have e3 : 0 ≤ (100 - y) * (B + d) := Int.mul_nonneg (by omega) (by omega)
    have e4 : 0 ≤ (100 + y) * (B + d) := Int.mul_nonneg (by omega) (by omega)
    simp only [Int.sub_mul, Int.add_mul, Int.mul_sub, Int.mul_add] at e1 e2 e3 e4
    constructor <;> omega
  rcases hs with rfl | rfl
  · simp only [Int.one_mul]; exact ⟨⟨h0, h1⟩, key x h0 h1⟩
  · have e : (-1 : Int) * x = -x := by omega
    rw [e]; exact ⟨⟨by omega, by omega⟩, key (-x) (by omega) (by omega)⟩
theorem dlS_bound {M D : Nat → Int} {o : Nat → Bool} {B : Int} (hB : 0 ≤ B) (hM : ∀ k, -100 ≤ M k ∧ M k ≤ 100) (hD : ∀ k, -B ≤ D k ∧ D k ≤ B) : ∀ k, ((dlS M D o k).2 = 1 ∨ (dlS M D o k).2 = -1) ∧ -(100 * B * (k : Int)) ≤ (dlS M D o k).1 ∧ (dlS M D o k).1 ≤ 100 * B * (k : Int)
  | 0 => by simp [dlS]
  | k + 1 => by
    obtain ⟨h1, h2, h3⟩ := dlS_bound (o := o) hB hM hD k
    have e : 100 * B * ((k + 1 : Nat) : Int) = 100 * B * (k : Int) + 100 * B := by rw [show ((k + 1 : Nat) : Int) = (k : Int) + 1 by omega, Int.mul_add, Int.mul_one]
    simp only [dlS]
    split
    · rw [e]; exact ⟨h1, by omega, by omega⟩
    · have hm := mul_in h1 (hM k).1 (hM k).2 hB (hD k).1 (hD k).2
      rw [e]
      refine ⟨?_, ?_, ?_⟩
      · show -(dlS M D o k).2 = 1 ∨ -(dlS M D o k).2 = -1; omega
      · show _ ≤ (dlS M D o k).1 + (dlS M D o k).2 * M k * D k; omega
      · show (dlS M D o k).1 + (dlS M D o k).2 * M k * D k ≤ _; omega
theorem dl_bound {f : Nat → Nat → Int} (hf : ∀ i j, -100 ≤ f i j ∧ f i j ≤ 100) : ∀ n o, -(dB n) ≤ dl f n o ∧ dl f n o ≤ dB n
  | 0, o => by simp [dl, dB]
  | n + 1, o => by
    have h := dlS_bound (M := f (2 - n)) (D := fun k => dl f n (updB o k)) (o := o) (B := dB n) (by have := dB_pos n; omega) (fun k => hf _ _) (fun k => dl_bound hf n _) 3
    simp only [dl, dB]
    have e : 100 * dB n * ((3 : Nat) : Int) = 300 * dB n := by omega
    rw [e] at h
    exact h.2
end Go.Proofs.Ytjlniinahfgakaa
