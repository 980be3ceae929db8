/- The order of the rests, and a row of pairs of the program's own, plain. -/
import Derived.Test.YtjlniinahfgakaaKd
import Derived.Test.YtjlniinahfgakaaSq
namespace Go.Proofs.Ytjlniinahfgakaa
open Go.RowKit
set_option linter.unusedVariables false

/-- The greater rest first, then the lower place. -/
def ltR (a b : Int × Int) : Prop := b.1 < a.1 ∨ (a.1 = b.1 ∧ a.2 < b.2)
theorem crV_lt {a b : Int × Int} (h : ltR a b) : crV a b = -1 := by
  obtain ⟨a1, a2⟩ := a; obtain ⟨b1, b2⟩ := b
  unfold ltR at h; simp only at h
  unfold crV orV cm; simp only
  repeat' split
  all_goals omega
theorem crV_ge {a b : Int × Int} (h : ¬ ltR a b) : crV a b = 0 ∨ crV a b = 1 := by
  obtain ⟨a1, a2⟩ := a; obtain ⟨b1, b2⟩ := b
  unfold ltR at h; simp only at h
  unfold crV orV cm; simp only
  repeat' split
  all_goals omega
theorem ltR_trans {a b c : Int × Int} (h1 : ltR a b) (h2 : ltR b c) : ltR a c := by unfold ltR at *; omega
theorem ltR_irrefl (a : Int × Int) : ¬ ltR a a := by unfold ltR; omega
theorem ltR_total {a b : Int × Int} (h : a.2 ≠ b.2) (h1 : ¬ ltR a b) : ltR b a := by unfold ltR at *; omega
instance (a b : Int × Int) : Decidable (ltR a b) := by unfold ltR; infer_instance

/-- Block b holds n pairs, the pairs f 0, f 1, .. -/
def RB (w : World) (b n : Nat) (t : TypeId) (f : Nat → Int × Int) : Prop :=
  ∃ cs, CB w b cs t ∧ cs.size = n * 2 ∧ ∀ j, j < n → cs[j * 2]? = some (.int .i64 (f j).1) ∧ cs[j * 2 + 1]? = some (.int .i64 (f j).2)
section
variable {w w' : World} {b n : Nat} {t : TypeId} {f g : Nat → Int × Int}
theorem RB.lt (H : RB w b n t f) : b < w.heap.size := by obtain ⟨cs, h, _⟩ := H; exact h.lt
theorem RB.cell (H : RB w b n t f) {j : Nat} (h : j < n) : w.cell? ⟨b, j * 2, none⟩ = some (.int .i64 (f j).1) ∧ w.cell? ⟨b, j * 2 + 1, none⟩ = some (.int .i64 (f j).2) := by
  obtain ⟨cs, h1, h2, h3⟩ := H
  rw [h1.cell, h1.cell]; exact h3 j h
theorem RB.fr (H : RB w b n t f) (o : Nat) : w.frozen? ⟨b, o, none⟩ = false := by obtain ⟨cs, h, _⟩ := H; exact h.fr o
theorem RB.below {B : Nat} (H : RB w b n t f) (k : Below B w w') (h : b < B) : RB w' b n t f := by
  obtain ⟨cs, h1, h2⟩ := H; exact ⟨cs, h1.below k h, h2⟩
theorem RB.alloc (H : RB w b n t f) (o : Obj) : RB (w.alloc o) b n t f := by obtain ⟨cs, h1, h2⟩ := H; exact ⟨cs, h1.alloc o, h2⟩
theorem RB.other (H : RB w b n t f) {c o : Nat} (u : Value) (h : b ≠ c) : RB (w.setCell ⟨c, o, none⟩ u) b n t f := by obtain ⟨cs, h1, h2⟩ := H; exact ⟨cs, h1.other u h, h2⟩
theorem RB.congr (H : RB w b n t f) (h : ∀ j, j < n → g j = f j) : RB w b n t g := by
  obtain ⟨cs, h1, h2, h3⟩ := H; exact ⟨cs, h1, h2, fun j hj => by rw [h j hj]; exact h3 j hj⟩
/-- A pair is written. -/
theorem RB.set (H : RB w b n t f) {i : Nat} (hi : i < n) (x y : Int) :
    RB ((w.setCell ⟨b, i * 2, none⟩ (.int .i64 x)).setCell ⟨b, i * 2 + 1, none⟩ (.int .i64 y)) b n t (fun j => if j = i then (x, y) else f j) := by
  obtain ⟨cs, h1, h2, h3⟩ := H
  refine ⟨_, (h1.set _ _).set _ _, by simp [h2], fun j hj => ?_⟩
  by_cases e : j = i
  · subst e
    simp only [if_true]
    constructor
    · rw [Array.getElem?_setIfInBounds_ne (by omega), Array.getElem?_setIfInBounds_self_of_lt (by omega)]
    · rw [Array.getElem?_setIfInBounds_self_of_lt (by simp; omega)]
  · simp only [if_neg e]
    rw [Array.getElem?_setIfInBounds_ne (by omega), Array.getElem?_setIfInBounds_ne (by omega), Array.getElem?_setIfInBounds_ne (by omega), Array.getElem?_setIfInBounds_ne (by omega)]
    exact h3 j hj
end
end Go.Proofs.Ytjlniinahfgakaa
