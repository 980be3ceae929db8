/- Worths, plain: sums of lays (qS, kS), when a worth is right (woB). -/
import Derived.Test.YtdgccdlaokbnhaaLc
namespace Go.Proofs.Ytdgccdlaokbnhaa
open Go.ChangeShapes Go.WideShapes Go.ChangeAt Go.RowKit
set_option linter.unusedVariables false
set_option linter.unusedSimpArgs false

def qS (c : Nat → LA2) : Nat → Int
  | 0 => 0
  | k + 1 => qS c k + (c k).qty
def kS (c : Nat → LA2) : Nat → Int
  | 0 => 0
  | k + 1 => kS c k + (c k).cost
theorem sums_bd {c : Nat → LA2} : ∀ n, (∀ j, j < n → laB (c j) = true) → (n : Int) ≤ qS c n ∧ qS c n ≤ 1000000 * (n : Int) ∧ 0 ≤ kS c n ∧ kS c n ≤ 100000000000 * (n : Int)
  | 0, _ => ⟨Int.le_refl _, Int.le_refl _, Int.le_refl _, Int.le_refl _⟩
  | n + 1, h => by
    obtain ⟨h1, h2, h3, h4⟩ := sums_bd n (fun j hj => h j (by omega))
    obtain ⟨⟨g1, g2⟩, g3, g4⟩ := laB_p (h n (by omega))
    refine ⟨?_, ?_, ?_, ?_⟩ <;> (simp only [qS, kS]; omega)
theorem qS_congr {c d : Nat → LA2} : ∀ n, (∀ j, j < n → c j = d j) → qS c n = qS d n
  | 0, _ => rfl
  | n + 1, h => by simp only [qS]; rw [qS_congr n (fun j hj => h j (by omega)), h n (by omega)]
theorem kS_congr {c d : Nat → LA2} : ∀ n, (∀ j, j < n → c j = d j) → kS c n = kS d n
  | 0, _ => rfl
  | n + 1, h => by simp only [kS]; rw [kS_congr n (fun j hj => h j (by omega)), h n (by omega)]

/-- How many lays a method may have. -/
def mlN (m : Int) : Nat := if m = 3 ∨ m = 4 then 1 else 300
structure WoP (m p : Int) (n : Nat) (c : Nat → LA2) (off : Int) : Prop where
  met : 1 ≤ m ∧ m ≤ 4
  len : n ≤ mlN m
  lay : ∀ j, j < n → laB (c j) = true
  std : m = 4 → (0 ≤ p ∧ p ≤ 100000) ∧ (-100000000000 ≤ off ∧ off ≤ 100000000000) ∧ kS c n = qS c n * p
  oth : m ≠ 4 → p = 0 ∧ off = 0
  qty : qS c n ≤ 1000000
  cost : kS c n ≤ 100000000000
open Classical in
noncomputable def woB (m p : Int) (n : Nat) (c : Nat → LA2) (off : Int) : Bool := decide (WoP m p n c off)
section
variable {m p off : Int} {n : Nat} {c : Nat → LA2}
open Classical in
theorem woB_t (h : WoP m p n c off) : woB m p n c off = true := by unfold woB; exact decide_eq_true h
open Classical in
theorem woB_f (h : ¬ WoP m p n c off) : woB m p n c off = false := by unfold woB; exact decide_eq_false h
open Classical in
theorem woB_p (h : woB m p n c off = true) : WoP m p n c off := by unfold woB at h; exact of_decide_eq_true h
theorem mlN_le : mlN m ≤ 300 := by unfold mlN; split <;> omega
theorem WoP.len300 (h : WoP m p n c off) : n ≤ 300 := Nat.le_trans h.len mlN_le
theorem WoP.bd (h : WoP m p n c off) : (n : Int) ≤ qS c n ∧ qS c n ≤ 1000000 ∧ 0 ≤ kS c n ∧ kS c n ≤ 100000000000 := by
  obtain ⟨h1, _, h3, _⟩ := sums_bd n h.lay
  exact ⟨h1, h.qty, h3, h.cost⟩
theorem woB_ar (h : arB (mlN m) n c = false) : woB m p n c off = false := woB_f fun H => by
  rw [arB_t ⟨H.len, H.lay⟩] at h; cases h
theorem woB_congr {d : Nat → LA2} (h : ∀ j, j < n → c j = d j) : woB m p n c off = woB m p n d off := by
  have key : ∀ c d : Nat → LA2, (∀ j, j < n → c j = d j) → WoP m p n c off → WoP m p n d off := fun c d h H =>
    ⟨H.met, H.len, fun j hj => by rw [← h j hj]; exact H.lay j hj, fun e => by have := H.std e; rw [qS_congr n h, kS_congr n h] at this; exact this, H.oth, by rw [← qS_congr n h]; exact H.qty, by rw [← kS_congr n h]; exact H.cost⟩
  cases g : woB m p n d off
  · exact woB_f fun H => by rw [woB_t (key c d h H)] at g; cases g
  · exact woB_t (key d c (fun j hj => (h j hj).symm) (woB_p g))
end
end Go.Proofs.Ytdgccdlaokbnhaa
