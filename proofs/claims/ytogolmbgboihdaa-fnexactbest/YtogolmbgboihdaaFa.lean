/- Plain: the first place at which something holds; rows of at most so many, each of which is right. -/
import Derived.Test.YtogolmbgboihdaaSm
namespace Go.Proofs.Ytogolmbgboihdaa
open Go.ChangeShapes Go.WideShapes Go.ChangeAt Go.RowKit
set_option linter.unusedVariables false
set_option linter.unusedSimpArgs false

/-- The lowest place from s on, of f places, at which p holds; -1 if there is none. -/
def fstF (p : Nat → Bool) : Nat → Nat → Int
  | 0, _ => -1
  | f + 1, s => if p s = true then (s : Int) else fstF p f (s + 1)
theorem fstF_hit {p : Nat → Bool} {len k : Nat} (hk : k < len) (h : p k = true) : fstF p (len - k) k = (k : Int) := by
  obtain ⟨f, hf⟩ : ∃ f, len - k = f + 1 := ⟨len - k - 1, by omega⟩
  rw [hf]; exact if_pos h
theorem fstF_miss {p : Nat → Bool} {len k : Nat} (hk : k < len) (h : p k = false) : fstF p (len - k) k = fstF p (len - (k + 1)) (k + 1) := by
  obtain ⟨f, hf⟩ : ∃ f, len - k = f + 1 := ⟨len - k - 1, by omega⟩
  rw [hf, show len - (k + 1) = f by omega]; exact if_neg (by rw [h]; decide)
theorem fstF_end {p : Nat → Bool} {k : Nat} : fstF p (k - k) k = -1 := by rw [Nat.sub_self]; rfl
theorem fstF_spec (p : Nat → Bool) : ∀ f s, (fstF p f s = -1 ∧ ∀ j, s ≤ j → j < s + f → p j = false) ∨ ∃ k : Nat, fstF p f s = (k : Int) ∧ s ≤ k ∧ k < s + f ∧ p k = true ∧ ∀ j, s ≤ j → j < k → p j = false
  | 0, s => .inl ⟨rfl, fun j h1 h2 => by omega⟩
  | f + 1, s => by
    cases h : p s
    · have e : fstF p (f + 1) s = fstF p f (s + 1) := if_neg (by rw [h]; decide)
      rcases fstF_spec p f (s + 1) with ⟨h1, h2⟩ | ⟨k, h1, h2, h3, h4, h5⟩
      · refine .inl ⟨e.trans h1, fun j g1 g2 => ?_⟩
        by_cases q : j = s
        · subst q; exact h
        · exact h2 j (by omega) (by omega)
      · refine .inr ⟨k, e.trans h1, by omega, by omega, h4, fun j g1 g2 => ?_⟩
        by_cases q : j = s
        · subst q; exact h
        · exact h5 j (by omega) g2
    · exact .inr ⟨s, if_pos h, by omega, by omega, h, fun j g1 g2 => by omega⟩

section
variable {α : Type} {T : α → Bool} {M n len : Nat} {c : Nat → α}
def ArG (T : α → Bool) (M n : Nat) (c : Nat → α) : Prop := n ≤ M ∧ ∀ j, j < n → T (c j) = true
open Classical in
noncomputable def arG (T : α → Bool) (M n : Nat) (c : Nat → α) : Bool := decide (ArG T M n c)
open Classical in
theorem arG_t (h : ArG T M n c) : arG T M n c = true := by unfold arG; exact decide_eq_true h
open Classical in
theorem arG_f (h : ¬ ArG T M n c) : arG T M n c = false := by unfold arG; exact decide_eq_false h
open Classical in
theorem arG_p (h : arG T M n c = true) : ArG T M n c := by unfold arG at h; exact of_decide_eq_true h
theorem arG_bad {j : Nat} (hj : j < n) (h : T (c j) = false) : arG T M n c = false := arG_f fun H => by have := H.2 j hj; rw [h] at this; cases this
theorem fst_arG (h6 : len ≤ M) : arG T M len c = !decide (0 ≤ fstF (fun j => !T (c j)) len 0) := by
  rcases fstF_spec (fun j => !T (c j)) len 0 with ⟨h, g⟩ | ⟨k, h, _, hk, hp, _⟩
  · rw [h, arG_t ⟨h6, fun j hj => by have := g j (by omega) (by omega); simpa using this⟩]; rfl
  · rw [h, arG_bad (j := k) (by omega) (by simpa using hp)]; simp
theorem arG_congr {d : Nat → α} (h : ∀ j, j < n → d j = c j) : arG T M n d = arG T M n c := by
  by_cases q : ArG T M n c
  · rw [arG_t q, arG_t ⟨q.1, fun j hj => by rw [h j hj]; exact q.2 j hj⟩]
  · rw [arG_f q, arG_f fun H => q ⟨H.1, fun j hj => by rw [← h j hj]; exact H.2 j hj⟩]
/-- Whether T holds all over a row. -/
def AlG (T : α → Bool) (n : Nat) (c : Nat → α) : Prop := ∀ j, j < n → T (c j) = true
open Classical in
noncomputable def alG (T : α → Bool) (n : Nat) (c : Nat → α) : Bool := decide (AlG T n c)
open Classical in
theorem alG_t (h : AlG T n c) : alG T n c = true := by unfold alG; exact decide_eq_true h
open Classical in
theorem alG_f (h : ¬ AlG T n c) : alG T n c = false := by unfold alG; exact decide_eq_false h
open Classical in
theorem alG_p (h : alG T n c = true) : AlG T n c := by unfold alG at h; exact of_decide_eq_true h
theorem alG_bad {j : Nat} (hj : j < n) (h : T (c j) = false) : alG T n c = false := alG_f fun H => by have := H j hj; rw [h] at this; cases this
theorem fst_alG : alG T len c = !decide (0 ≤ fstF (fun j => !T (c j)) len 0) := by
  rcases fstF_spec (fun j => !T (c j)) len 0 with ⟨h, g⟩ | ⟨k, h, _, hk, hp, _⟩
  · rw [h, alG_t fun j hj => by have := g j (by omega) (by omega); simpa using this]; rfl
  · rw [h, alG_bad (j := k) (by omega) (by simpa using hp)]; simp
end
theorem cell_lt {w : World} {b o : Nat} {v : Value} (h : w.cell? ⟨b, o, none⟩ = some v) : b < w.heap.size := by
  simp only [World.cell?] at h
  cases hh : w.heap[b]? with
  | none => simp [hh] at h
  | some o => exact lt_of_block hh
end Go.Proofs.Ytogolmbgboihdaa
