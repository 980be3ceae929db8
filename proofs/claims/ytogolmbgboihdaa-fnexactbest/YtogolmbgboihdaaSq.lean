/- Insertion, and one element merged, plain. Nothing of the program. -/
import Derived.Test.YtogolmbgboihdaaSp
namespace Go.Proofs.Ytogolmbgboihdaa
set_option linter.unusedVariables false

section
variable {α : Type} {f g : Nat → α} {a b m : Nat}
/-- The places i and j change what they hold. -/
def swp (f : Nat → α) (i j : Nat) (k : Nat) : α := if k = i then f j else if k = j then f i else f k
theorem swp_l (f : Nat → α) (i j : Nat) : swp f i j i = f j := if_pos rfl
theorem swp_r (f : Nat → α) (i j : Nat) : swp f i j j = f i := by
  unfold swp
  by_cases h : j = i
  · rw [if_pos h, h]
  · rw [if_neg h, if_pos rfl]
theorem swp_o {i j k : Nat} (h1 : k ≠ i) (h2 : k ≠ j) : swp f i j k = f k := by unfold swp; rw [if_neg h1, if_neg h2]
theorem swp_perm {i j : Nat} (h1 : a ≤ i ∧ i < b) (h2 : a ≤ j ∧ j < b) : PermOn a b f (swp f i j) := by
  refine ⟨fun k hk => swp_o (fun e => hk (e ▸ h1)) (fun e => hk (e ▸ h2)), fun k => if k = i then j else if k = j then i else k, fun k q1 q2 => ?_, fun x y q1 q2 q3 q4 e => ?_⟩
  · by_cases e1 : k = i
    · subst e1; simp only [if_true]; exact ⟨h2.1, h2.2, swp_l _ _ _⟩
    · by_cases e2 : k = j
      · subst e2; simp only [if_neg e1, if_true]; exact ⟨h1.1, h1.2, swp_r _ _ _⟩
      · simp only [if_neg e1, if_neg e2]; exact ⟨q1, q2, swp_o e1 e2⟩
  · simp only at e
    split at e <;> split at e <;> (try split at e) <;> (try split at e) <;> omega
end

section
variable {α : Type} {lt : α → α → Prop} {f : Nat → α} {a i j m b e : Nat}
/-- All up to i is sorted but for the place j, which is less than all behind it. -/
def InsInv (lt : α → α → Prop) (f : Nat → α) (a i j : Nat) : Prop :=
  a ≤ j ∧ j ≤ i ∧ (∀ p q, a ≤ p → p < q → q ≤ i → p ≠ j → q ≠ j → lt (f p) (f q)) ∧ ∀ q, j < q → q ≤ i → lt (f j) (f q)
theorem InsInv.start (h : SortedOn lt f a i) (hai : a ≤ i) : InsInv lt f a i i := ⟨hai, Nat.le_refl _, fun p q h1 h2 h3 h4 h5 => h p q h1 h2 (by omega), fun q h1 h2 => by omega⟩
theorem InsInv.step (h : InsInv lt f a i j) (hj : a < j) (hl : lt (f j) (f (j - 1))) : InsInv lt (swp f j (j - 1)) a i (j - 1) := by
  obtain ⟨h1, h2, h3, h4⟩ := h
  refine ⟨by omega, by omega, fun p q q1 q2 q3 q4 q5 => ?_, fun q q1 q2 => ?_⟩
  · by_cases ep : p = j <;> by_cases eq : q = j
    · omega
    · subst ep; rw [swp_l, swp_o eq q5]; exact h3 (p - 1) q (by omega) (by omega) q3 (by omega) eq
    · subst eq; rw [swp_o ep q4, swp_l]; exact h3 p (q - 1) q1 (by omega) (by omega) ep (by omega)
    · rw [swp_o ep q4, swp_o eq q5]; exact h3 p q q1 q2 q3 ep eq
  · rw [swp_r]
    by_cases eq : q = j
    · subst eq; rw [swp_l]; exact hl
    · rw [swp_o eq (by omega)]; exact h4 q (by omega) q2
theorem InsInv.done (tr : ∀ x y z, lt x y → lt y z → lt x z) (h : InsInv lt f a i j) (he : j = a ∨ lt (f (j - 1)) (f j)) : SortedOn lt f a (i + 1) := by
  obtain ⟨h1, h2, h3, h4⟩ := h
  intro p q q1 q2 q3
  by_cases ep : p = j
  · rw [ep]; exact h4 q (by omega) (by omega)
  · by_cases eq : q = j
    · rw [eq]
      rcases he with e | e
      · omega
      · by_cases e2 : p = j - 1
        · rw [e2]; exact e
        · exact tr _ _ _ (h3 p (j - 1) q1 (by omega) (by omega) ep (by omega)) e
    · exact h3 p q q1 q2 (by omega) ep eq

/-- One element ahead of a sorted row, laid where it belongs. -/
theorem one_left (he : a + 1 ≤ e ∧ e ≤ b) (y : SortedOn lt f (a + 1) b) (hl : ∀ i, a + 1 ≤ i → i < e → lt (f i) (f a)) (hr : ∀ i, e ≤ i → i < b → lt (f a) (f i)) : SortedOn lt (rot a (a + 1) e f) a b := by
  have lo : ∀ i, a ≤ i → i < e - 1 → rot a (a + 1) e f i = f (i + 1) := fun i h1 h2 => by rw [rot_lo h1 (by omega)]; congr 1; omega
  have top : rot a (a + 1) e f (e - 1) = f a := by rw [rot_hi (by omega) (by omega)]; congr 1; omega
  have out : ∀ i, e ≤ i → rot a (a + 1) e f i = f i := fun i h => rot_out (by omega) (by omega) (by omega)
  intro i j h1 h2 h3
  rcases Nat.lt_or_ge j e with r | r
  · by_cases ej : j = e - 1
    · rw [ej, top, lo i h1 (by omega)]; exact hl _ (by omega) (by omega)
    · rw [lo i h1 (by omega), lo j (by omega) (by omega)]; exact y _ _ (by omega) (by omega) (by omega)
  · rw [out j r]
    by_cases ei : i = e - 1
    · rw [ei, top]; exact hr j r h3
    · rcases Nat.lt_or_ge i e with s | s
      · rw [lo i h1 (by omega)]; exact y _ _ (by omega) (by omega) h3
      · rw [out i s]; exact y _ _ (by omega) h2 h3
/-- One element behind a sorted row, laid where it belongs. -/
theorem one_right (he : a ≤ e ∧ e ≤ m) (x : SortedOn lt f a m) (hl : ∀ i, a ≤ i → i < e → lt (f i) (f m)) (hr : ∀ i, e ≤ i → i < m → lt (f m) (f i)) : SortedOn lt (rot e m (m + 1) f) a (m + 1) := by
  have fst : rot e m (m + 1) f e = f m := by rw [rot_lo (Nat.le_refl _) (by omega)]; congr 1; omega
  have hi : ∀ i, e < i → i ≤ m → rot e m (m + 1) f i = f (i - 1) := fun i h1 h2 => by rw [rot_hi (by omega) (by omega)]; congr 1; omega
  have out : ∀ i, i < e → rot e m (m + 1) f i = f i := fun i h => rot_out (by omega) (by omega) (by omega)
  intro i j h1 h2 h3
  rcases Nat.lt_or_ge i e with r | r
  · rw [out i r]
    rcases Nat.lt_trichotomy j e with s | s | s
    · rw [out j s]; exact x _ _ h1 h2 (by omega)
    · rw [s, fst]; exact hl i h1 r
    · rw [hi j s (by omega)]; exact x _ _ h1 (by omega) (by omega)
  · by_cases ei : i = e
    · rw [ei, fst, hi j (by omega) (by omega)]; exact hr _ (by omega) (by omega)
    · rw [hi i (by omega) (by omega), hi j (by omega) (by omega)]; exact x _ _ (by omega) (by omega) (by omega)
end

end Go.Proofs.Ytogolmbgboihdaa
