/- Levels, plain: each part stands at least one step lower than what it is part of, one of them just so; what is part of nothing stands at 0. -/
import Derived.Test.YtmbdeafpfdeigaaJe
namespace Go.Proofs.Ytmbdeafpfdeigaa
open Go.ChangeShapes Go.WideShapes Go.ChangeAt Go.RowKit
set_option linter.unusedVariables false
set_option linter.unusedSimpArgs false

theorem lvP_no {L : Nat → Int} {i j : Nat} {z : Nat → PA6} : ∀ k, (∀ q, q < k → (z q).item.toNat ≠ j) → lvP L i z k j = L j
  | 0, _ => rfl
  | k + 1, h => by
    show upI _ _ _ j = L j
    rw [upI_ne (fun e => h k (by omega) e.symm)]
    exact lvP_no k (fun q hq => h q (by omega))
theorem lvP_yes {L : Nat → Int} {i j : Nat} {z : Nat → PA6} : ∀ k, (∀ q, q < k → (i : Int) + 1 ≤ (z q).item) → (∃ q, q < k ∧ (z q).item.toNat = j) → lvP L i z k j = max (L j) (L i + 1)
  | 0, _, ⟨q, hq, _⟩ => by omega
  | k + 1, h, ⟨q, hq, e⟩ => by
    have ho := lvP_own (L := L) (z := z) k (fun j hj => h j (by omega))
    show upI _ _ _ j = _
    by_cases e1 : j = (z k).item.toNat
    · subst e1
      rw [upI_eq, ho]
      by_cases e2 : ∃ q, q < k ∧ (z q).item.toNat = (z k).item.toNat
      · rw [lvP_yes k (fun j hj => h j (by omega)) e2]; omega
      · rw [lvP_no k (fun q hq e => e2 ⟨q, hq, e⟩)]
    · rw [upI_ne e1]
      refine lvP_yes k (fun j hj => h j (by omega)) ⟨q, ?_, e⟩
      by_cases e3 : q = k
      · subst e3; exact absurd e.symm e1
      · omega
theorem lvS_up {n : Nat} {c : Nat → IT} (h : LvOk n c) {m : Nat} (hm : m < n) (j : Nat) : lvS c m j ≤ lvS c (m + 1) j := by
  show _ ≤ lvP _ _ _ _ j
  by_cases e : ∃ q, q < (c m).parn ∧ ((c m).parz q).item.toNat = j
  · rw [lvP_yes _ (fun q hq => ((h m hm).2 q hq).1) e]; omega
  · rw [lvP_no _ (fun q hq e2 => e ⟨q, hq, e2⟩)]; exact Int.le_refl _
theorem lvS_mono {n : Nat} {c : Nat → IT} (h : LvOk n c) {m : Nat} (j : Nat) : ∀ k, m + k ≤ n → lvS c m j ≤ lvS c (m + k) j
  | 0, _ => Int.le_refl _
  | k + 1, hk => Int.le_trans (lvS_mono h j k (by omega)) (lvS_up h (by omega) j)
theorem lvS_keep {n : Nat} {c : Nat → IT} (h : LvOk n c) {i : Nat} : ∀ k, i + k ≤ n → lvS c (i + k) i = lvS c i i
  | 0, _ => rfl
  | k + 1, hk => by
    have ih := lvS_keep h (i := i) k (by omega)
    show lvP _ _ _ _ i = _
    rw [lvP_no _ (fun q hq e => by
      have e9 : ((c (i + k)).parz q).item.toNat = i := e
      have := ((h (i + k) (by omega)).2 q hq).1
      omega)]
    exact ih
/-- What stands at the end is what stood when its own turn came. -/
theorem lvS_end {n : Nat} {c : Nat → IT} (h : LvOk n c) {i : Nat} (hi : i ≤ n) : lvS c n i = lvS c i i := by
  have := lvS_keep h (i := i) (n - i) (by omega)
  rw [show i + (n - i) = n by omega] at this
  exact this
/-- A part stands at least one step lower. -/
theorem lv_low {n : Nat} {c : Nat → IT} (h : LvOk n c) {i k : Nat} (hi : i < n) (hk : k < (c i).parn) : lvS c n i + 1 ≤ lvS c n ((c i).parz k).item.toNat := by
  rw [lvS_end h (i := i) (by omega)]
  have h1 : lvS c i i + 1 ≤ lvS c (i + 1) ((c i).parz k).item.toNat := by
    show _ ≤ lvP _ _ _ _ _
    rw [lvP_yes _ (fun q hq => ((h i hi).2 q hq).1) ⟨k, hk, rfl⟩]
    omega
  have h2 := lvS_mono h (m := i + 1) ((c i).parz k).item.toNat (n - (i + 1)) (by omega)
  rw [show i + 1 + (n - (i + 1)) = n by omega] at h2
  exact Int.le_trans h1 h2
theorem lv_way {n : Nat} {c : Nat → IT} (h : LvOk n c) (p : Nat) : ∀ m, m ≤ n → (lvS c m p = 0 ∧ ∀ i, i < m → ∀ k, k < (c i).parn → ((c i).parz k).item.toNat ≠ p) ∨ (∃ i k, i < m ∧ k < (c i).parn ∧ ((c i).parz k).item.toNat = p ∧ lvS c m p = lvS c i i + 1)
  | 0, _ => .inl ⟨rfl, fun i hi => by omega⟩
  | m + 1, hm => by
    have ih := lv_way h p m (by omega)
    have hb := (lvS_bd h m (by omega) m).1
    by_cases e : ∃ q, q < (c m).parn ∧ ((c m).parz q).item.toNat = p
    · have hv : lvS c (m + 1) p = max (lvS c m p) (lvS c m m + 1) := lvP_yes _ (fun q hq => ((h m (by omega)).2 q hq).1) e
      obtain ⟨q, hq, eq⟩ := e
      rcases ih with ⟨h0, _⟩ | ⟨i, k, hi, hk, e1, e2⟩
      · exact .inr ⟨m, q, by omega, hq, eq, by rw [hv, h0]; omega⟩
      · by_cases g : lvS c m p ≤ lvS c m m + 1
        · exact .inr ⟨m, q, by omega, hq, eq, by rw [hv]; omega⟩
        · exact .inr ⟨i, k, by omega, hk, e1, by rw [hv, ← e2]; omega⟩
    · have hv : lvS c (m + 1) p = lvS c m p := lvP_no _ (fun q hq e2 => e ⟨q, hq, e2⟩)
      rcases ih with ⟨h0, h1⟩ | ⟨i, k, hi, hk, e1, e2⟩
      · refine .inl ⟨by rw [hv, h0], fun i hi k hk e2 => ?_⟩
        by_cases e3 : i = m
        · subst e3; exact e ⟨k, hk, e2⟩
        · exact h1 i (by omega) k hk e2
      · exact .inr ⟨i, k, by omega, hk, e1, by rw [hv, e2]⟩
/-- What is part of nothing stands at 0; what is part of something stands just one lower than one of those. -/
theorem lv_tight {n : Nat} {c : Nat → IT} (h : LvOk n c) (p : Nat) : (lvS c n p = 0 ∧ ∀ i, i < n → ∀ k, k < (c i).parn → ((c i).parz k).item.toNat ≠ p) ∨ (∃ i k, i < n ∧ k < (c i).parn ∧ ((c i).parz k).item.toNat = p ∧ lvS c n p = lvS c n i + 1) := by
  rcases lv_way h p n (Nat.le_refl _) with g | ⟨i, k, hi, hk, e1, e2⟩
  · exact .inl g
  · exact .inr ⟨i, k, hi, hk, e1, by rw [lvS_end h (i := i) (by omega)]; exact e2⟩
end Go.Proofs.Ytmbdeafpfdeigaa
