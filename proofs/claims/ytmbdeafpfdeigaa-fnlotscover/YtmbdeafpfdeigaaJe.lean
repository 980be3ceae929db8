/- Levels, plain: the longest ways down, part by part. -/
import Derived.Test.YtmbdeafpfdeigaaJc
namespace Go.Proofs.Ytmbdeafpfdeigaa
open Go.ChangeShapes Go.WideShapes Go.ChangeAt Go.RowKit
set_option linter.unusedVariables false
set_option linter.unusedSimpArgs false

def upI (L : Nat → Int) (i : Nat) (v : Int) : Nat → Int := fun j => if j = i then v else L j
theorem upI_eq {L : Nat → Int} {i : Nat} {v : Int} : upI L i v i = v := if_pos rfl
theorem upI_ne {L : Nat → Int} {i j : Nat} {v : Int} (h : j ≠ i) : upI L i v j = L j := if_neg h
/-- The levels behind k parts of the item at i. -/
def lvP (L : Nat → Int) (i : Nat) (z : Nat → PA6) : Nat → (Nat → Int)
  | 0 => L
  | k + 1 => upI (lvP L i z k) (z k).item.toNat (max (lvP L i z k (z k).item.toNat) (lvP L i z k i + 1))
/-- The levels behind the parts of the first i items. -/
def lvS (c : Nat → IT) : Nat → (Nat → Int)
  | 0 => fun _ => 0
  | i + 1 => lvP (lvS c i) i (c i).parz (c i).parn
/-- Every part stands behind what it is part of, and is one of n. -/
def LvOk (n : Nat) (c : Nat → IT) : Prop := ∀ i, i < n → (c i).parn ≤ 30 ∧ ∀ k, k < (c i).parn → (i : Int) + 1 ≤ ((c i).parz k).item ∧ ((c i).parz k).item ≤ (n : Int) - 1
theorem lvP_own {L : Nat → Int} {i : Nat} {z : Nat → PA6} : ∀ k, (∀ j, j < k → (i : Int) + 1 ≤ (z j).item) → lvP L i z k i = L i
  | 0, _ => rfl
  | k + 1, h => by
    have := h k (by omega)
    show upI _ _ _ i = L i
    rw [upI_ne (by omega)]
    exact lvP_own k (fun j hj => h j (by omega))
theorem lvP_bd {L : Nat → Int} {i : Nat} {z : Nat → PA6} {M : Int} (h0 : ∀ j, 0 ≤ L j ∧ L j ≤ M + 1) (hi : L i ≤ M) : ∀ k, (∀ j, j < k → (i : Int) + 1 ≤ (z j).item) → ∀ j, 0 ≤ lvP L i z k j ∧ lvP L i z k j ≤ M + 1
  | 0, _ => h0
  | k + 1, h => fun j => by
    have ih := lvP_bd h0 hi k (fun j hj => h j (by omega))
    have hw := lvP_own (L := L) (z := z) k (fun j hj => h j (by omega))
    show 0 ≤ upI _ _ _ j ∧ upI _ _ _ j ≤ M + 1
    by_cases e : j = (z k).item.toNat
    · subst e
      rw [upI_eq, hw]
      have := ih (z k).item.toNat
      have := h0 i
      omega
    · rw [upI_ne e]; exact ih j
theorem lvS_bd {n : Nat} {c : Nat → IT} (h : LvOk n c) : ∀ i, i ≤ n → ∀ j, 0 ≤ lvS c i j ∧ lvS c i j ≤ (i : Int)
  | 0, _, j => ⟨Int.le_refl _, Int.le_refl _⟩
  | i + 1, hi, j => by
    have ih := lvS_bd h i (by omega)
    have := lvP_bd (L := lvS c i) (i := i) (z := (c i).parz) (M := (i : Int)) (fun j => by have := ih j; omega) (ih i).2 (c i).parn (fun k hk => ((h i (by omega)).2 k hk).1) j
    show 0 ≤ lvP _ _ _ _ j ∧ lvP _ _ _ _ j ≤ _
    omega
/-- Behind k parts of the item at i nothing is more than i + 1, and the item itself no more than i. -/
theorem lvM_bd {n : Nat} {c : Nat → IT} (h : LvOk n c) {i k : Nat} (hi : i < n) (hk : k ≤ (c i).parn) : (∀ j, 0 ≤ lvP (lvS c i) i (c i).parz k j ∧ lvP (lvS c i) i (c i).parz k j ≤ (i : Int) + 1) := by
  have ih := lvS_bd h i (by omega)
  exact lvP_bd (fun j => by have := ih j; omega) (ih i).2 k (fun j hj => ((h i hi).2 j (by omega)).1)
theorem itB_lv {n : Nat} {c : Nat → IT} (h : ∀ j, j < n → itB (j : Int) (n : Int) (c j) = true) : LvOk n c := fun i hi => by
  obtain ⟨_, _, _, h4, _⟩ := itB_p (h i hi)
  exact ⟨h4.1, fun k hk => by have := (paB_p (h4.2 k hk)).1; omega⟩
end Go.Proofs.Ytmbdeafpfdeigaa
