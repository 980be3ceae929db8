/- Plain facts of bills that are reminded day by day. -/
import Derived.Test.YtlhgmdmbjpaakaaNc
import Derived.Test.YtlhgmdmbjpaakaaNx
import Derived.Test.YtlhgmdmbjpaakaaFx
namespace Go.Proofs.Ytlhgmdmbjpaakaa
open Go Go.ChangeShapes Go.WideShapes Go.ChangeAt Go.RowKit
set_option linter.unusedVariables false
set_option linter.unusedSimpArgs false

def rdS (z : Nat → DN3) (am : Int) : Nat → Int
  | 0 => 0
  | k + 1 => rdS z am k + ((z k).fee + mdV am (z k).rate 100000 3)
/-- L of the n levels have days below d, and just the first ones. -/
def Cut (n : Nat) (z : Nat → DN3) (d : Int) (L : Nat) : Prop := L ≤ n ∧ (∀ i, i < L → (z i).days < d) ∧ (∀ i, L ≤ i → i < n → d ≤ (z i).days)
theorem Cut.uniq {n : Nat} {z : Nat → DN3} {d : Int} {L K : Nat} (h : Cut n z d L) (g : Cut n z d K) : L = K := by
  rcases Nat.lt_trichotomy L K with q | q | q
  · have := h.2.2 L (Nat.le_refl _) (by have := g.1; omega)
    have := g.2.1 L q
    omega
  · exact q
  · have := g.2.2 K (Nat.le_refl _) (by have := h.1; omega)
    have := h.2.1 K q
    omega
theorem dlOk_asc {z : Nat → DN3} {i : Nat} (h : dlOk z (i + 1) = true) : (z i).days < (z (i + 1)).days := by
  unfold dlOk at h
  simp only [Bool.and_eq_true, decide_eq_true_eq] at h
  have := h.2 (by omega)
  simpa using this
theorem dl_asc {n : Nat} {z : Nat → DN3} (h : ∀ j, j < n → dlOk z j = true) {i : Nat} : ∀ k, i + k + 1 < n → (z i).days < (z (i + k + 1)).days
  | 0, hk => dlOk_asc (h _ hk)
  | k + 1, hk => by
    have a := dl_asc h (i := i) k (by omega)
    have b := dlOk_asc (h (i + (k + 1) + 1) hk)
    rw [show i + (k + 1) = i + k + 1 by omega] at b ⊢
    omega
theorem dl_lt {n : Nat} {z : Nat → DN3} (h : ∀ j, j < n → dlOk z j = true) {i j : Nat} (hij : i < j) (hj : j < n) : (z i).days < (z j).days := by
  have := dl_asc h (i := i) (j - i - 1) (by omega)
  rw [show i + (j - i - 1) + 1 = j by omega] at this; exact this
theorem dlOk_p {z : Nat → DN3} {i : Nat} (h : dlOk z i = true) : (0 ≤ (z i).days ∧ (z i).days ≤ 1000) ∧ (0 ≤ (z i).fee ∧ (z i).fee ≤ 100000000000) ∧ (0 ≤ (z i).rate ∧ (z i).rate ≤ 100000) := by
  unfold dlOk at h
  simp only [Bool.and_eq_true] at h
  have h2 := h.1
  rw [dlE_eq] at h2
  simp only [Bool.and_eq_true] at h2
  exact ⟨inB_t h2.1, inB_t h2.2.1, inB_t h2.2.2⟩
theorem Cut.zero {n : Nat} {z : Nat → DN3} (h : ∀ j, j < n → dlOk z j = true) : Cut n z 0 0 := ⟨Nat.zero_le _, fun i hi => by omega, fun i _ hi => (dlOk_p (h i hi)).1.1⟩
theorem Cut.up {n : Nat} {z : Nat → DN3} {d : Int} {L : Nat} (h : ∀ j, j < n → dlOk z j = true) (c : Cut n z d L) (hL : L < n) (hd : (z L).days ≤ d) : Cut n z (d + 1) (L + 1) := by
  refine ⟨hL, fun i hi => ?_, fun i hi hn => ?_⟩
  · by_cases e : i = L
    · subst e; omega
    · have := c.2.1 i (by omega); omega
  · have := dl_lt h (i := L) (j := i) (by omega) hn
    have := c.2.2 L (Nat.le_refl _) hL
    omega
theorem Cut.stay {n : Nat} {z : Nat → DN3} {d : Int} {L : Nat} (h : ∀ j, j < n → dlOk z j = true) (c : Cut n z d L) (hL : L < n → d < (z L).days) : Cut n z (d + 1) L := by
  refine ⟨c.1, fun i hi => by have := c.2.1 i hi; omega, fun i hi hn => ?_⟩
  by_cases e : i = L
  · subst e; have := hL hn; omega
  · have := dl_lt h (i := L) (j := i) (by omega) hn
    have := hL (by omega)
    omega
/-- W of the first k have days of at most 100, and just the first ones. -/
def Wan (k : Nat) (z : Nat → DN3) (W : Nat) : Prop := W ≤ k ∧ (∀ i, i < W → (z i).days ≤ 100) ∧ (∀ i, W ≤ i → i < k → 100 < (z i).days)
theorem Wan.cut {n : Nat} {z : Nat → DN3} {W : Nat} (h : Wan n z W) : Cut n z 101 W := ⟨h.1, fun i hi => by have := h.2.1 i hi; omega, fun i h1 h2 => by have := h.2.2 i h1 h2; omega⟩
theorem Wan.up {k : Nat} {z : Nat → DN3} {W : Nat} (h : ∀ j, j < k + 1 → dlOk z j = true) (w : Wan k z W) (hd : (z k).days ≤ 100) : W = k ∧ Wan (k + 1) z (W + 1) := by
  have e : W = k := by
    rcases Nat.lt_or_ge W k with q | q
    · have := w.2.2 W (Nat.le_refl _) q
      have := dl_lt h q (by omega)
      omega
    · have := w.1; omega
  refine ⟨e, by omega, fun i hi => ?_, fun i h1 h2 => by omega⟩
  by_cases g : i = k
  · subst g; exact hd
  · exact w.2.1 i (by omega)
theorem Wan.stay {k : Nat} {z : Nat → DN3} {W : Nat} (w : Wan k z W) (hd : 100 < (z k).days) : Wan (k + 1) z W := by
  refine ⟨by have := w.1; omega, w.2.1, fun i h1 h2 => ?_⟩
  by_cases g : i = k
  · subst g; exact hd
  · exact w.2.2 i h1 (by omega)
theorem remind_one (W : World) : Calls Try.prog 22 #[.slice (some ⟨W.heap.size, 0, none⟩) 1 1, .int .i64 10, .int .i64 15, .int .i64 0, .int .i64 5000] (W.alloc (.cells #[.int .i64 5, .int .i64 100, .int .i64 1000] 43 (0, 0))) fun e w' => e = .returned (.tuple #[.int .i64 1, .int .i64 150]) ∧ Below W.heap.size W w' := by
  have h := implRemind_any (some ⟨W.heap.size, 0, none⟩) 1 1 (fun _ => ⟨5, 100, 1000⟩) 10 15 0 5000 (W.alloc (.cells #[.int .i64 5, .int .i64 100, .int .i64 1000] 43 (0, 0))) (by decide) (DNr.of_block (CB.new _ _) 1 _ (fun j hj => by obtain rfl : j = 0 := (by omega); exact ⟨rfl, rfl, rfl⟩))
  have ed : dv (5000 * 1000) 100000 3 = 50 := by decide
  have em : mdV 5000 1000 100000 3 = 50 := by rw [(md_in (a := 5000) (num := 1000) (den := 100000) (m := 3) (by unfold MdOk; omega) (by rw [ed]; omega) (by rw [ed]; omega)).2, ed]
  have hok : dlB 1 (fun _ => (⟨5, 100, 1000⟩ : DN3)) = true := dlB_t ⟨by omega, fun i hi => by obtain rfl : i = 0 := (by omega); decide⟩
  obtain ⟨e1, e2⟩ := rm_yes (n := 1) (z := fun _ => (⟨5, 100, 1000⟩ : DN3)) (du := 10) (to_ := 15) (lv := 0) (am := 5000) ⟨hok, by omega, by omega, by omega, by omega, by decide⟩
  simp only at e2
  rw [em] at e2
  rw [← e1, ← e2] at h
  exact h.mono fun e w' ⟨he, hb⟩ => ⟨he, bel_on ((Below.refl _ _).alloc (Nat.le_refl _) _) hb⟩
end Go.Proofs.Ytlhgmdmbjpaakaa
