/- Charts, plain: what lies below an account is a run of places without a gap. Nothing of the program. -/
import Derived.Test.YtapailihjlfkgaaDoorCt
namespace Go.Proofs.YtapailihjlfkgaaDoor
set_option linter.unusedVariables false

/-- The place a is m or one that m is part of. -/
def Anc (P : Nat → Int) (a m : Nat) : Prop := upW P (atP (a : Int)) (m + 1) ≠ none

section
variable {P : Nat → Int} {n a b m : Nat}
theorem anc_self (P : Nat → Int) (a : Nat) : Anc P a a := by
  unfold Anc
  rw [upW_hit (atP_iff.2 (by omega))]
  simp
theorem anc_le (h : Anc P a m) : a ≤ m := by
  unfold Anc at h
  cases e : upW P (atP (a : Int)) (m + 1) with
  | none => exact absurd e h
  | some t => obtain ⟨h1, h2⟩ := upW_some e; have := atP_iff.1 h2; omega
theorem anc_step (L : Low P n) (hm : m < n) (hne : a ≠ m) : Anc P a m ↔ 0 ≤ P m ∧ Anc P a (P m).toNat := by
  have hf : atP (a : Int) (m + 1) = false := by
    cases e : atP (a : Int) (m + 1) with
    | false => rfl
    | true => have := atP_iff.1 e; omega
  unfold Anc
  rw [upW_step L hm hf]
  have hl := L m hm
  by_cases h0 : 0 ≤ P m
  · rw [show (P m + 1).toNat = (P m).toNat + 1 by omega]
    exact ⟨fun h => ⟨h0, h⟩, fun h => h.2⟩
  · rw [show (P m + 1).toNat = 0 by omega, upW_top (by
      cases e : atP (a : Int) 0 with
      | false => rfl
      | true => have := atP_iff.1 e; omega)]
    exact ⟨fun h => absurd rfl h, fun h => absurd h.1 h0⟩
theorem anc_trans (L : Low P n) (h1 : Anc P a b) : ∀ m, m < n → Anc P b m → Anc P a m := by
  intro m
  induction m using Nat.strongRecOn with
  | _ m ih =>
    intro hm h2
    by_cases e : b = m
    · exact e ▸ h1
    · by_cases e2 : a = m
      · exact e2 ▸ anc_self P a
      · obtain ⟨g1, g2⟩ := (anc_step L hm e).1 h2
        have hl := L m hm
        exact (anc_step L hm e2).2 ⟨g1, ih _ (by omega) (by omega) g2⟩
theorem anc_chain (L : Low P n) : ∀ m, m < n → Anc P a m → Anc P b m → a ≤ b → Anc P a b := by
  intro m
  induction m using Nat.strongRecOn with
  | _ m ih =>
    intro hm h1 h2 hab
    by_cases e : b = m
    · exact e ▸ h1
    · have hb := anc_le h2
      obtain ⟨g1, g2⟩ := (anc_step L hm e).1 h2
      obtain ⟨f1, f2⟩ := (anc_step L hm (by omega : a ≠ m)).1 h1
      have hl := L m hm
      exact ih _ (by omega) (by omega) f2 g2 hab
end

/-- Each account's Parent is on the way up from the account just ahead. -/
def Gapless (P : Nat → Int) (n : Nat) : Prop := ∀ m, m < n → 0 ≤ P m → Anc P (P m).toNat (m - 1)

theorem RightTo.gapless {c : Nat → C3} {n : Nat} (h : RightTo c n) : Gapless (par c) n := fun m hm h0 => by
  have hw := (h m hm).way
  have hl := (h m hm).low
  unfold Anc
  rw [show m - 1 + 1 = m by omega, show ((par c m).toNat : Int) = par c m by omega]
  exact hw

section
variable {P : Nat → Int} {n a : Nat}
theorem anc_contig (L : Low P n) (G : Gapless P n) : ∀ m y, m < n → Anc P a m → a ≤ y → y ≤ m → Anc P a y := by
  intro m
  induction m using Nat.strongRecOn with
  | _ m ih =>
    intro y hm h hy hym
    by_cases e : y = m
    · exact e ▸ h
    · obtain ⟨g1, g2⟩ := (anc_step L hm (by omega : a ≠ m)).1 h
      have hl := L m hm
      exact ih (m - 1) (by omega) y (by omega) (anc_trans L g2 _ (by omega) (G m hm g1)) hy (by omega)

/-- What lies below a, itself too, are the places from a up to e. -/
def IsEnd (P : Nat → Int) (n a e : Nat) : Prop := a < e ∧ e ≤ n ∧ ∀ y, y < n → (Anc P a y ↔ a ≤ y ∧ y < e)

theorem end_step (L : Low P (n + 1)) (G : Gapless P (n + 1)) {e : Nat} (h : IsEnd P n a e) (ha : a < n) : ∃ e', IsEnd P (n + 1) a e' := by
  obtain ⟨h1, h2, h3⟩ := h
  by_cases hA : Anc P a n
  · have he : e = n := by
      rcases Nat.lt_or_ge e n with q | q
      · have := (h3 e q).1 (anc_contig L G n e (by omega) hA (by omega) (by omega))
        omega
      · omega
    refine ⟨n + 1, by omega, Nat.le_refl _, fun y hy => ⟨fun q => ⟨anc_le q, hy⟩, fun q => ?_⟩⟩
    exact anc_contig L G n y (by omega) hA q.1 (by omega)
  · refine ⟨e, h1, by omega, fun y hy => ?_⟩
    by_cases e1 : y = n
    · subst e1; exact ⟨fun q => absurd q hA, fun q => by omega⟩
    · exact h3 y (by omega)

theorem end_ex (L : Low P n) (G : Gapless P n) (ha : a < n) : ∃ e, IsEnd P n a e := by
  induction n with
  | zero => omega
  | succ k ih =>
    by_cases e : a = k
    · subst e
      refine ⟨a + 1, by omega, Nat.le_refl _, fun y hy => ⟨fun q => ⟨anc_le q, hy⟩, fun q => ?_⟩⟩
      have : y = a := by omega
      exact this ▸ anc_self P a
    · obtain ⟨e', h⟩ := ih (fun i hi => L i (by omega)) (fun i hi => G i (by omega)) (by omega)
      exact end_step L G h (by omega)

theorem IsEnd.uniq {e f : Nat} (h : IsEnd P n a e) (k : IsEnd P n a f) : e = f := by
  obtain ⟨h1, h2, h3⟩ := h
  obtain ⟨k1, k2, k3⟩ := k
  rcases Nat.lt_trichotomy e f with q | q | q
  · have := (h3 e (by omega)).1 ((k3 e (by omega)).2 ⟨by omega, q⟩); omega
  · exact q
  · have := (k3 f (by omega)).1 ((h3 f (by omega)).2 ⟨by omega, q⟩); omega

theorem first_part (L : Low P n) {E : Nat} (hE : IsEnd P n a E) (h : a + 1 < E) : P (a + 1) = (a : Int) := by
  obtain ⟨h1, h2, h3⟩ := hE
  have hA := (h3 (a + 1) (by omega)).2 ⟨by omega, h⟩
  obtain ⟨g1, g2⟩ := (anc_step L (by omega : a + 1 < n) (by omega : a ≠ a + 1)).1 hA
  have := anc_le g2
  have := L (a + 1) (by omega)
  omega

theorem next_part (L : Low P n) (G : Gapless P n) {E x X : Nat} (hE : IsEnd P n a E) (hx : x < n) (hp : P x = (a : Int)) (hX : IsEnd P n x X) :
    X ≤ E ∧ (∀ y, x < y → y < X → P y ≠ (a : Int)) ∧ (X < E → P X = (a : Int)) := by
  obtain ⟨h1, h2, h3⟩ := hE
  obtain ⟨k1, k2, k3⟩ := hX
  have hlx := L x hx
  have hax : Anc P a x := (anc_step L hx (by omega)).2 ⟨by omega, by rw [hp]; simpa using anc_self P a⟩
  have last : Anc P x (X - 1) := (k3 (X - 1) (by omega)).2 ⟨by omega, by omega⟩
  refine ⟨?_, fun y g1 g2 => ?_, fun g => ?_⟩
  · have := (h3 (X - 1) (by omega)).1 (anc_trans L hax _ (by omega) last)
    omega
  · have hy := (k3 y (by omega)).2 ⟨by omega, g2⟩
    obtain ⟨q1, q2⟩ := (anc_step L (by omega : y < n) (by omega : x ≠ y)).1 hy
    have := anc_le q2
    omega
  · have hA := (h3 X (by omega)).2 ⟨by omega, g⟩
    have hN : ¬ Anc P x X := fun q => by have := (k3 X (by omega)).1 q; omega
    obtain ⟨q1, q2⟩ := (anc_step L (by omega : X < n) (by omega : a ≠ X)).1 hA
    have hle := anc_le q2
    have way := G X (by omega) q1
    have hlX := L X (by omega)
    rcases Nat.lt_or_ge (P X).toNat x with r | r
    · have r2 := anc_chain L (X - 1) (by omega) way last (by omega)
      obtain ⟨s1, s2⟩ := (anc_step L hx (by omega : (P X).toNat ≠ x)).1 r2
      have := anc_le s2
      omega
    · have r2 := anc_chain L (X - 1) (by omega) last way r
      exact absurd ((anc_step L (by omega : X < n) (by omega : x ≠ X)).2 ⟨q1, r2⟩) hN

theorem next_root (L : Low P n) (G : Gapless P n) {x X : Nat} (hx : x < n) (hp : P x = -1) (hX : IsEnd P n x X) :
    (∀ y, x < y → y < X → 0 ≤ P y) ∧ (X < n → P X = -1) := by
  obtain ⟨k1, k2, k3⟩ := hX
  have last : Anc P x (X - 1) := (k3 (X - 1) (by omega)).2 ⟨by omega, by omega⟩
  refine ⟨fun y g1 g2 => ?_, fun g => ?_⟩
  · have hy := (k3 y (by omega)).2 ⟨by omega, g2⟩
    exact ((anc_step L (by omega : y < n) (by omega : x ≠ y)).1 hy).1
  · have hN : ¬ Anc P x X := fun q => by have := (k3 X (by omega)).1 q; omega
    have hlX := L X (by omega)
    by_cases q1 : 0 ≤ P X
    · have way := G X (by omega) q1
      rcases Nat.lt_or_ge (P X).toNat x with r | r
      · have r2 := anc_chain L (X - 1) (by omega) way last (by omega)
        obtain ⟨s1, s2⟩ := (anc_step L hx (by omega : (P X).toNat ≠ x)).1 r2
        omega
      · have r2 := anc_chain L (X - 1) (by omega) last way r
        exact absurd ((anc_step L (by omega : X < n) (by omega : x ≠ X)).2 ⟨q1, r2⟩) hN
    · omega
end

/-- The parts of s (0: the top; a + 1: the account a) among the first n, in their order. -/
def chL (P : Nat → Int) (n s : Nat) : List Nat := (List.range n).filter (fun i => decide (P i + 1 = (s : Int)))
theorem chL_zero (P : Nat → Int) (s : Nat) : chL P 0 s = [] := rfl
theorem chL_hit {P : Nat → Int} {n s : Nat} (h : P n + 1 = (s : Int)) : chL P (n + 1) s = chL P n s ++ [n] := by simp [chL, List.range_succ, h]
theorem chL_miss {P : Nat → Int} {n s : Nat} (h : P n + 1 ≠ (s : Int)) : chL P (n + 1) s = chL P n s := by simp [chL, List.range_succ, h]
theorem chL_len (P : Nat → Int) (n s : Nat) : (chL P n s).length ≤ n := by
  have := List.length_filter_le (fun i => decide (P i + 1 = (s : Int))) (List.range n)
  simpa [chL] using this
theorem chL_same {P : Nat → Int} {x m s : Nat} (hx : x ≤ m) (h : ∀ y, x ≤ y → y < m → P y + 1 ≠ (s : Int)) : chL P m s = chL P x s := by
  induction m with
  | zero => rw [show x = 0 by omega]
  | succ k ih =>
    by_cases e : x = k + 1
    · rw [e]
    · rw [chL_miss (h k (by omega) (by omega)), ih (by omega) (fun y h1 h2 => h y h1 (by omega))]
theorem chL_get {P : Nat → Int} {n x s : Nat} (hx : x < n) (h : P x + 1 = (s : Int)) : (chL P n s)[(chL P x s).length]? = some x := by
  induction n with
  | zero => omega
  | succ k ih =>
    by_cases e : x = k
    · subst e; rw [chL_hit h]; simp
    · have hk := ih (by omega)
      have hlt : (chL P x s).length < (chL P k s).length := by
        rcases Nat.lt_or_ge (chL P x s).length (chL P k s).length with q | q
        · exact q
        · rw [List.getElem?_eq_none q] at hk; cases hk
      by_cases g : P k + 1 = (s : Int)
      · rw [chL_hit g, List.getElem?_append_left hlt]; exact hk
      · rw [chL_miss g]; exact hk
theorem chL_mem {P : Nat → Int} {n s j x : Nat} (h : (chL P n s)[j]? = some x) : x < n ∧ P x + 1 = (s : Int) := by
  have := List.mem_of_getElem? h
  simp [chL] at this
  exact this

end Go.Proofs.YtapailihjlfkgaaDoor
