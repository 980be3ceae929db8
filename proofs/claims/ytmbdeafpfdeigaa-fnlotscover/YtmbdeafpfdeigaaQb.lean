/- The least way: its orders, its marks (plain); part Qb. -/
import Derived.Test.YtmbdeafpfdeigaaQa
namespace Go.Proofs.Ytmbdeafpfdeigaa
set_option linter.unusedVariables false
set_option linter.unusedSimpArgs false
/-- The orders of the least way up to e, with so much fuel. -/
def orF (S H : Int) (m : Nat → Int) : Nat → Nat → Nat → Int
  | 0, _, _ => 0
  | f + 1, e, j => if (wT S H m e e).2 = -1 then 0 else
      if (j : Int) = (wT S H m e e).2 then smQ m e - smQ m j else orF S H m f (wT S H m e e).2.toNat j
theorem orF_s (S H : Int) (m : Nat → Int) (f e j : Nat) : orF S H m (f + 1) e j = if (wT S H m e e).2 = -1 then 0 else if (j : Int) = (wT S H m e e).2 then smQ m e - smQ m j else orF S H m f (wT S H m e e).2.toNat j := rfl
theorem orF_fuel (S H : Int) (m : Nat → Int) : ∀ f e j, e ≤ f → orF S H m f e j = orF S H m e e j
  | 0, e, j, h => by obtain rfl : e = 0 := by omega
                     rfl
  | f + 1, 0, j, h => by
    rw [orF_s]
    have : (wT S H m 0 0).2 = -1 := rfl
    rw [if_pos this]; rfl
  | f + 1, e + 1, j, h => by
    rw [orF_s, orF_s]
    rcases wT_last S H m (e + 1) (e + 1) with g | ⟨l, g1, g2, g3, g4⟩
    · rw [if_pos g, if_pos g]
    · rw [g1]
      have : ¬ ((l : Int) = -1) := by omega
      rw [if_neg this, if_neg this]
      have e2 : ((l : Int)).toNat = l := by simp
      rw [e2, orF_fuel S H m f l j (by omega), orF_fuel S H m e l j (by omega)]
def orL (S H : Int) (m : Nat → Int) (e j : Nat) : Int := orF S H m e e j
/-- No way: no order. -/
theorem orL_none {S H : Int} {m : Nat → Int} {e : Nat} (h : (wT S H m e e).2 = -1) (j : Nat) : orL S H m e j = 0 := by
  unfold orL
  cases e with
  | zero => rfl
  | succ e => rw [orF_s, if_pos h]
/-- By the last order of the least way up to e. -/
theorem orL_step {S H : Int} {m : Nat → Int} {e f : Nat} (h : (wT S H m e e).2 = (f : Int)) (j : Nat) : orL S H m e j = if j = f then smQ m e - smQ m f else orL S H m f j := by
  unfold orL
  have hf : f < e := by
    rcases wT_last S H m e e with g | ⟨l, g1, g2, g3, g4⟩
    · omega
    · omega
  obtain ⟨e2, rfl⟩ : ∃ x, e = x + 1 := ⟨e - 1, by omega⟩
  rw [orF_s, h]
  have : ¬ ((f : Int) = -1) := by omega
  rw [if_neg this]
  have e3 : ((f : Int)).toNat = f := by simp
  rw [e3, orF_fuel S H m e2 f j (by omega)]
  by_cases q : j = f
  · subst q; rw [if_pos rfl, if_pos rfl]
  · rw [if_neg q, if_neg (by omega)]
/-- Behind what is covered there is no order. -/
theorem orL_past (S H : Int) (m : Nat → Int) : ∀ N e, e ≤ N → ∀ j, e ≤ j → orL S H m e j = 0
  | 0, e, h, j, hj => by obtain rfl : e = 0 := by omega
                         rfl
  | N + 1, e, h, j, hj => by
    rcases wT_last S H m e e with g | ⟨l, g1, g2, g3, g4⟩
    · exact orL_none g j
    · rw [orL_step g1, if_neg (by omega)]
      exact orL_past S H m N l (by omega) j (by omega)
/-- The marks of the least way up to e: l of them. -/
def IsCh (S H : Int) (m : Nat → Int) : Nat → Nat → (Nat → Nat) → Prop
  | 0, e, _ => (wT S H m e e).2 = -1
  | l + 1, e, mk => (wT S H m e e).2 = ((mk l : Nat) : Int) ∧ IsCh S H m l (mk l) mk
theorem IsCh.congr {S H : Int} {m : Nat → Int} {mk mk' : Nat → Nat} : ∀ {l e}, IsCh S H m l e mk → (∀ j, j < l → mk j = mk' j) → IsCh S H m l e mk'
  | 0, _, h, _ => h
  | l + 1, e, h, g => by
    have e1 := g l (by omega)
    refine ⟨by rw [h.1, e1], ?_⟩
    rw [← e1]
    exact IsCh.congr h.2 (fun j hj => g j (by omega))
theorem IsCh.step {S H : Int} {m : Nat → Int} {mk : Nat → Nat} {l e f : Nat} (h : IsCh S H m l f mk) (g : (wT S H m e e).2 = (f : Int)) : IsCh S H m (l + 1) e (fun j => if j = l then f else mk j) :=
  ⟨by simp [g], by
    simp only [if_pos]
    exact h.congr (fun j hj => by simp; omega)⟩
theorem IsCh.same {S H : Int} {m : Nat → Int} {mk mk' : Nat → Nat} : ∀ {l l' e}, IsCh S H m l e mk → IsCh S H m l' e mk' → l = l' ∧ ∀ j, j < l → mk j = mk' j
  | 0, 0, _, _, _ => ⟨rfl, fun j hj => by omega⟩
  | 0, l' + 1, e, h, g => by have a : (wT S H m e e).2 = -1 := h; have b := g.1; omega
  | l + 1, 0, e, h, g => by have a : (wT S H m e e).2 = -1 := g; have b := h.1; omega
  | l + 1, l' + 1, e, h, g => by
    have a := h.1
    have b := g.1
    have c : mk l = mk' l' := by omega
    have h2 := h.2
    rw [c] at h2
    obtain ⟨i1, i2⟩ := IsCh.same h2 g.2
    subst i1
    refine ⟨rfl, fun j hj => ?_⟩
    by_cases q : j = l
    · subst q; exact c
    · exact i2 j (by omega)
theorem IsCh.lt {S H : Int} {m : Nat → Int} {mk : Nat → Nat} : ∀ {l e}, IsCh S H m l e mk → ∀ j, j < l → mk j < e ∧ m (mk j) ≠ 0
  | 0, _, _, j, hj => by omega
  | l + 1, e, h, j, hj => by
    have a := h.1
    have hl : mk l < e ∧ m (mk l) ≠ 0 := by
      rcases wT_last S H m e e with g | ⟨f, g1, g2, g3, g4⟩
      · omega
      · have : mk l = f := by omega
        rw [this]; exact ⟨g3, g4⟩
    by_cases q : j = l
    · subst q; exact hl
    · have := IsCh.lt h.2 j (by omega)
      exact ⟨by omega, this.2⟩
theorem IsCh.asc {S H : Int} {m : Nat → Int} {mk : Nat → Nat} : ∀ {l e}, IsCh S H m l e mk → ∀ i j, i < j → j < l → mk i < mk j
  | 0, _, _, i, j, h1, h2 => by omega
  | l + 1, e, h, i, j, h1, h2 => by
    by_cases q : j = l
    · subst q; exact (IsCh.lt h.2 i h1).1
    · exact IsCh.asc h.2 i j h1 (by omega)
/-- Where the next order stands, or the end. -/
def nxM (l e : Nat) (mk : Nat → Nat) (k : Nat) : Nat := if k + 1 < l then mk (k + 1) else e
theorem IsCh.at {S H : Int} {m : Nat → Int} {mk : Nat → Nat} : ∀ {l e}, IsCh S H m l e mk → ∀ k, k < l → orL S H m e (mk k) = smQ m (nxM l e mk k) - smQ m (mk k)
  | 0, _, _, k, hk => by omega
  | l + 1, e, h, k, hk => by
    rw [orL_step h.1]
    by_cases q : k = l
    · subst q
      rw [if_pos rfl, show nxM (k + 1) e mk k = e from if_neg (by omega)]
    · have lt := (IsCh.lt h.2 k (by omega)).1
      rw [if_neg (by omega), IsCh.at h.2 k (by omega)]
      have : nxM (l + 1) e mk k = nxM l (mk l) mk k := by
        unfold nxM
        by_cases q2 : k + 1 < l
        · rw [if_pos q2, if_pos (by omega)]
        · rw [if_neg q2, if_pos (by omega), show k + 1 = l by omega]
      rw [this]
theorem IsCh.out {S H : Int} {m : Nat → Int} {mk : Nat → Nat} : ∀ {l e}, IsCh S H m l e mk → ∀ j, (∀ k, k < l → j ≠ mk k) → orL S H m e j = 0
  | 0, _, h, j, _ => orL_none h j
  | l + 1, e, h, j, g => by
    rw [orL_step h.1, if_neg (g l (by omega))]
    exact IsCh.out h.2 j (fun k hk => g k (by omega))
/-- There is no order between one mark and the next, and none ahead of the first. -/
theorem IsCh.between {S H : Int} {m : Nat → Int} {mk : Nat → Nat} {l e : Nat} (h : IsCh S H m l e mk) {k j : Nat} (h1 : ∀ i, i < k → i < l → mk i < j) (h2 : k < l → j < mk k) : orL S H m e j = 0 :=
  h.out j fun i hi => by
    by_cases q : i < k
    · have := h1 i q hi; omega
    · by_cases q2 : i = k
      · subst q2; have := h2 hi; omega
      · have := h2 (by omega)
        have := h.asc k i (by omega) hi
        omega
theorem IsCh.ex (S H : Int) (m : Nat → Int) : ∀ N e, e ≤ N → ∃ l mk, IsCh S H m l e mk ∧ l ≤ e
  | 0, e, h => ⟨0, fun _ => 0, by obtain rfl : e = 0 := by omega
                                  rfl, by omega⟩
  | N + 1, e, h => by
    rcases wT_last S H m e e with g | ⟨f, g1, g2, g3, g4⟩
    · exact ⟨0, fun _ => 0, g, by omega⟩
    · obtain ⟨l, mk, h1, h2⟩ := IsCh.ex S H m N f (by omega)
      exact ⟨l + 1, _, h1.step g1, by omega⟩
end Go.Proofs.Ytmbdeafpfdeigaa
