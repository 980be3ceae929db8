/- Sums over the lines of entries. Nothing of the program. -/
import Derived.Test.YtgnhpjlfdkpaiaaLr
namespace Go.Proofs.Ytgnhpjlfdkpaiaa
set_option linter.unusedVariables false

def amtP (x : Int) : Prop := -100000000000 ≤ x ∧ x ≤ 100000000000
instance (x : Int) : Decidable (amtP x) := by unfold amtP; infer_instance
/-- A line whose two numbers are amounts. -/
def lnS (l : L5) : Prop := amtP l.amt ∧ amtP l.base
/-- An entry whose lines are few and can be summed. -/
def enS (e : E4) : Prop := e.n ≤ 60 ∧ ∀ k, k < e.n → lnS (e.ls k)
/-- Entries that can be summed. -/
noncomputable def smB (n : Nat) (es : Nat → E4) : Bool := @decide (n ≤ 1000 ∧ ∀ i, i < n → enS (es i)) (Classical.propDecidable _)
theorem smB_t {n : Nat} {es : Nat → E4} (h : n ≤ 1000 ∧ ∀ i, i < n → enS (es i)) : smB n es = true := @decide_eq_true _ (Classical.propDecidable _) h
theorem smB_f {n : Nat} {es : Nat → E4} (h : ¬ (n ≤ 1000 ∧ ∀ i, i < n → enS (es i))) : smB n es = false := @decide_eq_false _ (Classical.propDecidable _) h
theorem smB_out {n : Nat} {es : Nat → E4} (h : smB n es = true) : n ≤ 1000 ∧ ∀ i, i < n → enS (es i) := @of_decide_eq_true _ (Classical.propDecidable _) h

def askB (a x : Int) : Bool := decide (a = -1 ∨ a = x)
def hitB (ac dm cu : Int) (l : L5) : Bool := askB ac l.acc && askB dm l.dim && askB cu l.cur
def addL (ac dm cu : Int) (s : Int × Int) (l : L5) : Int × Int := if hitB ac dm cu l = true then (s.1 + l.amt, s.2 + l.base) else s
/-- What the lines that are asked for come to. -/
def balL (ac dm cu : Int) (l : List L5) : Int × Int := l.foldl (addL ac dm cu) (0, 0)
theorem balL_nil (ac dm cu : Int) : balL ac dm cu [] = (0, 0) := rfl
theorem balL_snoc (ac dm cu : Int) (l : List L5) (x : L5) : balL ac dm cu (l ++ [x]) = addL ac dm cu (balL ac dm cu l) x := by unfold balL; rw [List.foldl_append]; rfl
theorem addL_hit {ac dm cu : Int} {s : Int × Int} {l : L5} (h : hitB ac dm cu l = true) : addL ac dm cu s l = (s.1 + l.amt, s.2 + l.base) := by unfold addL; rw [if_pos h]
theorem addL_not {ac dm cu : Int} {s : Int × Int} {l : L5} (h : hitB ac dm cu l = false) : addL ac dm cu s l = s := by unfold addL; rw [h]; rfl
theorem balL_snoc_hit {ac dm cu : Int} {l : List L5} {x : L5} (h : hitB ac dm cu x = true) : balL ac dm cu (l ++ [x]) = ((balL ac dm cu l).1 + x.amt, (balL ac dm cu l).2 + x.base) := by rw [balL_snoc, addL_hit h]
theorem balL_snoc_not {ac dm cu : Int} {l : List L5} {x : L5} (h : hitB ac dm cu x = false) : balL ac dm cu (l ++ [x]) = balL ac dm cu l := by rw [balL_snoc, addL_not h]

theorem fold_bound (ac dm cu : Int) : ∀ (l : List L5) (s : Int × Int), (∀ x ∈ l, lnS x) → (s.1 - 100000000000 * (l.length : Int) ≤ (l.foldl (addL ac dm cu) s).1 ∧ (l.foldl (addL ac dm cu) s).1 ≤ s.1 + 100000000000 * (l.length : Int)) ∧ (s.2 - 100000000000 * (l.length : Int) ≤ (l.foldl (addL ac dm cu) s).2 ∧ (l.foldl (addL ac dm cu) s).2 ≤ s.2 + 100000000000 * (l.length : Int))
  | [], s, h => by simp
  | x :: l, s, h => by
    have i1 := fold_bound ac dm cu l (addL ac dm cu s x) (fun y hy => h y (by simp [hy]))
    have hx := h x (by simp)
    unfold lnS amtP at hx
    rw [List.foldl_cons]
    have e : (addL ac dm cu s x).1 ≤ s.1 + 100000000000 ∧ s.1 - 100000000000 ≤ (addL ac dm cu s x).1 ∧ (addL ac dm cu s x).2 ≤ s.2 + 100000000000 ∧ s.2 - 100000000000 ≤ (addL ac dm cu s x).2 := by
      unfold addL; split <;> omega
    simp only [List.length_cons]
    omega
theorem balL_bound (ac dm cu : Int) (l : List L5) (h : ∀ x ∈ l, lnS x) : (-100000000000 * (l.length : Int) ≤ (balL ac dm cu l).1 ∧ (balL ac dm cu l).1 ≤ 100000000000 * (l.length : Int)) ∧ (-100000000000 * (l.length : Int) ≤ (balL ac dm cu l).2 ∧ (balL ac dm cu l).2 ≤ 100000000000 * (l.length : Int)) := by
  have := fold_bound ac dm cu l (0, 0) h
  unfold balL
  omega

/-- The lines of a row, the first k. -/
def rowL (ls : Nat → L5) : Nat → List L5
  | 0 => []
  | k + 1 => rowL ls k ++ [ls k]
theorem rowL_len (ls : Nat → L5) : ∀ k, (rowL ls k).length = k
  | 0 => rfl
  | k + 1 => by simp [rowL, rowL_len ls k]
theorem rowL_mem {ls : Nat → L5} : ∀ {k : Nat} {x : L5}, x ∈ rowL ls k → ∃ i, i < k ∧ x = ls i
  | 0, x, h => by simp [rowL] at h
  | k + 1, x, h => by
    simp only [rowL, List.mem_append, List.mem_singleton] at h
    rcases h with h | rfl
    · obtain ⟨i, hi, e⟩ := rowL_mem h; exact ⟨i, by omega, e⟩
    · exact ⟨k, by omega, rfl⟩
/-- The lines of the first k entries with days from f to t. -/
def ylS (f t : Int) (es : Nat → E4) : Nat → List L5
  | 0 => []
  | k + 1 => if f ≤ (es k).day ∧ (es k).day ≤ t then ylS f t es k ++ rowL (es k).ls (es k).n else ylS f t es k
theorem ylS_in {f t : Int} {es : Nat → E4} {k : Nat} (h : f ≤ (es k).day ∧ (es k).day ≤ t) : ylS f t es (k + 1) = ylS f t es k ++ rowL (es k).ls (es k).n := by simp [ylS, h]
theorem ylS_out {f t : Int} {es : Nat → E4} {k : Nat} (h : ¬ (f ≤ (es k).day ∧ (es k).day ≤ t)) : ylS f t es (k + 1) = ylS f t es k := by simp only [ylS, if_neg h]
theorem ylS_ok {f t : Int} {es : Nat → E4} : ∀ {n : Nat}, (∀ i, i < n → enS (es i)) → (ylS f t es n).length ≤ 60 * n ∧ ∀ x ∈ ylS f t es n, lnS x
  | 0, h => by simp [ylS]
  | k + 1, h => by
    obtain ⟨h1, h2⟩ := ylS_ok (f := f) (t := t) (n := k) (fun i hi => h i (by omega))
    obtain ⟨h3, h4⟩ := h k (by omega)
    by_cases hd : f ≤ (es k).day ∧ (es k).day ≤ t
    · rw [ylS_in hd]
      refine ⟨by rw [List.length_append, rowL_len]; omega, fun x hx => ?_⟩
      rcases List.mem_append.1 hx with g | g
      · exact h2 x g
      · obtain ⟨i, hi, rfl⟩ := rowL_mem g; exact h4 i hi
    · rw [ylS_out hd]; exact ⟨by omega, h2⟩
theorem ylS_mem {f t : Int} {es : Nat → E4} : ∀ {n : Nat} {x : L5}, x ∈ ylS f t es n → ∃ i k, i < n ∧ k < (es i).n ∧ x = (es i).ls k
  | 0, x, h => by simp [ylS] at h
  | m + 1, x, h => by
    by_cases hd : f ≤ (es m).day ∧ (es m).day ≤ t
    · rw [ylS_in hd] at h
      rcases List.mem_append.1 h with g | g
      · obtain ⟨i, k, hi, hk, e⟩ := ylS_mem g; exact ⟨i, k, by omega, hk, e⟩
      · obtain ⟨k, hk, e⟩ := rowL_mem g; exact ⟨m, k, by omega, hk, e⟩
    · rw [ylS_out hd] at h
      obtain ⟨i, k, hi, hk, e⟩ := ylS_mem h; exact ⟨i, k, by omega, hk, e⟩
/-- The lines up to entry i, and of entry i the first k: where one is within the days. -/
def ylP (f t : Int) (es : Nat → E4) (i k : Nat) : List L5 := if f ≤ (es i).day ∧ (es i).day ≤ t then ylS f t es i ++ rowL (es i).ls k else ylS f t es i
theorem ylP_zero (f t : Int) (es : Nat → E4) (i : Nat) : ylP f t es i 0 = ylS f t es i := by unfold ylP; split <;> simp [rowL]
theorem ylP_full (f t : Int) (es : Nat → E4) (i : Nat) : ylP f t es i (es i).n = ylS f t es (i + 1) := rfl
theorem ylP_in {f t : Int} {es : Nat → E4} {i k : Nat} (h : f ≤ (es i).day ∧ (es i).day ≤ t) : ylP f t es i (k + 1) = ylP f t es i k ++ [(es i).ls k] := by unfold ylP; rw [if_pos h, if_pos h, rowL, List.append_assoc]
theorem ylP_out {f t : Int} {es : Nat → E4} {i k m : Nat} (h : ¬ (f ≤ (es i).day ∧ (es i).day ≤ t)) : ylP f t es i k = ylP f t es i m := by unfold ylP; rw [if_neg h, if_neg h]
theorem ylS_mono {f t : Int} {es : Nat → E4} : ∀ {n m : Nat}, n ≤ m → ∃ r, ylS f t es m = ylS f t es n ++ r
  | n, 0, h => ⟨[], by obtain rfl : n = 0 := by omega
                       simp⟩
  | n, m + 1, h => by
    by_cases hn : n = m + 1
    · subst hn; exact ⟨[], by simp⟩
    · obtain ⟨r, hr⟩ := ylS_mono (f := f) (t := t) (es := es) (n := n) (m := m) (by omega)
      by_cases hd : f ≤ (es m).day ∧ (es m).day ≤ t
      · exact ⟨r ++ rowL (es m).ls (es m).n, by rw [ylS_in hd, hr, List.append_assoc]⟩
      · exact ⟨r, by rw [ylS_out hd, hr]⟩
theorem rowL_mono {ls : Nat → L5} : ∀ {n m : Nat}, n ≤ m → ∃ r, rowL ls m = rowL ls n ++ r
  | n, 0, h => ⟨[], by obtain rfl : n = 0 := by omega
                       simp⟩
  | n, m + 1, h => by
    by_cases hn : n = m + 1
    · subst hn; exact ⟨[], by simp⟩
    · obtain ⟨r, hr⟩ := rowL_mono (ls := ls) (n := n) (m := m) (by omega)
      exact ⟨r ++ [ls m], by rw [rowL, hr, List.append_assoc]⟩
theorem ylP_pre {f t : Int} {es : Nat → E4} {i k n : Nat} (hi : i < n) (hk : k ≤ (es i).n) : ∃ r, ylS f t es n = ylP f t es i k ++ r := by
  obtain ⟨r, hr⟩ := ylS_mono (f := f) (t := t) (es := es) (n := i + 1) (m := n) (by omega)
  by_cases hd : f ≤ (es i).day ∧ (es i).day ≤ t
  · obtain ⟨q, hq⟩ := rowL_mono (ls := (es i).ls) hk
    exact ⟨q ++ r, by rw [hr, ylS_in hd, hq]; unfold ylP; rw [if_pos hd]; simp [List.append_assoc]⟩
  · exact ⟨r, by rw [hr, ylS_out hd]; unfold ylP; rw [if_neg hd]⟩
/-- What Balance tells. -/
noncomputable def balV (ac dm cu f t : Int) (n : Nat) (es : Nat → E4) : Int × Int := if smB n es = true then balL ac dm cu (ylS f t es n) else (0, 0)
theorem balV_t {ac dm cu f t : Int} {n : Nat} {es : Nat → E4} (h : smB n es = true) : balV ac dm cu f t n es = balL ac dm cu (ylS f t es n) := by unfold balV; rw [if_pos h]
theorem balV_f {ac dm cu f t : Int} {n : Nat} {es : Nat → E4} (h : smB n es = false) : balV ac dm cu f t n es = (0, 0) := by unfold balV; rw [h]; rfl
theorem bal_small {ac dm cu f t : Int} {n : Nat} {es : Nat → E4} (hn : n ≤ 1000) (h : ∀ i, i < n → enS (es i)) (l : List L5) (hl : ∃ r, ylS f t es n = l ++ r) :
    (-6000000000000000 ≤ (balL ac dm cu l).1 ∧ (balL ac dm cu l).1 ≤ 6000000000000000) ∧ (-6000000000000000 ≤ (balL ac dm cu l).2 ∧ (balL ac dm cu l).2 ≤ 6000000000000000) := by
  obtain ⟨r, hr⟩ := hl
  obtain ⟨h1, h2⟩ := ylS_ok (f := f) (t := t) h
  have h3 := balL_bound ac dm cu l (fun x hx => h2 x (by rw [hr]; simp [hx]))
  have h4 : l.length ≤ 60000 := by rw [hr, List.length_append] at h1; omega
  omega

end Go.Proofs.Ytgnhpjlfdkpaiaa
