/- What rate a day has, over lists. Nothing of the program's code. -/
import Derived.Test.YtghphlnpginmhaaVRa
namespace Go.Proofs.Ytghphlnpginmhaa.Rt
set_option linter.unusedVariables false
def rl (len : Nat) (r : Nat → R4) : List R4 := (List.range len).map r
def pickL (p d : Int) (l : List R4) : List R4 := l.filter (fun x => decide (x.from_ = p ∧ x.day ≤ d))
def tabL (p : Int) (l : List R4) : List R4 := l.filter (fun x => decide (x.from_ = p))
def lastR (p d : Int) (len : Nat) (r : Nat → R4) : Option R4 := (pickL p d (rl len r)).getLast?
theorem rl_succ (k : Nat) (r : Nat → R4) : rl (k + 1) r = rl k r ++ [r k] := by simp [rl, List.range_succ]
theorem rl_length (k : Nat) (r : Nat → R4) : (rl k r).length = k := by simp [rl]
theorem tab_hit {p : Int} {l : List R4} {x : R4} (h : x.from_ = p) : tabL p (l ++ [x]) = tabL p l ++ [x] := by simp [tabL, h]
theorem tab_miss {p : Int} {l : List R4} {x : R4} (h : x.from_ ≠ p) : tabL p (l ++ [x]) = tabL p l := by simp [tabL, h]
theorem tab_length (p : Int) (l : List R4) : (tabL p l).length ≤ l.length := List.length_filter_le _ _
theorem last_zero (p d : Int) (r : Nat → R4) : lastR p d 0 r = none := rfl
theorem last_hit {p d : Int} {k : Nat} {r : Nat → R4} (h1 : (r k).from_ = p) (h2 : (r k).day ≤ d) : lastR p d (k + 1) r = some (r k) := by
  unfold lastR; rw [rl_succ]; simp [pickL, h1, h2]
theorem last_miss {p d : Int} {k : Nat} {r : Nat → R4} (h : ¬ ((r k).from_ = p ∧ (r k).day ≤ d)) : lastR p d (k + 1) r = lastR p d k r := by
  unfold lastR; rw [rl_succ]
  have : pickL p d (rl k r ++ [r k]) = pickL p d (rl k r) := by
    unfold pickL; rw [List.filter_append]
    have e : List.filter (fun x => decide (x.from_ = p ∧ x.day ≤ d)) [r k] = [] := by
      rw [List.filter_eq_nil_iff]; intro a ha; simp at ha; subst ha; simpa using h
    rw [e, List.append_nil]
  rw [this]
theorem pick_tab (p d : Int) (l : List R4) : pickL p d l = (tabL p l).filter (fun x => decide (x.day ≤ d)) := by
  unfold pickL tabL; rw [List.filter_filter]; congr 1; funext x; simp [Bool.and_comm]
/-- Where a search has come to s, the last rate up to the day is the one ahead of s. -/
theorem last_of_search {p d : Int} {len : Nat} {r : Nat → R4} {s : Nat} (hs : s ≤ (tabL p (rl len r)).length)
    (h1 : ∀ i (h : i < (tabL p (rl len r)).length), i < s → (tabL p (rl len r))[i].day ≤ d) (h2 : ∀ i (h : i < (tabL p (rl len r)).length), s ≤ i → d < (tabL p (rl len r))[i].day) :
    (s = 0 → lastR p d len r = none) ∧ (∀ j, s = j + 1 → ∀ (h : j < (tabL p (rl len r)).length), lastR p d len r = some ((tabL p (rl len r))[j])) := by
  have key : pickL p d (rl len r) = (tabL p (rl len r)).take s := by
    rw [pick_tab]
    generalize tabL p (rl len r) = T at *
    conv => lhs; rw [← List.take_append_drop s T]
    rw [List.filter_append]
    have e1 : (T.take s).filter (fun x => decide (x.day ≤ d)) = T.take s := by
      rw [List.filter_eq_self]
      intro a ha
      obtain ⟨i, hi, e⟩ := List.mem_iff_getElem.1 ha
      have hi2 : i < s ∧ i < T.length := by simpa [List.length_take, Nat.lt_min] using hi
      rw [List.getElem_take] at e
      have := h1 i hi2.2 hi2.1
      rw [e] at this
      simpa using this
    have e2 : (T.drop s).filter (fun x => decide (x.day ≤ d)) = [] := by
      rw [List.filter_eq_nil_iff]
      intro a ha
      obtain ⟨i, hi, e⟩ := List.mem_iff_getElem.1 ha
      rw [List.getElem_drop] at e
      have hi2 : s + i < T.length := by simp at hi; omega
      have := h2 (s + i) hi2 (by omega)
      rw [e] at this
      simp; omega
    rw [e1, e2, List.append_nil]
  constructor
  · rintro rfl
    unfold lastR; rw [key]; simp
  · rintro j rfl h
    unfold lastR; rw [key, List.take_succ_eq_append_getElem h]; exact List.getLast?_concat
theorem day_mono {m : Int} {len : Nat} {r : Nat → R4} (H : ratesP m len r) {i : Nat} : ∀ {j : Nat}, i ≤ j → j < len → (r i).day ≤ (r j).day
  | 0, h1, _ => by obtain rfl : i = 0 := by omega
                   exact Int.le_refl _
  | j + 1, h1, h2 => by
    by_cases e : i = j + 1
    · subst e; exact Int.le_refl _
    · have a := day_mono H (i := i) (j := j) (by omega) (by omega)
      have b := (H.2.2 (j + 1) h2).2 (by omega)
      simp only [Nat.add_sub_cancel] at b
      unfold ltB at b; simp at b
      omega
theorem tab_sorted {m : Int} {len : Nat} {r : Nat → R4} (H : ratesP m len r) (p : Int) : (tabL p (rl len r)).Pairwise (fun a b => a.day ≤ b.day) := by
  refine List.Pairwise.filter _ ?_
  rw [List.pairwise_iff_getElem]
  intro i j hi hj hij
  simp only [rl, List.getElem_map, List.getElem_range]
  exact day_mono H (by omega) (by simpa [rl] using hj)
theorem tab_mono {m : Int} {len : Nat} {r : Nat → R4} (H : ratesP m len r) (p : Int) {i j : Nat} (hi : i < (tabL p (rl len r)).length) (hj : j < (tabL p (rl len r)).length) (hij : i ≤ j) : (tabL p (rl len r))[i].day ≤ (tabL p (rl len r))[j].day := by
  by_cases e : i = j
  · subst e; exact Int.le_refl _
  · exact List.pairwise_iff_getElem.1 (tab_sorted H p) i j hi hj (by omega)
/-- What RateAt tells. -/
noncomputable def rateO (m : Int) (len : Nat) (r : Nat → R4) (p d : Int) : Option (Int × Int) :=
  if ratesB m len r = true ∧ inB p 0 (m - 1) = true ∧ inB d 0 40000 = true then (if p = 0 then some (1, 1) else (lastR p d len r).map (fun x => (x.num, x.den))) else none
def oN : Option (Int × Int) → Int | some v => v.1 | none => 0
def oD : Option (Int × Int) → Int | some v => v.2 | none => 0
def oB : Option (Int × Int) → Bool | some _ => true | none => false
theorem rateO_bad {m : Int} {len : Nat} {r : Nat → R4} {p d : Int} (h : ¬ (ratesB m len r = true ∧ inB p 0 (m - 1) = true ∧ inB d 0 40000 = true)) : rateO m len r p d = none := if_neg h
theorem rateO_own {m : Int} {len : Nat} {r : Nat → R4} {d : Int} (h1 : ratesB m len r = true) (h2 : inB 0 0 (m - 1) = true) (h3 : inB d 0 40000 = true) : rateO m len r 0 d = some (1, 1) := by
  unfold rateO; rw [if_pos ⟨h1, h2, h3⟩, if_pos rfl]
theorem rateO_other {m : Int} {len : Nat} {r : Nat → R4} {p d : Int} (h1 : ratesB m len r = true) (h2 : inB p 0 (m - 1) = true) (h3 : inB d 0 40000 = true) (hp : p ≠ 0) : rateO m len r p d = (lastR p d len r).map (fun x => (x.num, x.den)) := by
  unfold rateO; rw [if_pos ⟨h1, h2, h3⟩, if_neg hp]
theorem ratesB_iff {m : Int} {len : Nat} {r : Nat → R4} : ratesB m len r = true ↔ ratesP m len r := by
  constructor
  · intro h
    by_cases g : ratesP m len r
    · exact g
    · rw [ratesB_f g] at h; cases h
  · exact ratesB_t
end Go.Proofs.Ytghphlnpginmhaa.Rt
