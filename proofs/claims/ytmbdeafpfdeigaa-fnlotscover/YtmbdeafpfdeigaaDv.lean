/- Plain arithmetic of a quotient that is cut towards 0 and of the six modes that round it: 'dv p q m' is p by q, rounded by mode m. Nothing of the program. -/
import Derived.WalkKit
namespace Go.Proofs.Ytmbdeafpfdeigaa
set_option linter.unusedVariables false

def cr (p q : Int) : Int := if p < 0 then (-p) % q else p % q

def fur (d r q : Int) (neg : Bool) (m : Int) : Bool :=
  if m = 1 then false else if m = 2 then decide (0 < r) else if m = 3 then decide (q ≤ 2 * r)
  else if m = 4 then (if 2 * r = q then decide (¬ d.tmod 2 = 0) else decide (q ≤ 2 * r))
  else if m = 5 then (neg && decide (0 < r)) else (!neg && decide (0 < r))

def rnd (d r q : Int) (neg : Bool) (m : Int) : Int := if fur d r q neg m = true then (if neg = true then d - 1 else d + 1) else d

def dv (p q m : Int) : Int := rnd (p.tdiv q) (cr p q) q (decide (p < 0)) m

theorem dv_pos (p q : Int) (h : 0 ≤ p) (hq : 1 ≤ q) : p.tdiv q = p / q ∧ cr p q = p % q := by
  refine ⟨Int.tdiv_eq_ediv_of_nonneg h, ?_⟩
  unfold cr; rw [if_neg (by omega)]

theorem dv_neg (p q : Int) (h : p < 0) (hq : 1 ≤ q) : p.tdiv q = -((-p) / q) ∧ p.tmod q = -((-p) % q) ∧ cr p q = (-p) % q := by
  refine ⟨?_, ?_, ?_⟩
  · have := Int.neg_tdiv (-p) q
    rw [Int.neg_neg] at this
    rw [this, Int.tdiv_eq_ediv_of_nonneg (by omega)]
  · have := Int.neg_tmod (-p) q
    rw [Int.neg_neg] at this
    rw [this, Int.tmod_eq_emod_of_nonneg (by omega)]
  · unfold cr; rw [if_pos h]

theorem ediv_bd (p q : Int) (h : 0 ≤ p) (hq : 1 ≤ q) : 0 ≤ p / q ∧ p / q ≤ p ∧ 0 ≤ p % q ∧ p % q < q ∧ (p / q) * q + p % q = p := by
  refine ⟨Int.ediv_nonneg h (by omega), Int.ediv_le_self _ h, Int.emod_nonneg _ (by omega), Int.emod_lt_of_pos _ (by omega), ?_⟩
  have := Int.mul_ediv_add_emod p q
  rw [Int.mul_comm] at this; exact this

/-- What is known of the whole and the rest, whatever the sign. -/
theorem cut_facts (p q : Int) (hq : 1 ≤ q) : 0 ≤ cr p q ∧ cr p q < q ∧
    (0 ≤ p → 0 ≤ p.tdiv q ∧ p.tdiv q ≤ p ∧ p / q = p.tdiv q ∧ p % q = cr p q ∧ (p.tdiv q) * q + cr p q = p) ∧
    (p < 0 → p ≤ p.tdiv q ∧ p.tdiv q ≤ 0 ∧ p.tmod q = - cr p q ∧ (p.tdiv q) * q - cr p q = p) := by
  by_cases h : p < 0
  · obtain ⟨a, b, c⟩ := dv_neg p q h hq
    obtain ⟨e1, e2, e3, e4, e5⟩ := ediv_bd (-p) q (by omega) hq
    rw [a, b, c]
    refine ⟨e3, e4, fun g => by omega, fun _ => ⟨by omega, by omega, rfl, ?_⟩⟩
    rw [Int.neg_mul]; omega
  · obtain ⟨a, c⟩ := dv_pos p q (by omega) hq
    obtain ⟨e1, e2, e3, e4, e5⟩ := ediv_bd p q (by omega) hq
    rw [a, c]
    exact ⟨e3, e4, fun _ => ⟨e1, e2, rfl, rfl, e5⟩, fun g => by omega⟩

theorem rnd_near (d r q : Int) (neg : Bool) (m : Int) : d - 1 ≤ rnd d r q neg m ∧ rnd d r q neg m ≤ d + 1 := by
  unfold rnd; cases neg <;> split <;> (try simp) <;> omega

theorem rnd4_lt (d r q : Int) (neg : Bool) (h : 2 * r < q) : rnd d r q neg 4 = d := by
  have h1 : ¬ 2 * r = q := by omega
  have h2 : ¬ q ≤ 2 * r := by omega
  simp [rnd, fur, h1, h2]

theorem rnd4_gt (d r q : Int) (neg : Bool) (h : q < 2 * r) : rnd d r q neg 4 = if neg = true then d - 1 else d + 1 := by
  have h1 : ¬ 2 * r = q := by omega
  have h2 : q ≤ 2 * r := by omega
  simp [rnd, fur, h1, h2]

/-- What the mode says of the outcome: it is the whole or one further from 0. -/
theorem mul_bd (a n A N : Int) (h0 : -A ≤ a) (h1 : a ≤ A) (h2 : 0 ≤ n) (h3 : n ≤ N) (hA : 0 ≤ A) : -(A * N) ≤ a * n ∧ a * n ≤ A * N := by
  have e1 : a * n ≤ A * n := Int.mul_le_mul_of_nonneg_right h1 h2
  have e2 : A * n ≤ A * N := Int.mul_le_mul_of_nonneg_left h3 hA
  have e3 : (-A) * n ≤ a * n := Int.mul_le_mul_of_nonneg_right h0 h2
  rw [Int.neg_mul] at e3
  omega

def MdOk (a num den m : Int) : Prop := -100000000000 ≤ a ∧ a ≤ 100000000000 ∧ 0 ≤ num ∧ num ≤ 10000000 ∧ 1 ≤ den ∧ den ≤ 10000000 ∧ 1 ≤ m ∧ m ≤ 6

def mdB (a num den m : Int) : Bool := decide (-100000000000 ≤ a ∧ a ≤ 100000000000 ∧ 0 ≤ num ∧ num ≤ 10000000 ∧ 1 ≤ den ∧ den ≤ 10000000 ∧ 1 ≤ m ∧ m ≤ 6) &&
  decide (-100000000000 ≤ dv (a * num) den m ∧ dv (a * num) den m ≤ 100000000000)

/-- What MulDiv answers: the number and whether there is one. -/
def mdV (a num den m : Int) : Int := if mdB a num den m = true then dv (a * num) den m else 0

theorem md_bad {a num den m : Int} (h : ¬ MdOk a num den m) : mdB a num den m = false ∧ mdV a num den m = 0 := by
  have : mdB a num den m = false := by unfold MdOk at h; unfold mdB; rw [decide_eq_false h]; rfl
  exact ⟨this, by unfold mdV; rw [this]; rfl⟩

theorem md_out {a num den m : Int} (h : ¬ (-100000000000 ≤ dv (a * num) den m ∧ dv (a * num) den m ≤ 100000000000)) : mdB a num den m = false ∧ mdV a num den m = 0 := by
  have : mdB a num den m = false := by unfold mdB; rw [decide_eq_false h]; simp
  exact ⟨this, by unfold mdV; rw [this]; rfl⟩

theorem md_in {a num den m : Int} (h : MdOk a num den m) (h1 : -100000000000 ≤ dv (a * num) den m) (h2 : dv (a * num) den m ≤ 100000000000) : mdB a num den m = true ∧ mdV a num den m = dv (a * num) den m := by
  have : mdB a num den m = true := by unfold mdB; rw [decide_eq_true (show (-100000000000 ≤ dv (a * num) den m ∧ dv (a * num) den m ≤ 100000000000) from ⟨h1, h2⟩)]; unfold MdOk at h; rw [decide_eq_true h]; rfl
  exact ⟨this, by unfold mdV; rw [this]; rfl⟩

theorem md_prod {a num den m : Int} (h : MdOk a num den m) : -1000000000000000000 ≤ a * num ∧ a * num ≤ 1000000000000000000 := by
  unfold MdOk at h
  have := mul_bd a num 100000000000 10000000 (by omega) (by omega) (by omega) (by omega) (by omega)
  omega

theorem dv_bd {p q m : Int} (h0 : -1000000000000000000 ≤ p) (h1 : p ≤ 1000000000000000000) (hq : 1 ≤ q) : -1000000000000000001 ≤ dv p q m ∧ dv p q m ≤ 1000000000000000001 := by
  obtain ⟨c0, c1, cp, cn⟩ := cut_facts p q hq
  have := rnd_near (p.tdiv q) (cr p q) q (decide (p < 0)) m
  unfold dv
  by_cases h : p < 0
  · have := cn h; omega
  · have := cp (by omega); omega

end Go.Proofs.Ytmbdeafpfdeigaa
