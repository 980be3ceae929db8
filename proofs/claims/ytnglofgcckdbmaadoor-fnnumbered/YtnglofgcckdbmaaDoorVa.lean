/- Plain facts on decimal texts: the value of digits, the numeral of a number, an amount written with places, and the texts that are read back. Nothing of the program. -/
import Derived.Lib.ItoaNum
import Derived.Lib.IndexMore
import Derived.Lib.Strings
import Derived.Lib.Repeat
namespace Go.Proofs.YtnglofgcckdbmaaDoor.Mny
set_option linter.unusedVariables false
open Go.Lib

def isD (c : UInt8) : Bool := decide (48 ≤ c.toNat ∧ c.toNat ≤ 57)

def dg1 (c : UInt8) : Nat := c.toNat - 48
def stepD (a : Nat) (c : UInt8) : Nat := 10 * a + dg1 c
def valFrom (a : Nat) (l : List UInt8) : Nat := l.foldl stepD a
theorem valFrom_nil (a : Nat) : valFrom a [] = a := rfl
theorem valFrom_cons (a : Nat) (c : UInt8) (l : List UInt8) : valFrom a (c :: l) = valFrom (stepD a c) l := by unfold valFrom; rw [List.foldl_cons]

def val (l : List UInt8) : Nat := valFrom 0 l

theorem mul_ten (a T d V : Nat) : (10 * a + d) * T + V = a * (T * 10) + ((10 * 0 + d) * T + V) := by
  have e : 10 * a * T = a * (T * 10) := by rw [Nat.mul_comm 10 a, Nat.mul_assoc, Nat.mul_comm 10 T]
  rw [Nat.add_mul, e]; simp [Nat.add_assoc]

theorem valFrom_eq (l : List UInt8) : ∀ a : Nat, valFrom a l = a * 10 ^ l.length + valFrom 0 l := by
  induction l with
  | nil => intro a; rw [valFrom_nil, valFrom_nil, List.length_nil]; simp
  | cons c l ih =>
    intro a
    rw [valFrom_cons, valFrom_cons, ih (stepD a c), ih (stepD 0 c), List.length_cons, Nat.pow_succ]
    exact mul_ten a _ _ _

theorem val_append (a b : List UInt8) : val (a ++ b) = val a * 10 ^ b.length + val b := by
  unfold val
  rw [show valFrom 0 (a ++ b) = valFrom (valFrom 0 a) b from List.foldl_append .., valFrom_eq]

theorem val_one (c : UInt8) : val [c] = dg1 c := by
  unfold val; rw [valFrom_cons, valFrom_nil]; unfold stepD; omega

theorem val_snoc (a : List UInt8) (c : UInt8) : val (a ++ [c]) = 10 * val a + dg1 c := by
  rw [val_append, val_one]; simp [Nat.mul_comm]

theorem val_cons (c : UInt8) (l : List UInt8) : val (c :: l) = dg1 c * 10 ^ l.length + val l := by
  have := val_append [c] l
  rw [val_one] at this; exact this

theorem val_nil : val [] = 0 := rfl

theorem dg1_le {c : UInt8} (h : isD c = true) : dg1 c ≤ 9 := by unfold isD at h; simp at h; unfold dg1; omega

theorem val_lt : ∀ (l : List UInt8), l.all isD = true → val l < 10 ^ l.length
  | [], _ => by rw [val_nil]; simp
  | c :: l, h => by
    simp only [List.all_cons, Bool.and_eq_true] at h
    have ih := val_lt l h.2
    rw [val_cons, List.length_cons, Nat.pow_succ]
    have hc := dg1_le h.1
    have := Nat.mul_le_mul_right (10 ^ l.length) hc
    omega

theorem isD_digit {k : Nat} (h : k < 10) : isD (UInt8.ofNat (48 + k)) = true ∧ dg1 (UInt8.ofNat (48 + k)) = k := by
  have e : (UInt8.ofNat (48 + k)).toNat = 48 + k := by
    rw [UInt8.toNat_ofNat']; omega
  exact ⟨by unfold isD; rw [e]; simp; omega, by unfold dg1; rw [e]; omega⟩

theorem digit_of {c : UInt8} (h : isD c = true) : UInt8.ofNat (48 + dg1 c) = c := by
  unfold isD at h; simp at h; unfold dg1
  rw [show 48 + (c.toNat - 48) = c.toNat by omega]; simp

theorem dec_small {u : Nat} (h : u < 10) : decDigits u = [UInt8.ofNat (48 + u)] := by rw [decDigits, dif_pos h]
theorem dec_big {u : Nat} (h : ¬ u < 10) : decDigits u = decDigits (u / 10) ++ [UInt8.ofNat (48 + u % 10)] := by rw [decDigits, dif_neg h]

/-- Digits without a needless nought ahead. -/
def canon (l : List UInt8) : Bool := l.all isD && (l == [48] || (match l with | [] => false | c :: _ => c != 48))

theorem dec_ne (u : Nat) : decDigits u ≠ [] := by
  by_cases h : u < 10
  · rw [dec_small h]; simp
  · rw [dec_big h]; simp

theorem dec_props (u : Nat) : (decDigits u).all isD = true ∧ val (decDigits u) = u ∧ canon (decDigits u) = true := by
  induction u using Nat.strongRecOn with
  | ind u ih =>
    by_cases h : u < 10
    · rw [dec_small h]
      obtain ⟨a, b⟩ := isD_digit h
      have hv : val [UInt8.ofNat (48 + u)] = u := by rw [val_one]; exact b
      refine ⟨by simp only [List.all_cons, List.all_nil, Bool.and_true]; exact a, hv, ?_⟩
      have h10 : u = 0 ∨ u = 1 ∨ u = 2 ∨ u = 3 ∨ u = 4 ∨ u = 5 ∨ u = 6 ∨ u = 7 ∨ u = 8 ∨ u = 9 := by omega
      rcases h10 with rfl | rfl | rfl | rfl | rfl | rfl | rfl | rfl | rfl | rfl <;> decide
    · rw [dec_big h]
      obtain ⟨a, b, c⟩ := ih (u / 10) (by omega)
      obtain ⟨a2, b2⟩ := isD_digit (show u % 10 < 10 by omega)
      have hall : (decDigits (u / 10) ++ [UInt8.ofNat (48 + u % 10)]).all isD = true := by rw [List.all_append, a]; simp only [List.all_cons, List.all_nil, Bool.and_true, Bool.true_and]; exact a2
      refine ⟨hall, by rw [val_snoc, b, b2]; omega, ?_⟩
      unfold canon; rw [hall]
      simp only [Bool.true_and]
      unfold canon at c; rw [a] at c; simp only [Bool.true_and] at c
      cases e : decDigits (u / 10) with
      | nil => exact absurd e (dec_ne _)
      | cons x t =>
        rw [e] at c
        simp only [List.cons_append]
        simp only [Bool.or_eq_true] at c ⊢
        rcases c with c | c
        · right
          have c1 : x :: t = [48] := by simpa using c
          rw [c1] at e
          have : val (decDigits (u / 10)) = 0 := by rw [e]; decide
          omega
        · right; exact c

/-- Digits that are canonical are the numeral of their value. -/
theorem dec_val : ∀ (n : Nat) (l : List UInt8), l.length ≤ n → canon l = true → decDigits (val l) = l := by
  intro n
  induction n with
  | zero => intro l hl hc; cases l with
    | nil => simp [canon] at hc
    | cons => simp at hl
  | succ n ih =>
    intro l hl hc
    have hall : l.all isD = true := by unfold canon at hc; simp only [Bool.and_eq_true] at hc; exact hc.1
    rcases List.eq_nil_or_concat l with rfl | ⟨t, c, rfl⟩
    · simp [canon] at hc
    · rw [List.concat_eq_append] at *
      have hd : isD c = true := by simp at hall; exact hall.2
      have ht : t.all isD = true := by simp at hall ⊢; exact hall.1
      have hc9 : dg1 c < 10 := by have := dg1_le hd; omega
      cases t with
      | nil =>
        have hv : val ([] ++ [c]) = dg1 c := val_one c
        rw [hv, dec_small hc9, digit_of hd]; rfl
      | cons x t =>
        have hx : x ≠ 48 := by
          unfold canon at hc; simp only [Bool.and_eq_true, Bool.or_eq_true] at hc
          rcases hc.2 with h | h
          · simp at h
          · simpa using h
        have hct : canon (x :: t) = true := by
          unfold canon; rw [ht]; simp only [Bool.true_and, Bool.or_eq_true]; right; simpa using hx
        have hxp : 1 ≤ val (x :: t) := by
          rw [val_cons]
          have hxd : isD x = true := by simp at ht; exact ht.1
          have : 1 ≤ dg1 x := by
            unfold isD at hxd; simp at hxd; unfold dg1
            have : x.toNat ≠ 48 := fun e => hx (UInt8.toNat_inj.mp (by simpa using e))
            omega
          have h10 : 1 ≤ 10 ^ t.length := Nat.pos_of_ne_zero (by simp)
          have := Nat.mul_le_mul this h10
          omega
        rw [val_snoc, dec_big (by omega), show (10 * val (x :: t) + dg1 c) / 10 = val (x :: t) by omega, show (10 * val (x :: t) + dg1 c) % 10 = dg1 c by omega, digit_of hd]
        rw [ih (x :: t) (by simp at hl ⊢; omega) hct]

end Go.Proofs.YtnglofgcckdbmaaDoor.Mny
