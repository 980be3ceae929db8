/- Plain facts: reading an amount loosely and writing it again comes to the same as reading it by its parts. Nothing of the program. -/
import Derived.Test.YtnglofgcckdbmaaDoorVa
namespace Go.Proofs.YtnglofgcckdbmaaDoor.Mny
set_option linter.unusedVariables false
open Go.Lib

def maxM : Nat := 100000000000

def showL (a p : Nat) : List UInt8 := decDigits (a / 10 ^ p) ++ (if p = 0 then [] else 46 :: (decDigits (10 ^ p + a % 10 ^ p)).drop 1)
def showI (neg : Bool) (a p : Nat) : List UInt8 := if neg = true then 45 :: showL a p else showL a p

theorem pad_eq (F : List UInt8) (h : F.all isD = true) : (decDigits (10 ^ F.length + val F)).drop 1 = F := by
  have hv : val (49 :: F) = 10 ^ F.length + val F := by
    rw [val_cons, show dg1 49 = 1 by decide, Nat.one_mul]
  have hc : canon (49 :: F) = true := by
    unfold canon; rw [List.all_cons, h]; simp; decide
  rw [← hv, dec_val _ (49 :: F) (Nat.le_refl _) hc]; rfl

theorem show_split (W F : List UInt8) (hF : F.all isD = true) : showL (val (W ++ F)) F.length = decDigits (val W) ++ (if F.length = 0 then [] else 46 :: F) := by
  have hlt := val_lt F hF
  have e1 : val (W ++ F) / 10 ^ F.length = val W := by
    rw [val_append, Nat.mul_comm, Nat.mul_add_div (by omega), Nat.div_eq_of_lt hlt]; omega
  have e2 : val (W ++ F) % 10 ^ F.length = val F := by
    rw [val_append, Nat.mul_comm, Nat.mul_add_mod, Nat.mod_eq_of_lt hlt]
  unfold showL
  rw [e1, e2, pad_eq F hF]

theorem show_iff (W F : List UInt8) (hF : F.all isD = true) : showL (val (W ++ F)) F.length = W ++ (if F.length = 0 then [] else 46 :: F) ↔ canon W = true := by
  rw [show_split W F hF]
  constructor
  · intro h
    have := List.append_cancel_right h
    rw [← this]; exact (dec_props _).2.2
  · intro h
    rw [dec_val _ W (Nat.le_refl _) h]

/-- The text parted at the first point. -/
def cutP : List UInt8 → List UInt8 × List UInt8 × Bool
  | [] => ([], [], false)
  | c :: l => if c = 46 then ([], l, true) else (c :: (cutP l).1, (cutP l).2.1, (cutP l).2.2)

theorem index_point : ∀ l : List UInt8, (index l [46] = -1 ∧ cutP l = (l, [], false)) ∨ (∃ i : Nat, index l [46] = (i : Int) ∧ cutP l = (l.take i, l.drop (i + 1), true))
  | [] => .inl ⟨by simp [index], rfl⟩
  | c :: l => by
    by_cases h : c = 46
    · subst h
      exact .inr ⟨0, by simp [index], by simp [cutP]⟩
    · have hp : ([46] : List UInt8).isPrefixOf (c :: l) = false := by simp [List.isPrefixOf, Ne.symm h]
      rcases index_point l with ⟨a, b⟩ | ⟨i, a, b⟩
      · left
        refine ⟨?_, by simp [cutP, h, b]⟩
        simp only [index, hp, a]; simp
      · right
        refine ⟨i + 1, ?_, by simp [cutP, h, b]⟩
        simp only [index, hp, a]
        have : ((i : Int) == -1) = false := by simp
        simp [this]

theorem cut_eq (l : List UInt8) : Lib.cut l [46] = cutP l := by
  unfold Lib.cut
  rcases index_point l with ⟨a, b⟩ | ⟨i, a, b⟩
  · rw [a, b]; simp
  · rw [a, b]; simp

theorem cutP_join : ∀ l : List UInt8, l = (cutP l).1 ++ (if (cutP l).2.2 = true then 46 :: (cutP l).2.1 else [])
  | [] => rfl
  | c :: l => by
    by_cases h : c = 46
    · subst h; simp [cutP]
    · have ih := cutP_join l
      simp only [cutP, h, if_false, List.cons_append]
      rw [← ih]

theorem cutP_none : ∀ l : List UInt8, (cutP l).2.2 = false → (cutP l).2.1 = []
  | [], _ => rfl
  | c :: l, h => by
    by_cases hc : c = 46
    · subst hc; simp [cutP] at h
    · simp only [cutP, hc, if_false] at h ⊢
      exact cutP_none l h

/-- The loose reading: the number so far, how many digits stand behind the point (-1: no point yet). -/
def scan : List UInt8 → Bool → Nat → Int → Option (Nat × Int)
  | [], _, n, b => some (n, b)
  | c :: l, first, n, b =>
    if isD c = true then (if maxM < stepD n c then none else scan l false (stepD n c) (if 0 ≤ b then b + 1 else b))
    else if c = 46 ∧ b < 0 then scan l false n 0
    else if c = 45 ∧ first = true then scan l false n b
    else none

theorem valFrom_le (l : List UInt8) : ∀ n : Nat, n ≤ valFrom n l := by
  intro n
  rw [valFrom_eq]
  have : 1 ≤ 10 ^ l.length := Nat.pos_of_ne_zero (by simp)
  have := Nat.mul_le_mul_left n this
  omega

theorem scan_frac : ∀ (l : List UInt8) (n : Nat) (b : Int), 0 ≤ b → n ≤ maxM → scan l false n b = if l.all isD = true ∧ valFrom n l ≤ maxM then some (valFrom n l, b + l.length) else none
  | [], n, b, hb, hn => by simp [scan, valFrom_nil, hn]
  | c :: l, n, b, hb, hn => by
    rw [scan]
    by_cases hc : isD c = true
    · rw [if_pos hc, if_pos hb, valFrom_cons]
      by_cases hm : maxM < stepD n c
      · rw [if_pos hm, if_neg]
        intro h
        have := valFrom_le l (stepD n c)
        omega
      · rw [if_neg hm, scan_frac l _ _ (by omega) (by omega)]
        simp only [List.all_cons, hc, Bool.true_and, List.length_cons]
        by_cases h2 : l.all isD = true ∧ valFrom (stepD n c) l ≤ maxM
        · rw [if_pos h2, if_pos h2]; congr 2; omega
        · rw [if_neg h2, if_neg h2]
    · rw [if_neg hc, if_neg (by omega), if_neg (by simp), if_neg]
      intro h; simp [hc] at h

theorem scan_whole : ∀ (l : List UInt8) (n : Nat), n ≤ maxM → scan l false n (-1) =
    if (cutP l).1.all isD = true ∧ valFrom n (cutP l).1 ≤ maxM then (if (cutP l).2.2 = true then scan (cutP l).2.1 false (valFrom n (cutP l).1) 0 else some (valFrom n (cutP l).1, -1)) else none
  | [], n, hn => by simp [scan, cutP, valFrom_nil, hn]
  | c :: l, n, hn => by
    rw [scan]
    by_cases hc : isD c = true
    · have h46 : c ≠ 46 := by intro h; subst h; exact absurd hc (by decide)
      rw [if_pos hc, if_neg (show ¬ ((0 : Int) ≤ -1) by omega)]
      simp only [cutP, h46, if_false, valFrom_cons, List.all_cons, hc, Bool.true_and]
      by_cases hm : maxM < stepD n c
      · rw [if_pos hm, if_neg]
        intro h
        have := valFrom_le (cutP l).1 (stepD n c)
        omega
      · rw [if_neg hm, scan_whole l _ (by omega)]
    · rw [if_neg hc]
      by_cases h46 : c = 46
      · subst h46
        simp [cutP, valFrom_nil, hn]
      · rw [if_neg (by simp [h46]), if_neg (by simp), if_neg]
        intro h
        simp [cutP, h46, hc] at h

/-- The text without its sign. -/
def bare (l : List UInt8) : List UInt8 := Lib.trimPrefix l [45]
def signed (l : List UInt8) : Bool := Lib.hasPrefix l [45]

theorem sign_join (l : List UInt8) : l = (if signed l = true then [45] else []) ++ bare l := by
  cases l with
  | nil => simp [signed, bare, Lib.trimPrefix, Lib.hasPrefix]
  | cons c t =>
    by_cases h : c = 45
    · subst h; simp [signed, bare, Lib.trimPrefix, Lib.hasPrefix]
    · have hp : ([45] : List UInt8).isPrefixOf (c :: t) = false := by simp [List.isPrefixOf, Ne.symm h]
      simp [signed, bare, Lib.trimPrefix, Lib.hasPrefix, hp]

theorem scan_sign (l : List UInt8) : scan l true 0 (-1) = scan (bare l) false 0 (-1) := by
  cases l with
  | nil => simp [bare, Lib.trimPrefix, Lib.hasPrefix, scan]
  | cons c t =>
    by_cases h : c = 45
    · subst h
      have : bare (45 :: t) = t := by simp [bare, Lib.trimPrefix, Lib.hasPrefix]
      rw [this, scan, if_neg (by decide), if_neg (by decide), if_pos (by decide)]
    · have hp : ([45] : List UInt8).isPrefixOf (c :: t) = false := by simp [List.isPrefixOf, Ne.symm h]
      have : bare (c :: t) = c :: t := by simp [bare, Lib.trimPrefix, Lib.hasPrefix, hp]
      rw [this, scan, scan, if_neg (show ¬ (c = 45 ∧ true = true) by simp [h]), if_neg (show ¬ (c = 45 ∧ false = true) by simp)]

end Go.Proofs.YtnglofgcckdbmaaDoor.Mny
