/- Plain facts: the two ways of reading an amount answer alike. Nothing of the program. -/
import Derived.Test.YtnglofgcckdbmaaDoorVb
namespace Go.Proofs.YtnglofgcckdbmaaDoor.Mny
set_option linter.unusedVariables false
open Go.Lib

def zeros (n : Nat) : List UInt8 := List.replicate n 48

theorem zeros_len (n : Nat) : (zeros n).length = n := by simp [zeros]
theorem zeros_all (n : Nat) : (zeros n).all isD = true := by
  induction n with
  | zero => rfl
  | succ n ih => simp only [zeros, List.replicate_succ, List.all_cons] at *; rw [ih]; decide
theorem zeros_val (n : Nat) : val (zeros n) = 0 := by
  induction n with
  | zero => rfl
  | succ n ih =>
    have : zeros (n + 1) = 48 :: zeros n := by simp [zeros, List.replicate_succ]
    rw [this, val_cons, ih, show dg1 48 = 0 by decide]; simp

/-- By its parts. -/
def wholeB (l : List UInt8) (p : Nat) : Bool := canon (cutP (bare l)).1 && decide ((cutP (bare l)).2.1.length ≤ p) && (!(cutP (bare l)).2.2 || (decide (0 < (cutP (bare l)).2.1.length) && (cutP (bare l)).2.1.all isD))
def digitsOf (l : List UInt8) (p : Nat) : List UInt8 := (cutP (bare l)).1 ++ (cutP (bare l)).2.1 ++ zeros (p - (cutP (bare l)).2.1.length)
def rmB (l : List UInt8) (p : Nat) : Bool := wholeB l p && decide (val (digitsOf l p) ≤ maxM) && !(signed l && decide (val (digitsOf l p) = 0))
def rmN (l : List UInt8) (p : Nat) : Int := if rmB l p = true then (if signed l = true then -(val (digitsOf l p) : Int) else (val (digitsOf l p) : Int)) else 0

/-- How many digits behind the point the loose reading counts. -/
def behindN (b : Int) : Nat := if b < 0 then 0 else b.toNat
def fullOf (l : List UInt8) (b : Int) (p : Nat) : List UInt8 := l ++ (if b < 0 ∧ 0 < p then [46] else []) ++ zeros (p - behindN b)
def looseB (l : List UInt8) (p n : Nat) (b : Int) : Bool := decide (b ≠ 0) && decide (behindN b ≤ p) && decide (n * 10 ^ (p - behindN b) ≤ maxM) &&
  decide (showI (signed l && decide (n * 10 ^ (p - behindN b) ≠ 0)) (n * 10 ^ (p - behindN b)) p = fullOf l b p)

theorem canon_all {W : List UInt8} (h : canon W = true) : W.all isD = true := by
  unfold canon at h; simp only [Bool.and_eq_true] at h; exact h.1

theorem canon_len {W : List UInt8} (h : canon W = true) (hv : val W ≤ maxM) : W.length ≤ 12 := by
  have hall := canon_all h
  cases W with
  | nil => simp
  | cons x t =>
    unfold canon at h; simp only [Bool.and_eq_true, Bool.or_eq_true] at h
    rcases h.2 with h2 | h2
    · have : x :: t = [48] := by simpa using h2
      rw [this]; simp
    · have hx : x ≠ 48 := by simpa using h2
      have hxd : isD x = true := by simp at hall; exact hall.1
      have h1 : 1 ≤ dg1 x := by
        unfold isD at hxd; simp at hxd; unfold dg1
        have : x.toNat ≠ 48 := fun e => hx (UInt8.toNat_inj.mp (by simpa using e))
        omega
      rw [val_cons] at hv
      have h2 := Nat.mul_le_mul_right (10 ^ t.length) h1
      by_cases hl : t.length ≤ 11
      · simp; omega
      · exfalso
        have h3 : 10 ^ 12 ≤ 10 ^ t.length := Nat.pow_le_pow_right (by omega) (by omega)
        unfold maxM at hv
        omega

theorem lens (l : List UInt8) (p : Nat) (hp : p ≤ 6) (h : rmB l p = true) : l.length ≤ 20 := by
  unfold rmB wholeB at h
  simp only [Bool.and_eq_true, decide_eq_true_eq] at h
  obtain ⟨⟨⟨⟨hc, hb⟩, h3⟩, hv⟩, h5⟩ := h
  have hW : val (cutP (bare l)).1 ≤ maxM := by
    have e : val (digitsOf l p) = val (cutP (bare l)).1 * 10 ^ ((cutP (bare l)).2.1 ++ zeros (p - (cutP (bare l)).2.1.length)).length + val ((cutP (bare l)).2.1 ++ zeros (p - (cutP (bare l)).2.1.length)) := by
      unfold digitsOf; rw [List.append_assoc, val_append]
    have h1 : 1 ≤ 10 ^ ((cutP (bare l)).2.1 ++ zeros (p - (cutP (bare l)).2.1.length)).length := Nat.pos_of_ne_zero (by simp)
    have := Nat.mul_le_mul_left (val (cutP (bare l)).1) h1
    omega
  have hl := canon_len hc hW
  have e1 := congrArg List.length (sign_join l)
  have e2 := congrArg List.length (cutP_join (bare l))
  rw [List.length_append] at e1 e2
  have s1 : (if signed l = true then [45] else ([] : List UInt8)).length ≤ 1 := by split <;> simp
  have s2 : (if (cutP (bare l)).2.2 = true then 46 :: (cutP (bare l)).2.1 else []).length ≤ 1 + (cutP (bare l)).2.1.length := by split <;> simp <;> omega
  omega

/-- Where the loose reading comes to its end, its answer is that by the parts. -/
theorem loose_eq (l : List UInt8) (p n : Nat) (b : Int) (hp : p ≤ 6) (hs : scan l true 0 (-1) = some (n, b)) : looseB l p n b = rmB l p ∧ (rmB l p = true → val (digitsOf l p) = n * 10 ^ (p - behindN b) ∧ (signed l && decide (n * 10 ^ (p - behindN b) ≠ 0)) = signed l) := by
  rw [scan_sign, scan_whole _ _ (by unfold maxM; omega)] at hs
  obtain ⟨W, hW⟩ : ∃ W, (cutP (bare l)).1 = W := ⟨_, rfl⟩
  obtain ⟨F, hF⟩ : ∃ F, (cutP (bare l)).2.1 = F := ⟨_, rfl⟩
  obtain ⟨t, ht⟩ : ∃ t, (cutP (bare l)).2.2 = t := ⟨_, rfl⟩
  have hnone := cutP_none (bare l)
  have hj := cutP_join (bare l)
  have hsj := sign_join l
  have hdig : digitsOf l p = W ++ F ++ zeros (p - F.length) := by unfold digitsOf; rw [hW, hF]
  unfold rmB wholeB
  rw [hdig]
  simp only [hW, hF, ht] at hs hnone hj ⊢
  clear hdig
  by_cases h1 : W.all isD = true ∧ valFrom 0 W ≤ maxM
  · rw [if_pos h1] at hs
    have key : F.all isD = true ∧ n = val (W ++ F) ∧ n ≤ maxM ∧ b = (if t = true then (F.length : Int) else -1) := by
      cases t with
      | false =>
        simp at hs
        have hF0 : F = [] := hnone rfl
        subst hF0
        refine ⟨rfl, by rw [← hs.1]; simp [val], by rw [← hs.1]; exact h1.2, by rw [← hs.2]; rfl⟩
      | true =>
        rw [if_pos rfl, scan_frac _ _ _ (by omega) h1.2] at hs
        by_cases h2 : F.all isD = true ∧ valFrom (valFrom 0 W) F ≤ maxM
        · rw [if_pos h2] at hs
          simp at hs
          have e : val (W ++ F) = valFrom (valFrom 0 W) F := by unfold val valFrom; rw [List.foldl_append]
          exact ⟨h2.1, by rw [e]; exact hs.1.symm, by rw [← hs.1]; exact h2.2, by rw [← hs.2]; simp⟩
        · rw [if_neg h2] at hs; cases hs
    obtain ⟨hFd, hn, hnm, hb⟩ := key
    clear hs
    have hbn : behindN b = F.length := by
      unfold behindN; rw [hb]
      cases t with
      | false => have hF0 : F = [] := hnone rfl; subst hF0; simp
      | true => simp; omega
    have hval : val (W ++ F ++ zeros (p - F.length)) = n * 10 ^ (p - F.length) := by
      rw [val_append, zeros_val, zeros_len, ← hn]; simp
    rw [hval]
    unfold looseB
    rw [hbn]
    obtain ⟨V, hV⟩ : ∃ V, n * 10 ^ (p - F.length) = V := ⟨_, rfl⟩
    rw [hV] at hval ⊢
    -- the point without digits
    by_cases hb0 : b = 0
    · have htt : t = true ∧ F.length = 0 := by
        rw [hb] at hb0
        cases t with
        | false => simp at hb0
        | true => simp at hb0; exact ⟨rfl, by simp [hb0]⟩
      rw [htt.1, htt.2, hb0]; simp
    · have hpt : (!t || (decide (0 < F.length) && F.all isD)) = true := by
        cases t with
        | false => rfl
        | true =>
          have : F.length ≠ 0 := by intro e; apply hb0; rw [hb]; simp; exact List.eq_nil_of_length_eq_zero e
          simp only [Bool.not_true, Bool.false_or, hFd, Bool.and_true, decide_eq_true_eq]; omega
      rw [hpt, show decide (b ≠ 0) = true from decide_eq_true hb0]
      by_cases hle : F.length ≤ p
      · by_cases hVm : V ≤ maxM
        · rw [decide_eq_true hle, decide_eq_true hVm]
          simp only [Bool.true_and, Bool.and_true]
          -- the text that is held against what is written
          have hlen : (F ++ zeros (p - F.length)).length = p := by rw [List.length_append, zeros_len]; omega
          have hall : (F ++ zeros (p - F.length)).all isD = true := by rw [List.all_append, hFd, zeros_all]; rfl
          have hiff := show_iff W (F ++ zeros (p - F.length)) hall
          rw [hlen, ← List.append_assoc, hval] at hiff
          have hfull : fullOf l b p = (if signed l = true then [45] else []) ++ (W ++ (if p = 0 then [] else 46 :: (F ++ zeros (p - F.length)))) := by
            unfold fullOf; rw [hbn]
            conv => lhs; lhs; lhs; rw [hsj, hj]
            cases t with
            | false =>
              have hF0 : F = [] := hnone rfl
              subst hF0
              have hbneg : b < 0 := by rw [hb]; decide
              by_cases hp0 : p = 0
              · subst hp0; simp [hbneg, zeros]
              · have : 0 < p := by omega
                simp [hbneg, hp0, this, List.append_assoc]
            | true =>
              have hbpos : ¬ b < 0 := by rw [hb]; simp
              have hp0 : p ≠ 0 := by
                have hFn : F.length ≠ 0 := by intro e; apply hb0; rw [hb]; simp; exact List.eq_nil_of_length_eq_zero e
                omega
              simp [hbpos, hp0, List.append_assoc]
          rw [hfull]
          have hWne : canon W = true → W ≠ [] := by intro h e; subst e; simp [canon] at h
          by_cases hsg : signed l = true
          · rw [hsg]
            by_cases hV0 : V = 0
            · subst hV0
              constructor
              · have hne : showL 0 p ≠ 45 :: (W ++ (if p = 0 then [] else 46 :: (F ++ zeros (p - F.length)))) := by
                  unfold showL
                  intro h
                  have hd : decDigits (0 / 10 ^ p) = [48] := by rw [Nat.zero_div]; rw [dec_small (by omega)]; rfl
                  rw [hd] at h
                  simp at h
                simp [showI, hne]
              · simp
            · have hnz : decide (V ≠ 0) = true := decide_eq_true hV0
              rw [hnz]
              constructor
              · simp only [Bool.true_and, Bool.and_true, showI, if_true, hV0, decide_false, Bool.not_false]
                by_cases hcw : canon W = true
                · rw [hcw, decide_eq_true]
                  rw [hiff.mpr hcw]; rfl
                · rw [decide_eq_false, Bool.eq_false_iff.mpr hcw]
                  intro h
                  exact hcw (hiff.mp (by simpa using h))
              · intro _; simp
          · have hsf : signed l = false := by simpa using hsg
            rw [hsf]
            constructor
            · simp only [Bool.false_and, showI, Bool.not_false, Bool.and_true, if_false, List.nil_append, Bool.false_eq_true]
              by_cases hcw : canon W = true
              · rw [hcw, decide_eq_true (hiff.mpr hcw)]
              · rw [decide_eq_false (fun h => hcw (hiff.mp h)), Bool.eq_false_iff.mpr hcw]
            · intro _; simp
        · rw [decide_eq_false hVm]; simp
      · rw [decide_eq_false hle]; simp
  · rw [if_neg h1] at hs; cases hs

/-- Where the loose reading is refused, so is that by the parts. -/
theorem loose_none (l : List UInt8) (p : Nat) (hs : scan l true 0 (-1) = none) : rmB l p = false := by
  rw [scan_sign, scan_whole _ _ (by unfold maxM; omega)] at hs
  have hnone := cutP_none (bare l)
  cases hr : rmB l p with
  | false => rfl
  | true =>
    exfalso
    unfold rmB wholeB digitsOf at hr
    obtain ⟨W, hW⟩ : ∃ W, (cutP (bare l)).1 = W := ⟨_, rfl⟩
    obtain ⟨F, hF⟩ : ∃ F, (cutP (bare l)).2.1 = F := ⟨_, rfl⟩
    obtain ⟨t, ht⟩ : ∃ t, (cutP (bare l)).2.2 = t := ⟨_, rfl⟩
    simp only [hW, hF, ht] at hs hnone hr
    simp only [Bool.and_eq_true, decide_eq_true_eq] at hr
    obtain ⟨⟨⟨⟨hc, hb⟩, h3⟩, hv⟩, h5⟩ := hr
    have hWF : val (W ++ F) ≤ maxM := by
      rw [val_append] at hv
      have h1 : 1 ≤ 10 ^ (zeros (p - F.length)).length := Nat.pos_of_ne_zero (by simp)
      have := Nat.mul_le_mul_left (val (W ++ F)) h1
      omega
    have hWm : val W ≤ maxM := by
      rw [val_append] at hWF
      have h1 : 1 ≤ 10 ^ F.length := Nat.pos_of_ne_zero (by simp)
      have := Nat.mul_le_mul_left (val W) h1
      omega
    rw [if_pos ⟨canon_all hc, hWm⟩] at hs
    cases t with
    | false => simp at hs
    | true =>
      rw [if_pos rfl, scan_frac F (valFrom 0 W) 0 (by omega) hWm, if_pos] at hs
      · cases hs
      · have e : val (W ++ F) = valFrom (valFrom 0 W) F := by unfold val valFrom; rw [List.foldl_append]
        refine ⟨?_, by rw [← e]; exact hWF⟩
        simp at h3
        simp only [List.all_eq_true]
        exact h3.2

end Go.Proofs.YtnglofgcckdbmaaDoor.Mny
