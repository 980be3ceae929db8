/- What the walk of the model's ReadMoney goes by: the steps of the loose reading. Nothing of the program. -/
import Derived.Test.YtipdcegbfhokfaaDoorTz
import Derived.Test.YtipdcegbfhokfaaDoorSt
namespace Go.Proofs.YtipdcegbfhokfaaDoor
open Go.RowKit
set_option linter.unusedVariables false
open Go.Lib

def Scanned (s : ByteArray) (k : Nat) (N B : Int) : Prop := scan (s.data.toList.drop k) (decide (k = 0)) N.toNat B = scan s.data.toList true 0 (-1)

theorem drop_byte (s : ByteArray) (k : Nat) (h : k < s.size) : s.data.toList.drop k = s[k] :: s.data.toList.drop (k + 1) := by
  rw [List.drop_eq_getElem_cons (by simpa using h)]; rfl

theorem scanned_start (s : ByteArray) : Scanned s 0 0 (-1) := by
  unfold Scanned; simp

theorem scanned_end (s : ByteArray) (k : Nat) (N B : Int) (h : s.size ≤ k) (H : Scanned s k N B) : scan s.data.toList true 0 (-1) = some (N.toNat, B) := by
  unfold Scanned at H
  rw [List.drop_eq_nil_of_le (by simpa using h)] at H
  rw [← H]; rfl

theorem isD_byte {s : ByteArray} {k : Nat} {hk : k < s.size} (h0 : (48 : Int) ≤ (s[k].toNat : Int)) (h1 : (s[k].toNat : Int) ≤ 57) : isD s[k] = true ∧ dg1 s[k] = ((s[k].toNat : Int) - 48).toNat := by
  refine ⟨by unfold isD; simp; omega, by unfold dg1; omega⟩

theorem not_isD_byte {s : ByteArray} {k : Nat} {hk : k < s.size} (h : (s[k].toNat : Int) < 48 ∨ 57 < (s[k].toNat : Int)) : ¬ isD s[k] = true := by
  unfold isD; simp; omega

theorem byte_eq {s : ByteArray} {k : Nat} {hk : k < s.size} {c : UInt8} (h : (s[k].toNat : Int) = (c.toNat : Int)) : s[k] = c := by
  apply UInt8.toNat_inj.mp; omega
theorem byte_ne {s : ByteArray} {k : Nat} {hk : k < s.size} {c : UInt8} (h : ¬ (s[k].toNat : Int) = (c.toNat : Int)) : s[k] ≠ c := by
  intro e; apply h; rw [e]

theorem scanned_digit (s : ByteArray) (k : Nat) (N B : Int) (hk : k < s.size) (hN : 0 ≤ N) (h0 : (48 : Int) ≤ (s[k].toNat : Int)) (h1 : (s[k].toNat : Int) ≤ 57) (H : Scanned s k N B) :
    (N * 10 + ((s[k].toNat : Int) - 48) ≤ 100000000000 → Scanned s (k + 1) (N * 10 + ((s[k].toNat : Int) - 48)) (if 0 ≤ B then B + 1 else B)) ∧ (100000000000 < N * 10 + ((s[k].toNat : Int) - 48) → scan s.data.toList true 0 (-1) = none) := by
  unfold Scanned at *
  rw [drop_byte s k hk, scan] at H
  obtain ⟨d1, d2⟩ := isD_byte (hk := hk) h0 h1
  have e : stepD N.toNat s[k] = (N * 10 + ((s[k].toNat : Int) - 48)).toNat := by unfold stepD; rw [d2]; omega
  rw [if_pos d1, e] at H
  refine ⟨fun h => ?_, fun h => ?_⟩
  · rw [if_neg (by unfold maxM; omega)] at H
    rw [← H]; simp
  · rw [if_pos (by unfold maxM; omega)] at H
    exact H.symm

theorem scanned_point (s : ByteArray) (k : Nat) (N B : Int) (hk : k < s.size) (hB : B < 0) (hc : s[k] = 46) (H : Scanned s k N B) : Scanned s (k + 1) N 0 := by
  unfold Scanned at *
  rw [drop_byte s k hk, scan, hc, if_neg (by decide), if_pos ⟨rfl, hB⟩] at H
  rw [← H]; simp

theorem scanned_minus (s : ByteArray) (N B : Int) (hk : 0 < s.size) (hc : s[0] = 45) (H : Scanned s 0 N B) : Scanned s 1 N B := by
  unfold Scanned at *
  rw [drop_byte s 0 hk, scan, hc, if_neg (by decide), if_neg (by intro h; exact absurd h.1 (by decide)), if_pos ⟨rfl, by simp⟩] at H
  rw [← H]; simp

theorem pow_bd (N : Int) (j : Nat) (h0 : 0 ≤ N) (h1 : N ≤ 100000000000) (hj : j ≤ 6) : 0 ≤ N * (10 : Int) ^ j ∧ N * (10 : Int) ^ j ≤ 100000000000000000 := by
  rcases (show j = 0 ∨ j = 1 ∨ j = 2 ∨ j = 3 ∨ j = 4 ∨ j = 5 ∨ j = 6 by omega) with rfl | rfl | rfl | rfl | rfl | rfl | rfl <;> simp <;> omega

theorem pow_step (N : Int) (j : Nat) : N * (10 : Int) ^ j * 10 = N * (10 : Int) ^ (j + 1) := by
  rw [Int.pow_succ, Int.mul_assoc]

theorem scanned_minusk (s : ByteArray) (k : Nat) (N B : Int) (hk : k < s.size) (hk0 : k = 0) (hc : s[k] = 45) (H : Scanned s k N B) : Scanned s (k + 1) N B := by
  subst hk0; exact scanned_minus s N B hk hc H

theorem pow_bd5 (N : Int) (j : Nat) (h0 : 0 ≤ N) (h1 : N ≤ 100000000000) (hj : j ≤ 5) : 0 ≤ N * (10 : Int) ^ j ∧ N * (10 : Int) ^ j ≤ 10000000000000000 := by
  rcases (show j = 0 ∨ j = 1 ∨ j = 2 ∨ j = 3 ∨ j = 4 ∨ j = 5 by omega) with rfl | rfl | rfl | rfl | rfl | rfl <;> simp <;> omega

/-- What the second loop holds. -/
def Padded (N D E M : Int) (FULL : List UInt8) (FS : ByteArray) : Prop := M = N * (10 : Int) ^ (D - E).toNat ∧ FS = str (FULL ++ zeros (D - E).toNat)

theorem padded_start (N E : Int) (FULL : List UInt8) : Padded N E E N FULL (str FULL) := by
  unfold Padded
  rw [show (E - E).toNat = 0 by omega]
  simp [zeros]

theorem padded_step (N D E M : Int) (FULL : List UInt8) (FS : ByteArray) (hD : E ≤ D) (H : Padded N D E M FULL FS) : Padded N (D + 1) E (M * 10) FULL (FS ++ (⟨#[48]⟩ : ByteArray)) := by
  obtain ⟨h1, h2⟩ := H
  have e : (D + 1 - E).toNat = (D - E).toNat + 1 := by omega
  refine ⟨by rw [e, h1, pow_step], ?_⟩
  rw [e, h2, show (⟨#[48]⟩ : ByteArray) = str [48] from rfl, str_append]
  congr 1
  unfold zeros
  rw [List.replicate_succ', List.append_assoc]

theorem padded_bd (N D E M : Int) (FULL : List UInt8) (FS : ByteArray) (h0 : 0 ≤ N) (h1 : N ≤ 100000000000) (hE : 0 ≤ E) (hD : D ≤ 5) (H : Padded N D E M FULL FS) : 0 ≤ M ∧ M ≤ 10000000000000000 := by
  rw [H.1]; exact pow_bd5 N _ h0 h1 (by omega)

theorem padded_bd6 (N D E M : Int) (FULL : List UInt8) (FS : ByteArray) (h0 : 0 ≤ N) (h1 : N ≤ 100000000000) (hE : 0 ≤ E) (hD : D ≤ 6) (H : Padded N D E M FULL FS) : 0 ≤ M ∧ M ≤ 100000000000000000 := by
  rw [H.1]; exact pow_bd N _ h0 h1 (by omega)

theorem scanned_bad (s : ByteArray) (k : Nat) (N B : Int) (hk : k < s.size) (hd : ¬ isD s[k] = true) (h46 : ¬ (s[k] = 46 ∧ B < 0)) (h45 : ¬ (s[k] = 45 ∧ k = 0)) (H : Scanned s k N B) : scan s.data.toList true 0 (-1) = none := by
  unfold Scanned at H
  rw [drop_byte s k hk, scan, if_neg hd, if_neg h46, if_neg (by intro h; exact h45 ⟨h.1, by simpa using h.2⟩)] at H
  exact H.symm

theorem signed_byte (s : ByteArray) (h : 0 < s.size) : signed s.data.toList = decide ((s[0].toNat : Int) = 45) := by
  have e := drop_byte s 0 h
  rw [List.drop_zero] at e
  unfold signed Lib.hasPrefix
  rw [e]
  by_cases hc : s[0] = 45
  · rw [hc]; simp
  · have : ¬ (s[0].toNat : Int) = 45 := by
      intro h2; exact hc (byte_eq (c := 45) (by simpa using h2))
    have hp : ([45] : List UInt8).isPrefixOf (s[0] :: List.drop (0 + 1) s.data.toList) = false := by simp [List.isPrefixOf, Ne.symm hc]
    rw [hp, decide_eq_false this]

theorem signed_none (s : ByteArray) (h : s.size = 0) : signed s.data.toList = false := by
  have : s.data.toList = [] := List.eq_nil_of_length_eq_zero (by simpa using h)
  rw [this]; rfl

/-- The last test of the loose reading, and what it answers. -/
theorem loose_last (s : ByteArray) (p : Nat) (N B V X : Int) (hp : p ≤ 6) (hN : 0 ≤ N) (hs : scan s.data.toList true 0 (-1) = some (N.toNat, B)) (hb0 : B ≠ 0) (hbp : behindN B ≤ p) (hV : V = N * (10 : Int) ^ (p - behindN B)) (hVm : V ≤ 100000000000) (hX : X = if signed s.data.toList = true then -V else V) :
    (str (showI (decide (X < 0)) X.natAbs p) = str (fullOf s.data.toList B p) → rmB s.data.toList p = true ∧ rmN s.data.toList p = X) ∧ (str (showI (decide (X < 0)) X.natAbs p) ≠ str (fullOf s.data.toList B p) → rmB s.data.toList p = false) := by
  obtain ⟨e1, e2⟩ := loose_eq _ p N.toNat B hp hs
  have hVn : ((N.toNat * 10 ^ (p - behindN B) : Nat) : Int) = V := by
    rw [hV, Int.natCast_mul, Int.toNat_of_nonneg hN, Int.natCast_pow]; rfl
  obtain ⟨M, hM⟩ : ∃ M, N.toNat * 10 ^ (p - behindN B) = M := ⟨_, rfl⟩
  have hVM : V = (M : Int) := by rw [← hVn, hM]
  have hsh : showI (decide (X < 0)) X.natAbs p = showI (signed s.data.toList && decide (M ≠ 0)) M p := by
    have a1 : X.natAbs = M := by rw [hX, hVM]; split <;> omega
    have a2 : decide (X < 0) = (signed s.data.toList && decide (M ≠ 0)) := by
      rw [hX, hVM]
      by_cases hsg : signed s.data.toList = true
      · rw [if_pos hsg, hsg, Bool.true_and]; apply decide_eq_decide.mpr; omega
      · rw [if_neg hsg, Bool.eq_false_iff.mpr hsg, Bool.false_and]; apply decide_eq_false; omega
    rw [a1, a2]
  have hinj : ∀ x y : List UInt8, str x = str y ↔ x = y := by
    intro x y
    constructor
    · intro h; have := congrArg (fun z : ByteArray => z.data.toList) h; simpa [str] using this
    · intro h; rw [h]
  rw [hsh]
  unfold looseB at e1
  rw [hM] at e1 e2
  have m1 : M ≤ maxM := by unfold maxM; omega
  rw [show decide (B ≠ 0) = true from decide_eq_true hb0, decide_eq_true hbp, decide_eq_true m1] at e1
  simp only [Bool.true_and] at e1
  refine ⟨fun h => ?_, fun h => ?_⟩
  · rw [hinj] at h
    rw [decide_eq_true h] at e1
    have hr : rmB s.data.toList p = true := e1.symm
    refine ⟨hr, ?_⟩
    obtain ⟨d1, d2⟩ := e2 hr
    unfold rmN
    rw [if_pos hr, d1, hX, hVM]
  · rw [ne_eq, hinj] at h
    rw [decide_eq_false h] at e1
    exact e1.symm

theorem loose_b0 (s : ByteArray) (p : Nat) (N : Int) (hp : p ≤ 6) (hs : scan s.data.toList true 0 (-1) = some (N.toNat, 0)) : rmB s.data.toList p = false := by
  obtain ⟨e1, _⟩ := loose_eq _ p N.toNat 0 hp hs
  rw [← e1]; unfold looseB; simp

theorem loose_over (s : ByteArray) (p : Nat) (N B : Int) (hp : p ≤ 6) (h : ¬ behindN B ≤ p) (hs : scan s.data.toList true 0 (-1) = some (N.toNat, B)) : rmB s.data.toList p = false := by
  obtain ⟨e1, _⟩ := loose_eq _ p N.toNat B hp hs
  rw [← e1]; unfold looseB; rw [decide_eq_false h]; simp

theorem loose_great (s : ByteArray) (p : Nat) (N B V : Int) (hp : p ≤ 6) (hN : 0 ≤ N) (hV : V = N * (10 : Int) ^ (p - behindN B)) (hVm : 100000000000 < V) (hs : scan s.data.toList true 0 (-1) = some (N.toNat, B)) : rmB s.data.toList p = false := by
  obtain ⟨e1, _⟩ := loose_eq _ p N.toNat B hp hs
  have hVn : ((N.toNat * 10 ^ (p - behindN B) : Nat) : Int) = V := by
    rw [hV, Int.natCast_mul, Int.toNat_of_nonneg hN, Int.natCast_pow]; rfl
  have h : ¬ N.toNat * 10 ^ (p - behindN B) ≤ maxM := by unfold maxM; omega
  rw [← e1]; unfold looseB; rw [decide_eq_false h]; simp

theorem rm_false {l : List UInt8} {p : Nat} (h : rmB l p = false) : rmN l p = 0 := by unfold rmN; rw [h]; rfl

end Go.Proofs.YtipdcegbfhokfaaDoor
