/- Plain facts: an amount that is written is read as it was. Nothing of the program. -/
import Derived.Test.YtipdcegbfhokfaaDoorSu
import Derived.Test.YtipdcegbfhokfaaDoorRk
namespace Go.Proofs.YtipdcegbfhokfaaDoor
set_option linter.unusedVariables false
open Go.Lib

theorem cutP_plain : ∀ l : List UInt8, l.all isD = true → cutP l = (l, [], false)
  | [], _ => rfl
  | c :: l, h => by
    simp only [List.all_cons, Bool.and_eq_true] at h
    have h46 : c ≠ 46 := by intro e; subst e; exact absurd h.1 (by decide)
    simp [cutP, h46, cutP_plain l h.2]

theorem cutP_point (F : List UInt8) : ∀ l : List UInt8, l.all isD = true → cutP (l ++ 46 :: F) = (l, F, true)
  | [], _ => by simp [cutP]
  | c :: l, h => by
    simp only [List.all_cons, Bool.and_eq_true] at h
    have h46 : c ≠ 46 := by intro e; subst e; exact absurd h.1 (by decide)
    simp [cutP, h46, cutP_point F l h.2]

theorem canon_ne {W : List UInt8} (h : canon W = true) : ∃ x t, W = x :: t ∧ isD x = true := by
  have ha := canon_all h
  cases W with
  | nil => simp [canon] at h
  | cons x t => simp only [List.all_cons, Bool.and_eq_true] at ha; exact ⟨x, t, rfl, ha.1⟩

theorem bare_minus (l : List UInt8) : bare (45 :: l) = l ∧ signed (45 :: l) = true := by
  simp [bare, signed, Lib.trimPrefix, Lib.hasPrefix]

theorem bare_digit (x : UInt8) (l : List UInt8) (h : isD x = true) : bare (x :: l) = x :: l ∧ signed (x :: l) = false := by
  have h45 : x ≠ 45 := by intro e; subst e; exact absurd h (by decide)
  have hp : ([45] : List UInt8).isPrefixOf (x :: l) = false := by simp [List.isPrefixOf, Ne.symm h45]
  simp [bare, signed, Lib.trimPrefix, Lib.hasPrefix, hp]

theorem read_back (neg : Bool) (a p : Nat) (ha : a ≤ maxM) (hn : neg = true → a ≠ 0) : rmB (showI neg a p) p = true ∧ rmN (showI neg a p) p = (if neg = true then -(a : Int) else (a : Int)) := by
  obtain ⟨W, hW⟩ : ∃ W, (padL a p).take ((padL a p).length - p) = W := ⟨_, rfl⟩
  obtain ⟨F, hF⟩ : ∃ F, (padL a p).drop ((padL a p).length - p) = F := ⟨_, rfl⟩
  have hlen := padL_len a p
  have hFl : F.length = p := by rw [← hF, List.length_drop]; omega
  have hFd : F.all isD = true := by rw [← hF]; exact List.all_eq_true.mpr fun y hy => List.all_eq_true.mp (padL_all a p) y (List.mem_of_mem_drop hy)
  have hWc : canon W = true := by rw [← hW]; exact padL_head a p
  have hWF : val (W ++ F) = a := by rw [← hW, ← hF, List.take_append_drop, padL_val]
  have hsh : showL a p = W ++ (if p = 0 then [] else 46 :: F) := by rw [← hW, ← hF]; exact (padL_show a p).symm
  obtain ⟨x, t, hx, hxd⟩ := canon_ne hWc
  have hb : bare (showI neg a p) = showL a p ∧ signed (showI neg a p) = neg := by
    cases neg with
    | true => exact bare_minus (showL a p)
    | false =>
      have e : showI false a p = x :: (t ++ (if p = 0 then [] else 46 :: F)) := by
        show showL a p = _; rw [hsh, hx]; rfl
      have e2 : showL a p = x :: (t ++ (if p = 0 then [] else 46 :: F)) := e
      rw [e, e2]; exact bare_digit x _ hxd
  have hcut : cutP (bare (showI neg a p)) = (W, (if p = 0 then [] else F), decide (p ≠ 0)) := by
    rw [hb.1, hsh]
    by_cases hp : p = 0
    · rw [if_pos hp, if_pos hp, List.append_nil, cutP_plain W (canon_all hWc)]; simp [hp]
    · rw [if_neg hp, if_neg hp, cutP_point F W (canon_all hWc)]; simp [hp]
  have hdig : val (digitsOf (showI neg a p) p) = a := by
    unfold digitsOf
    rw [hcut]
    by_cases hp : p = 0
    · have hF0 : F = [] := List.eq_nil_of_length_eq_zero (by omega)
      subst hp
      simp only [if_true, List.length_nil, List.append_nil]
      rw [hF0, List.append_nil] at hWF
      rw [val_append, zeros_val, zeros_len]; simp [hWF]
    · simp only [if_neg hp]
      rw [hFl, Nat.sub_self, val_append, zeros_val, zeros_len, hWF]; simp
  have hB : rmB (showI neg a p) p = true := by
    rw [rm_by, hcut, hdig, hb.2]
    by_cases hp : p = 0
    · subst hp
      cases neg with
      | false => simp [hWc, ha]
      | true => have := hn rfl; simp [hWc, ha, this]
    · have hpos : 0 < F.length := by omega
      have had : adB F = true := by unfold adB; rw [hFd, decide_eq_true hpos]; rfl
      cases neg with
      | false => simp [hWc, ha, hp, hFl, had]
      | true => have := hn rfl; simp [hWc, ha, hp, hFl, had, this]
  refine ⟨hB, ?_⟩
  unfold rmN
  rw [if_pos hB, hb.2, hdig]

theorem back_ok (a P : Int) (h : -100000000000 ≤ a ∧ a ≤ 100000000000) (h0 : 0 ≤ P) (h6 : P ≤ 6) : rqB (smL a P) P = true ∧ rqN (smL a P) P = a := by
  obtain ⟨e1, e2⟩ := @rq_ok (smL a P) P ⟨h0, h6⟩
  rw [e1, e2, sm_ok ⟨h.1, h.2, h0, h6⟩]
  obtain ⟨r1, r2⟩ := read_back (decide (a < 0)) a.natAbs P.toNat (by unfold maxM; omega) (by intro g; have g2 : a < 0 := (by simpa using g); omega)
  refine ⟨r1, ?_⟩
  rw [r2]
  by_cases g : a < 0
  · rw [decide_eq_true g, if_pos rfl]; omega
  · rw [decide_eq_false g, if_neg (by simp)]; omega

theorem back_bad (a P : Int) (h : ¬ (-100000000000 ≤ a ∧ a ≤ 100000000000)) (h0 : 0 ≤ P) (h6 : P ≤ 6) : rqB (smL a P) P = false ∧ rqN (smL a P) P = 0 := by
  obtain ⟨e1, e2⟩ := @rq_ok (smL a P) P ⟨h0, h6⟩
  rw [e1, e2, sm_bad (by omega)]
  have hb : rmB [] P.toNat = false := by rw [rm_by]; rfl
  exact ⟨hb, rm_false hb⟩

theorem smL_len (a P : Int) : (smL a P).length ≤ 1000 := by
  by_cases h : -100000000000 ≤ a ∧ a ≤ 100000000000 ∧ 0 ≤ P ∧ P ≤ 6
  · rw [sm_ok h]
    have := showL_len a.natAbs P.toNat (by omega) (by omega)
    unfold showI; split <;> simp <;> omega
  · rw [sm_bad h]; simp

theorem sm_five : str (smL (-5) 2) = (⟨#[45, 48, 46, 48, 53]⟩ : ByteArray) := by
  rw [sm_ok (by omega)]
  have e : showI (decide ((-5 : Int) < 0)) (-5 : Int).natAbs (2 : Int).toNat = [45, 48, 46, 48, 53] := by
    show showI true 5 2 = _
    unfold showI showL
    rw [show (5 : Nat) / 10 ^ 2 = 0 by decide, show (10 : Nat) ^ 2 + 5 % 10 ^ 2 = 105 by decide, dec_small (by omega), dec_big (by omega), show (105 : Nat) / 10 = 10 by decide, dec_big (show ¬ (10 : Nat) < 10 by omega), show (10 : Nat) / 10 = 1 by decide, dec_small (show (1 : Nat) < 10 by omega)]
    decide
  rw [e]; rfl

end Go.Proofs.YtipdcegbfhokfaaDoor
