/- The contract of the program's ReadMoney: at every text (of at most 1048576 bytes) and every number of places from 0 to 6 it answers 'rmN' and 'rmB'; nothing that was there is written. -/
import Derived.Test.YtipdcegbfhokfaaDoorRi
import Derived.Test.YtipdcegbfhokfaaDoorLs
import Derived.WalkSmall
namespace Go.Proofs.YtipdcegbfhokfaaDoor
open Go.ChangeShapes Go.WideShapes Go.ChangeAt Go.RowKit
set_option linter.unusedVariables false
set_option linter.unusedSimpArgs false
open Go.Lib

theorem cutPrefix_ex (s : ByteArray) (w : World) (hs : (s.size : Int) ≤ 1048576) :
    Calls Tryd.prog 17 #[.string s, .string ⟨#[45]⟩] w fun e w' => ∃ T : ByteArray, e = .returned (.tuple #[.string T, .bool (signed s.data.toList)]) ∧ Hid (T.data.toList = bare s.data.toList) ∧ (T.size : Int) ≤ 1048576 ∧ w' = w := by
  refine (Tryd.strings_CutPrefix s ⟨#[45]⟩ w).mono ?_
  rintro e w' ⟨rfl, rfl⟩
  refine ⟨_, rfl, ?_, ?_, rfl⟩
  · unfold Hid bare; rfl
  · have : (Lib.trimPrefix s.data.toList [45]).length ≤ s.data.toList.length := by
      unfold Lib.trimPrefix; split <;> simp
    have e1 : (⟨(Lib.trimPrefix s.data.toList (⟨#[45]⟩ : ByteArray).data.toList).toArray⟩ : ByteArray).size = (Lib.trimPrefix s.data.toList [45]).length := by simp [ByteArray.size]
    rw [e1]
    have := Lib.size_eq s
    omega

theorem cutP_len (l : List UInt8) : (cutP l).1.length ≤ l.length ∧ (cutP l).2.1.length ≤ l.length := by
  have e := congrArg List.length (cutP_join l)
  rw [List.length_append] at e
  cases h : (cutP l).2.2 with
  | false => have := cutP_none l h; rw [this]; simp; omega
  | true => rw [h] at e; simp at e; omega

theorem cut_ex (T : ByteArray) (l : List UInt8) (hl : T.data.toList = l) (m : Int) (w : World) (hs : (T.size : Int) ≤ 1048576) (hm : w.cell? ⟨0, 0, none⟩ = some (.int .i64 m)) :
    Calls Tryd.prog 18 #[.string T, .string ⟨#[46]⟩] w fun e w' => ∃ (W F : ByteArray) (q : Nat), e = .returned (.tuple #[.string W, .string F, .bool (cutP l).2.2]) ∧ Hid (W.data.toList = (cutP l).1) ∧ Hid (F.data.toList = (cutP l).2.1) ∧ (W.size : Int) ≤ 1048576 ∧ (F.size : Int) ≤ 1048576 ∧ w' = w.drewN q := by
  refine (Tryd.strings_Cut T ⟨#[46]⟩ m w (by omega) hm).mono ?_
  rintro e w' ⟨rfl, q, rfl⟩
  have hc : Lib.cut T.data.toList (⟨#[46]⟩ : ByteArray).data.toList = cutP l := by rw [hl]; exact cut_eq l
  rw [hc]
  have hz := cutP_len l
  have hsz := Lib.size_eq T
  rw [hl] at hsz
  refine ⟨_, _, q, rfl, rfl, rfl, ?_, ?_, rfl⟩
  · show (((cutP l).1.length : Nat) : Int) ≤ _; omega
  · show (((cutP l).2.1.length : Nat) : Int) ≤ _; omega

theorem repeatL_zeros : ∀ n : Nat, Lib.repeatL [48] n = zeros n
  | 0 => rfl
  | n + 1 => by rw [Lib.repeatL, repeatL_zeros n]; simp [zeros, List.replicate_succ]

theorem repeat_rd (n : Int) (w : World) (h0 : 0 ≤ n) (h1 : n ≤ 6) :
    Calls Tryd.prog 22 #[.string ⟨#[48]⟩, .int .i64 n] w fun e w' => ∃ Z : ByteArray, e = .returned (.string Z) ∧ Hid (Z.data.toList = zeros n.toNat) ∧ (Z.size : Int) ≤ 6 ∧ Below w.heap.size w w' := by
  have := Tryd.strings_Repeat ⟨#[48]⟩ n.toNat w (by omega) (by show 1 * n.toNat ≤ _; omega)
  rw [show ((n.toNat : Nat) : Int) = n by omega] at this
  refine this.mono ?_
  rintro e w' ⟨rfl, hb⟩
  have e1 : Lib.repeatL (⟨#[48]⟩ : ByteArray).data.toList n.toNat = zeros n.toNat := repeatL_zeros _
  rw [e1]
  refine ⟨_, rfl, rfl, ?_, hb⟩
  show (((zeros n.toNat).length : Nat) : Int) ≤ _
  rw [zeros_len]; omega

/-- What the program answers, by the truth of its tests. -/
theorem rm_by (l : List UInt8) (p : Nat) : rmB l p = (canon (cutP (bare l)).1 && decide ((cutP (bare l)).2.1.length ≤ p) && (!(cutP (bare l)).2.2 || adB (cutP (bare l)).2.1) && decide (val (digitsOf l p) ≤ maxM) && !(signed l && decide (val (digitsOf l p) = 0))) := rfl

theorem join_eq {W F Z : ByteArray} {l : List UInt8} {p : Nat} {FL P : Int} (hW : W.data.toList = (cutP (bare l)).1) (hF : F.data.toList = (cutP (bare l)).2.1) (hZ : Z.data.toList = zeros (P - FL).toNat) (hFL : FL = ((cutP (bare l)).2.1.length : Int)) (hP : P = (p : Int)) (hle : FL ≤ P) : (W ++ F ++ Z).data.toList = digitsOf l p := by
  have e : (P - FL).toNat = p - (cutP (bare l)).2.1.length := by omega
  unfold digitsOf
  rw [← e, ← hW, ← hF, ← hZ]
  simp

theorem read_ex (S : ByteArray) (l : List UInt8) (w : World) (hS : S.data.toList = l) (hs : S.size ≤ maxLen) (ha : l.all isD = true) :
    Calls Tryd.prog 21 #[.string S] w fun e w' => e = .returned (.tuple #[.int .i64 (rdV l), .bool (rdB l)]) ∧ w' = w := by
  subst hS; exact readDigits_any S w hs ha

theorem bel_q {w w3 : World} {q : Nat} (h : Below (w.drewN q).heap.size (w.drewN q) w3) : Below w.heap.size w w3 := (below_drewN (Below.refl _ _) q).trans h

set_option maxRecDepth 20000 in
set_option maxHeartbeats 8000000 in
theorem implRead_walk (s : ByteArray) (p : Nat) (P : Int) (m : Int) (w : World) (hs : (s.size : Int) ≤ 1048576) (hP : P = (p : Int)) (P0 : 0 ≤ P) (P6 : P ≤ 6) (hm : w.cell? ⟨0, 0, none⟩ = some (.int .i64 m)) :
    Calls Tryd.prog 7 #[.string s, .int .i64 P] w fun e w' => e = .returned (.tuple #[.int .i64 (rmN s.data.toList p), .bool (rmB s.data.toList p)]) ∧ Below w.heap.size w w' := by
  have HP : Hid (P = (p : Int)) := hP
  have HM : Hid (w.cell? ⟨0, 0, none⟩ = some (.int .i64 m)) := hm
  obtain ⟨l, hl⟩ : ∃ l, s.data.toList = l := ⟨_, rfl⟩
  have hrm := rm_by l p
  rw [hl]
  have hcp : Calls Tryd.prog 17 #[.string s, .string ⟨#[45]⟩] w fun e w' => ∃ T : ByteArray, e = .returned (.tuple #[.string T, .bool (signed l)]) ∧ Hid (T.data.toList = bare l) ∧ (T.size : Int) ≤ 1048576 ∧ w' = w := by
    rw [← hl]; exact cutPrefix_ex s w hs
  have HCP : Hid (Calls Tryd.prog 17 #[.string s, .string ⟨#[45]⟩] w fun e w' => ∃ T : ByteArray, e = .returned (.tuple #[.string T, .bool (signed l)]) ∧ Hid (T.data.toList = bare l) ∧ (T.size : Int) ≤ 1048576 ∧ w' = w) := hcp
  have HRM : Hid _ := hrm
  obtain ⟨FL, hFL⟩ : ∃ FL : Int, FL = ((cutP (bare l)).2.1.length : Int) := ⟨_, rfl⟩
  have HFL : Hid (FL = ((cutP (bare l)).2.1.length : Int)) := hFL
  have fl0 : 0 ≤ FL := by omega
  have hnone := cutP_none (bare l)
  have hg : adB (cutP (bare l)).2.1 = adB (cutP (bare l)).2.1 := rfl
  clear hcp hl hrm hP hm hg
  cases hc : canon (cutP (bare l)).1
  · have HR : Hid (rmB l p = false) := by unfold Hid; rw [HRM.out, hc]; simp
    clear hnone hFL
    go_enter Tryd.func7, Tryd.ntmps7
    go_wp2_with (first
      | (go_at_call 16; go_in)
      | (go_at_call 17; refine HCP.out.mono ?_; rintro e w' ⟨T, rfl, HT, t1, rfl⟩)
      | (go_at_call 18; refine (cut_ex T (bare l) HT.out m _ t1 HM.out).mono ?_; rintro e w1 ⟨W, F, q, rfl, HW, HF, w1b, f1, rfl⟩; have hfs : (F.size : Int) = FL := by (rw [HFL.out, ← HF.out, Lib.size_eq]))
      | (go_at_call 19; refine (wholeOk_any _ _ (by unfold maxLen; omega)).mono ?_; rintro e w2 ⟨rfl, rfl⟩; rw [HW.out, hc])
      | (go_at_call 20; refine (allDigits_any _ _ (by unfold maxLen; omega)).mono ?_; rintro e w2 ⟨rfl, rfl⟩; rw [HF.out, hg])
      | (go_at_call 22; refine (repeat_rd _ _ (by omega) (by omega)).mono ?_; rintro e w3 ⟨Z, rfl, HZ, z1, bz⟩; have BZ : Hid _ := bz; clear bz)
      | (go_at_call 21; refine (read_ex _ (digitsOf l p) _ (join_eq HW.out HF.out HZ.out HFL.out HP.out hle) (by rw [ByteArray.size_append, ByteArray.size_append]; unfold maxLen; omega) HAD.out).mono ?_; rintro e w4 ⟨rfl, rfl⟩))
    go_returns
    exact ⟨ret_pi (rm_false HR.out).symm HR.out.symm, by first | exact below_drewN (Below.refl _ _) _ | exact bel_q BZ.out⟩
  by_cases hle : FL ≤ P
  · have hlen : (cutP (bare l)).2.1.length ≤ p := by have := HP.out; omega
    cases ht : (cutP (bare l)).2.2
    · have hF0 := hnone ht
      have HAD : Hid ((digitsOf l p).all isD = true) := by
        unfold Hid digitsOf; rw [hF0, List.all_append, List.all_append, canon_all hc, zeros_all]; rfl
      have HRB : Hid (rmB l p = (decide (val (digitsOf l p) ≤ maxM) && !(signed l && decide (val (digitsOf l p) = 0)))) := by
        unfold Hid; rw [HRM.out, hc, ht, decide_eq_true hlen]; simp
      clear hnone hFL hF0 hlen HRM
      cases hrd : rdB (digitsOf l p)
      · have HR : Hid (rmB l p = false) := by unfold rdB at hrd; unfold Hid; rw [HRB.out, hrd]; rfl
        go_enter Tryd.func7, Tryd.ntmps7
        go_wp2_with (first
          | (go_at_call 16; go_in)
          | (go_at_call 17; refine HCP.out.mono ?_; rintro e w' ⟨T, rfl, HT, t1, rfl⟩)
          | (go_at_call 18; refine (cut_ex T (bare l) HT.out m _ t1 HM.out).mono ?_; rintro e w1 ⟨W, F, q, rfl, HW, HF, w1b, f1, rfl⟩; have hfs : (F.size : Int) = FL := by (rw [HFL.out, ← HF.out, Lib.size_eq]))
          | (go_at_call 19; refine (wholeOk_any _ _ (by unfold maxLen; omega)).mono ?_; rintro e w2 ⟨rfl, rfl⟩; rw [HW.out, hc])
          | (go_at_call 20; refine (allDigits_any _ _ (by unfold maxLen; omega)).mono ?_; rintro e w2 ⟨rfl, rfl⟩; rw [HF.out, hg])
          | (go_at_call 22; refine (repeat_rd _ _ (by omega) (by omega)).mono ?_; rintro e w3 ⟨Z, rfl, HZ, z1, bz⟩; have BZ : Hid _ := bz; clear bz)
          | (go_at_call 21; refine (read_ex _ (digitsOf l p) _ (join_eq HW.out HF.out HZ.out HFL.out HP.out hle) (by rw [ByteArray.size_append, ByteArray.size_append]; unfold maxLen; omega) HAD.out).mono ?_; rintro e w4 ⟨rfl, rfl⟩))
        go_returns
        exact ⟨ret_pi (rm_false HR.out).symm HR.out.symm, by first | exact below_drewN (Below.refl _ _) _ | exact bel_q BZ.out⟩
      · have hvm : val (digitsOf l p) ≤ maxM := by unfold rdB at hrd; simpa using hrd
        obtain ⟨V, hV⟩ : ∃ V : Int, rdV (digitsOf l p) = V := ⟨_, rfl⟩
        have hV2 : V = (val (digitsOf l p) : Int) := by rw [← hV]; unfold rdV; rw [if_pos hvm]
        have v0 : 0 ≤ V := by omega
        have v1 : V ≤ 100000000000 := by unfold maxM at hvm; omega
        cases hsg : signed l
        · have HR : Hid (rmB l p = true ∧ rmN l p = V) := by
            have hb : rmB l p = true := by rw [HRB.out, hsg, decide_eq_true hvm]; rfl
            exact ⟨hb, by unfold rmN; rw [if_pos hb, hsg, hV2]; rfl⟩
          clear hvm hV2
          go_enter Tryd.func7, Tryd.ntmps7
          go_wp2_with (first
            | (go_at_call 16; go_in)
            | (go_at_call 17; refine HCP.out.mono ?_; rintro e w' ⟨T, rfl, HT, t1, rfl⟩)
            | (go_at_call 18; refine (cut_ex T (bare l) HT.out m _ t1 HM.out).mono ?_; rintro e w1 ⟨W, F, q, rfl, HW, HF, w1b, f1, rfl⟩; have hfs : (F.size : Int) = FL := by (rw [HFL.out, ← HF.out, Lib.size_eq]))
            | (go_at_call 19; refine (wholeOk_any _ _ (by unfold maxLen; omega)).mono ?_; rintro e w2 ⟨rfl, rfl⟩; rw [HW.out, hc])
            | (go_at_call 20; refine (allDigits_any _ _ (by unfold maxLen; omega)).mono ?_; rintro e w2 ⟨rfl, rfl⟩; rw [HF.out, hg])
            | (go_at_call 22; refine (repeat_rd _ _ (by omega) (by omega)).mono ?_; rintro e w3 ⟨Z, rfl, HZ, z1, bz⟩; have BZ : Hid _ := bz; clear bz)
            | (go_at_call 21; refine (read_ex _ (digitsOf l p) _ (join_eq HW.out HF.out HZ.out HFL.out HP.out hle) (by rw [ByteArray.size_append, ByteArray.size_append]; unfold maxLen; omega) HAD.out).mono ?_; rintro e w4 ⟨rfl, rfl⟩))
          go_returns
          exact ⟨ret_pi HR.out.2.symm HR.out.1.symm, bel_q BZ.out⟩
        · by_cases hv0 : V = 0
          · have HR : Hid (rmB l p = false) := by
              unfold Hid; rw [HRB.out, hsg, decide_eq_true (show val (digitsOf l p) = 0 by omega)]; simp
            have e0 : (V == 0) = true := by simpa using hv0
            have v2 : V ≤ 0 := by omega
            clear hvm hV2 hv0
            go_enter Tryd.func7, Tryd.ntmps7
            go_wp2_with (first
              | (go_at_call 16; go_in)
              | (go_at_call 17; refine HCP.out.mono ?_; rintro e w' ⟨T, rfl, HT, t1, rfl⟩)
              | (go_at_call 18; refine (cut_ex T (bare l) HT.out m _ t1 HM.out).mono ?_; rintro e w1 ⟨W, F, q, rfl, HW, HF, w1b, f1, rfl⟩; have hfs : (F.size : Int) = FL := by (rw [HFL.out, ← HF.out, Lib.size_eq]))
              | (go_at_call 19; refine (wholeOk_any _ _ (by unfold maxLen; omega)).mono ?_; rintro e w2 ⟨rfl, rfl⟩; rw [HW.out, hc])
              | (go_at_call 20; refine (allDigits_any _ _ (by unfold maxLen; omega)).mono ?_; rintro e w2 ⟨rfl, rfl⟩; rw [HF.out, hg])
              | (go_at_call 22; refine (repeat_rd _ _ (by omega) (by omega)).mono ?_; rintro e w3 ⟨Z, rfl, HZ, z1, bz⟩; have BZ : Hid _ := bz; clear bz)
              | (go_at_call 21; refine (read_ex _ (digitsOf l p) _ (join_eq HW.out HF.out HZ.out HFL.out HP.out hle) (by rw [ByteArray.size_append, ByteArray.size_append]; unfold maxLen; omega) HAD.out).mono ?_; rintro e w4 ⟨rfl, rfl⟩))
            go_returns
            exact ⟨ret_pi (rm_false HR.out).symm HR.out.symm, by first | exact below_drewN (Below.refl _ _) _ | exact bel_q BZ.out⟩
          · have HR : Hid (rmB l p = true ∧ rmN l p = -V) := by
              have hb : rmB l p = true := by rw [HRB.out, hsg, decide_eq_true hvm, decide_eq_false (show ¬ val (digitsOf l p) = 0 by omega)]; rfl
              exact ⟨hb, by unfold rmN; rw [if_pos hb, hsg, hV2]; rfl⟩
            have e0 : (V == 0) = false := by simpa using hv0
            clear hvm hV2 hv0
            go_enter Tryd.func7, Tryd.ntmps7
            go_wp2_with (first
              | (go_at_call 16; go_in)
              | (go_at_call 17; refine HCP.out.mono ?_; rintro e w' ⟨T, rfl, HT, t1, rfl⟩)
              | (go_at_call 18; refine (cut_ex T (bare l) HT.out m _ t1 HM.out).mono ?_; rintro e w1 ⟨W, F, q, rfl, HW, HF, w1b, f1, rfl⟩; have hfs : (F.size : Int) = FL := by (rw [HFL.out, ← HF.out, Lib.size_eq]))
              | (go_at_call 19; refine (wholeOk_any _ _ (by unfold maxLen; omega)).mono ?_; rintro e w2 ⟨rfl, rfl⟩; rw [HW.out, hc])
              | (go_at_call 20; refine (allDigits_any _ _ (by unfold maxLen; omega)).mono ?_; rintro e w2 ⟨rfl, rfl⟩; rw [HF.out, hg])
              | (go_at_call 22; refine (repeat_rd _ _ (by omega) (by omega)).mono ?_; rintro e w3 ⟨Z, rfl, HZ, z1, bz⟩; have BZ : Hid _ := bz; clear bz)
              | (go_at_call 21; refine (read_ex _ (digitsOf l p) _ (join_eq HW.out HF.out HZ.out HFL.out HP.out hle) (by rw [ByteArray.size_append, ByteArray.size_append]; unfold maxLen; omega) HAD.out).mono ?_; rintro e w4 ⟨rfl, rfl⟩))
            go_returns
            exact ⟨ret_pi HR.out.2.symm HR.out.1.symm, bel_q BZ.out⟩
    · cases hg : adB (cutP (bare l)).2.1
      · have HR : Hid (rmB l p = false) := by unfold Hid; rw [HRM.out, ht, hg]; simp
        clear hnone hFL hlen
        go_enter Tryd.func7, Tryd.ntmps7
        go_wp2_with (first
          | (go_at_call 16; go_in)
          | (go_at_call 17; refine HCP.out.mono ?_; rintro e w' ⟨T, rfl, HT, t1, rfl⟩)
          | (go_at_call 18; refine (cut_ex T (bare l) HT.out m _ t1 HM.out).mono ?_; rintro e w1 ⟨W, F, q, rfl, HW, HF, w1b, f1, rfl⟩; have hfs : (F.size : Int) = FL := by (rw [HFL.out, ← HF.out, Lib.size_eq]))
          | (go_at_call 19; refine (wholeOk_any _ _ (by unfold maxLen; omega)).mono ?_; rintro e w2 ⟨rfl, rfl⟩; rw [HW.out, hc])
          | (go_at_call 20; refine (allDigits_any _ _ (by unfold maxLen; omega)).mono ?_; rintro e w2 ⟨rfl, rfl⟩; rw [HF.out, hg])
          | (go_at_call 22; refine (repeat_rd _ _ (by omega) (by omega)).mono ?_; rintro e w3 ⟨Z, rfl, HZ, z1, bz⟩; have BZ : Hid _ := bz; clear bz)
          | (go_at_call 21; refine (read_ex _ (digitsOf l p) _ (join_eq HW.out HF.out HZ.out HFL.out HP.out hle) (by rw [ByteArray.size_append, ByteArray.size_append]; unfold maxLen; omega) HAD.out).mono ?_; rintro e w4 ⟨rfl, rfl⟩))
        go_returns
        exact ⟨ret_pi (rm_false HR.out).symm HR.out.symm, by first | exact below_drewN (Below.refl _ _) _ | exact bel_q BZ.out⟩
      · have hFd : (cutP (bare l)).2.1.all isD = true := by unfold adB at hg; simp only [Bool.and_eq_true] at hg; exact hg.2
        have HAD : Hid ((digitsOf l p).all isD = true) := by
          unfold Hid digitsOf; rw [List.all_append, List.all_append, canon_all hc, hFd, zeros_all]; rfl
        have HRB : Hid (rmB l p = (decide (val (digitsOf l p) ≤ maxM) && !(signed l && decide (val (digitsOf l p) = 0)))) := by
          unfold Hid; rw [HRM.out, hc, ht, hg, decide_eq_true hlen]; simp
        clear hnone hFL hFd hlen HRM
        cases hrd : rdB (digitsOf l p)
        · have HR : Hid (rmB l p = false) := by unfold rdB at hrd; unfold Hid; rw [HRB.out, hrd]; rfl
          go_enter Tryd.func7, Tryd.ntmps7
          go_wp2_with (first
            | (go_at_call 16; go_in)
            | (go_at_call 17; refine HCP.out.mono ?_; rintro e w' ⟨T, rfl, HT, t1, rfl⟩)
            | (go_at_call 18; refine (cut_ex T (bare l) HT.out m _ t1 HM.out).mono ?_; rintro e w1 ⟨W, F, q, rfl, HW, HF, w1b, f1, rfl⟩; have hfs : (F.size : Int) = FL := by (rw [HFL.out, ← HF.out, Lib.size_eq]))
            | (go_at_call 19; refine (wholeOk_any _ _ (by unfold maxLen; omega)).mono ?_; rintro e w2 ⟨rfl, rfl⟩; rw [HW.out, hc])
            | (go_at_call 20; refine (allDigits_any _ _ (by unfold maxLen; omega)).mono ?_; rintro e w2 ⟨rfl, rfl⟩; rw [HF.out, hg])
            | (go_at_call 22; refine (repeat_rd _ _ (by omega) (by omega)).mono ?_; rintro e w3 ⟨Z, rfl, HZ, z1, bz⟩; have BZ : Hid _ := bz; clear bz)
            | (go_at_call 21; refine (read_ex _ (digitsOf l p) _ (join_eq HW.out HF.out HZ.out HFL.out HP.out hle) (by rw [ByteArray.size_append, ByteArray.size_append]; unfold maxLen; omega) HAD.out).mono ?_; rintro e w4 ⟨rfl, rfl⟩))
          go_returns
          exact ⟨ret_pi (rm_false HR.out).symm HR.out.symm, by first | exact below_drewN (Below.refl _ _) _ | exact bel_q BZ.out⟩
        · have hvm : val (digitsOf l p) ≤ maxM := by unfold rdB at hrd; simpa using hrd
          obtain ⟨V, hV⟩ : ∃ V : Int, rdV (digitsOf l p) = V := ⟨_, rfl⟩
          have hV2 : V = (val (digitsOf l p) : Int) := by rw [← hV]; unfold rdV; rw [if_pos hvm]
          have v0 : 0 ≤ V := by omega
          have v1 : V ≤ 100000000000 := by unfold maxM at hvm; omega
          cases hsg : signed l
          · have HR : Hid (rmB l p = true ∧ rmN l p = V) := by
              have hb : rmB l p = true := by rw [HRB.out, hsg, decide_eq_true hvm]; rfl
              exact ⟨hb, by unfold rmN; rw [if_pos hb, hsg, hV2]; rfl⟩
            clear hvm hV2
            go_enter Tryd.func7, Tryd.ntmps7
            go_wp2_with (first
              | (go_at_call 16; go_in)
              | (go_at_call 17; refine HCP.out.mono ?_; rintro e w' ⟨T, rfl, HT, t1, rfl⟩)
              | (go_at_call 18; refine (cut_ex T (bare l) HT.out m _ t1 HM.out).mono ?_; rintro e w1 ⟨W, F, q, rfl, HW, HF, w1b, f1, rfl⟩; have hfs : (F.size : Int) = FL := by (rw [HFL.out, ← HF.out, Lib.size_eq]))
              | (go_at_call 19; refine (wholeOk_any _ _ (by unfold maxLen; omega)).mono ?_; rintro e w2 ⟨rfl, rfl⟩; rw [HW.out, hc])
              | (go_at_call 20; refine (allDigits_any _ _ (by unfold maxLen; omega)).mono ?_; rintro e w2 ⟨rfl, rfl⟩; rw [HF.out, hg])
              | (go_at_call 22; refine (repeat_rd _ _ (by omega) (by omega)).mono ?_; rintro e w3 ⟨Z, rfl, HZ, z1, bz⟩; have BZ : Hid _ := bz; clear bz)
              | (go_at_call 21; refine (read_ex _ (digitsOf l p) _ (join_eq HW.out HF.out HZ.out HFL.out HP.out hle) (by rw [ByteArray.size_append, ByteArray.size_append]; unfold maxLen; omega) HAD.out).mono ?_; rintro e w4 ⟨rfl, rfl⟩))
            go_returns
            exact ⟨ret_pi HR.out.2.symm HR.out.1.symm, bel_q BZ.out⟩
          · by_cases hv0 : V = 0
            · have HR : Hid (rmB l p = false) := by
                unfold Hid; rw [HRB.out, hsg, decide_eq_true (show val (digitsOf l p) = 0 by omega)]; simp
              have e0 : (V == 0) = true := by simpa using hv0
              have v2 : V ≤ 0 := by omega
              clear hvm hV2 hv0
              go_enter Tryd.func7, Tryd.ntmps7
              go_wp2_with (first
                | (go_at_call 16; go_in)
                | (go_at_call 17; refine HCP.out.mono ?_; rintro e w' ⟨T, rfl, HT, t1, rfl⟩)
                | (go_at_call 18; refine (cut_ex T (bare l) HT.out m _ t1 HM.out).mono ?_; rintro e w1 ⟨W, F, q, rfl, HW, HF, w1b, f1, rfl⟩; have hfs : (F.size : Int) = FL := by (rw [HFL.out, ← HF.out, Lib.size_eq]))
                | (go_at_call 19; refine (wholeOk_any _ _ (by unfold maxLen; omega)).mono ?_; rintro e w2 ⟨rfl, rfl⟩; rw [HW.out, hc])
                | (go_at_call 20; refine (allDigits_any _ _ (by unfold maxLen; omega)).mono ?_; rintro e w2 ⟨rfl, rfl⟩; rw [HF.out, hg])
                | (go_at_call 22; refine (repeat_rd _ _ (by omega) (by omega)).mono ?_; rintro e w3 ⟨Z, rfl, HZ, z1, bz⟩; have BZ : Hid _ := bz; clear bz)
                | (go_at_call 21; refine (read_ex _ (digitsOf l p) _ (join_eq HW.out HF.out HZ.out HFL.out HP.out hle) (by rw [ByteArray.size_append, ByteArray.size_append]; unfold maxLen; omega) HAD.out).mono ?_; rintro e w4 ⟨rfl, rfl⟩))
              go_returns
              exact ⟨ret_pi (rm_false HR.out).symm HR.out.symm, by first | exact below_drewN (Below.refl _ _) _ | exact bel_q BZ.out⟩
            · have HR : Hid (rmB l p = true ∧ rmN l p = -V) := by
                have hb : rmB l p = true := by rw [HRB.out, hsg, decide_eq_true hvm, decide_eq_false (show ¬ val (digitsOf l p) = 0 by omega)]; rfl
                exact ⟨hb, by unfold rmN; rw [if_pos hb, hsg, hV2]; rfl⟩
              have e0 : (V == 0) = false := by simpa using hv0
              clear hvm hV2 hv0
              go_enter Tryd.func7, Tryd.ntmps7
              go_wp2_with (first
                | (go_at_call 16; go_in)
                | (go_at_call 17; refine HCP.out.mono ?_; rintro e w' ⟨T, rfl, HT, t1, rfl⟩)
                | (go_at_call 18; refine (cut_ex T (bare l) HT.out m _ t1 HM.out).mono ?_; rintro e w1 ⟨W, F, q, rfl, HW, HF, w1b, f1, rfl⟩; have hfs : (F.size : Int) = FL := by (rw [HFL.out, ← HF.out, Lib.size_eq]))
                | (go_at_call 19; refine (wholeOk_any _ _ (by unfold maxLen; omega)).mono ?_; rintro e w2 ⟨rfl, rfl⟩; rw [HW.out, hc])
                | (go_at_call 20; refine (allDigits_any _ _ (by unfold maxLen; omega)).mono ?_; rintro e w2 ⟨rfl, rfl⟩; rw [HF.out, hg])
                | (go_at_call 22; refine (repeat_rd _ _ (by omega) (by omega)).mono ?_; rintro e w3 ⟨Z, rfl, HZ, z1, bz⟩; have BZ : Hid _ := bz; clear bz)
                | (go_at_call 21; refine (read_ex _ (digitsOf l p) _ (join_eq HW.out HF.out HZ.out HFL.out HP.out hle) (by rw [ByteArray.size_append, ByteArray.size_append]; unfold maxLen; omega) HAD.out).mono ?_; rintro e w4 ⟨rfl, rfl⟩))
              go_returns
              exact ⟨ret_pi HR.out.2.symm HR.out.1.symm, bel_q BZ.out⟩
  · have HR : Hid (rmB l p = false) := by
      unfold Hid; rw [HRM.out, decide_eq_false (show ¬ (cutP (bare l)).2.1.length ≤ p by have := HP.out; omega)]; simp
    clear hnone hFL
    go_enter Tryd.func7, Tryd.ntmps7
    go_wp2_with (first
      | (go_at_call 16; go_in)
      | (go_at_call 17; refine HCP.out.mono ?_; rintro e w' ⟨T, rfl, HT, t1, rfl⟩)
      | (go_at_call 18; refine (cut_ex T (bare l) HT.out m _ t1 HM.out).mono ?_; rintro e w1 ⟨W, F, q, rfl, HW, HF, w1b, f1, rfl⟩; have hfs : (F.size : Int) = FL := by (rw [HFL.out, ← HF.out, Lib.size_eq]))
      | (go_at_call 19; refine (wholeOk_any _ _ (by unfold maxLen; omega)).mono ?_; rintro e w2 ⟨rfl, rfl⟩; rw [HW.out, hc])
      | (go_at_call 20; refine (allDigits_any _ _ (by unfold maxLen; omega)).mono ?_; rintro e w2 ⟨rfl, rfl⟩; rw [HF.out, hg])
      | (go_at_call 22; refine (repeat_rd _ _ (by omega) (by omega)).mono ?_; rintro e w3 ⟨Z, rfl, HZ, z1, bz⟩; have BZ : Hid _ := bz; clear bz)
      | (go_at_call 21; refine (read_ex _ (digitsOf l p) _ (join_eq HW.out HF.out HZ.out HFL.out HP.out hle) (by rw [ByteArray.size_append, ByteArray.size_append]; unfold maxLen; omega) HAD.out).mono ?_; rintro e w4 ⟨rfl, rfl⟩))
    go_returns
    exact ⟨ret_pi (rm_false HR.out).symm HR.out.symm, by first | exact below_drewN (Below.refl _ _) _ | exact bel_q BZ.out⟩

end Go.Proofs.YtipdcegbfhokfaaDoor
