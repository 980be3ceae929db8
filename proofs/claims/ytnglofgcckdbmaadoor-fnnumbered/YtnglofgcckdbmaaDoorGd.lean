/- AccountNumber of the model. -/
import Derived.Test.YtnglofgcckdbmaaDoorGc
namespace Go.Proofs.YtnglofgcckdbmaaDoor
open Go Go.ChangeShapes Go.WideShapes Go.ChangeAt Go.RowKit
set_option linter.unusedVariables false
set_option linter.unusedSimpArgs false

theorem anP_size {s : ByteArray} (h : inB (s.size : Int) 8 30 = false) : anP s.data.toList = false := by
  by_cases h4 : s.size < 4
  · exact anP_short h4
  · have hf := four_b s (by omega)
    rw [anP_parts hf (by omega), show inB ((s.size : Int) - 4) 4 26 = false from decide_eq_false (by have := inB_f h; omega)]
    simp
theorem anP_in {s : ByteArray} {a b c d : UInt8} (hl : s.data.toList = a :: b :: c :: d :: s.data.toList.drop 4) (h : inB (s.size : Int) 8 30 = true) : anP s.data.toList = (aL nbU s.data.toList && capU a && capU b && digU c && digU d && (mdL (s.data.toList.drop 4 ++ [a, b, c, d]) == 1)) := by
  have hb := inB_t h
  rw [anP_parts hl (by omega), inB_y (x := (s.size : Int) - 4) (lo := 4) (hi := 26) (by omega) (by omega), Bool.true_and]
  have e : aL nbU s.data.toList = (nbU a && (nbU b && (nbU c && (nbU d && aL nbU (s.data.toList.drop 4))))) := by
    conv => lhs; rw [hl]
    unfold aL; simp
  rw [e]
  cases h1 : capU a
  · simp
  cases h2 : capU b
  · simp
  cases h3 : digU c
  · simp
  cases h4 : digU d
  · simp
  rw [cap_nb h1, cap_nb h2, dig_nb h3, dig_nb h4]
  simp

set_option maxHeartbeats 8000000 in
set_option maxRecDepth 1000000 in
theorem specAcc_any (s : ByteArray) (w : World) (hs : (s.size : Int) ≤ 9223372036854775807) :
    Calls Tryd.prog 13 #[.string s] w fun e w' => e = .returned (.bool (anP s.data.toList)) ∧ Below w.heap.size w w' := by
  have HRS := hid (fun W => l14Rest_any s W hs)
  cases t0 : inB (s.size : Int) 8 30
  · rw [anP_size t0]
    go_enter Tryd.func13, Tryd.ntmps13
    go_wp2
    try simp only [List.append]
    go_quiet (first | (go_at_call 29; exact Calls.quiet_of_same (l1In_eq _ _ _ _ _ t0)))
    go_wp2
    go_returns
    exact ⟨rfl, bd_N (Below.refl _ _) _⟩
  have hb := inB_t t0
  have hf := four_b s (by omega)
  have l0 : (0 : Int) < (s.size : Int) := by omega
  have l1 : (1 : Int) < (s.size : Int) := by omega
  have l2 : (2 : Int) < (s.size : Int) := by omega
  have l3 : (3 : Int) < (s.size : Int) := by omega
  have n0 : 0 < s.size := by omega
  have n1 : 1 < s.size := by omega
  have n2 : 2 < s.size := by omega
  have n3 : 3 < s.size := by omega
  have HAN := hid (anP_in hf t0)
  have HB0 : Hid (∀ v, capU s[0] = v → ∀ W, Calls Tryd.prog 31 #[.int .u8 (s[0].toNat : Int)] W fun e w' => e = .returned (.bool v) ∧ w' = W) := hid (fun v h W => l14Big_any_eq _ v W h)
  have HB1 : Hid (∀ v, capU s[1] = v → ∀ W, Calls Tryd.prog 31 #[.int .u8 (s[1].toNat : Int)] W fun e w' => e = .returned (.bool v) ∧ w' = W) := hid (fun v h W => l14Big_any_eq _ v W h)
  have HB2 : Hid (∀ v, digU s[2] = v → ∀ W, Calls Tryd.prog 32 #[.int .u8 (s[2].toNat : Int)] W fun e w' => e = .returned (.bool v) ∧ w' = W) := hid (fun v h W => l9Dig_any_eq _ v W h)
  have HB3 : Hid (∀ v, digU s[3] = v → ∀ W, Calls Tryd.prog 32 #[.int .u8 (s[3].toNat : Int)] W fun e w' => e = .returned (.bool v) ∧ w' = W) := hid (fun v h W => l9Dig_any_eq _ v W h)
  have HMD : Hid (aL nbU s.data.toList = true → ∀ W, Calls Tryd.prog 33 #[.string (s.extract 4 s.size ++ s.extract 0 4)] W fun e w' => e = .returned (.int .i64 (mdL (s.data.toList.drop 4 ++ [s[0], s[1], s[2], s[3]]))) ∧ w' = W) := hid (fun ha W => by
    have e : (s.extract 4 s.size ++ s.extract 0 4).data.toList = s.data.toList.drop 4 ++ [s[0], s[1], s[2], s[3]] := by
      rw [ByteArray.data_append, Array.toList_append, ext_l, ext_l, List.take_of_length_le (by simp)]
      congr 1
      conv => lhs; rw [hf]
      rfl
    have hal : aL nbU (s.data.toList.drop 4 ++ [s[0], s[1], s[2], s[3]]) = true := by
      unfold aL at ha ⊢
      rw [hf] at ha
      simp only [List.all_cons, Bool.and_eq_true] at ha
      rw [List.all_append]
      simp [ha.1, ha.2.1, ha.2.2.1, ha.2.2.2.1, ha.2.2.2.2]
    have := l14Mod_any (s.extract 4 s.size ++ s.extract 0 4) W (by rw [ByteArray.size_append, ByteArray.size_extract, ByteArray.size_extract]; omega) (by rw [e]; exact hal)
    rw [e] at this; exact this)
  obtain ⟨ba, hba⟩ : ∃ x, s[0] = x := ⟨_, rfl⟩
  obtain ⟨bb, hbb⟩ : ∃ x, s[1] = x := ⟨_, rfl⟩
  obtain ⟨bc, hbc⟩ : ∃ x, s[2] = x := ⟨_, rfl⟩
  obtain ⟨bd, hbd⟩ : ∃ x, s[3] = x := ⟨_, rfl⟩
  rw [hba, hbb, hbc, hbd] at HAN HMD
  rw [hba] at HB0
  rw [hbb] at HB1
  rw [hbc] at HB2
  rw [hbd] at HB3
  obtain ⟨x0, hx0⟩ : ∃ x : Int, (ba.toNat : Int) = x := ⟨_, rfl⟩
  obtain ⟨x1, hx1⟩ : ∃ x : Int, (bb.toNat : Int) = x := ⟨_, rfl⟩
  obtain ⟨x2, hx2⟩ : ∃ x : Int, (bc.toNat : Int) = x := ⟨_, rfl⟩
  obtain ⟨x3, hx3⟩ : ∃ x : Int, (bd.toNat : Int) = x := ⟨_, rfl⟩
  rw [hx0] at HB0
  rw [hx1] at HB1
  rw [hx2] at HB2
  rw [hx3] at HB3
  clear hf hb
  cases t1 : aL nbU s.data.toList
  · rw [t1] at HAN
    simp only [Bool.true_and, Bool.and_true, Bool.false_and, Bool.and_false] at HAN
    rw [HAN.out]
    clear HAN HMD
    rw [t1] at HRS
    go_enter Tryd.func13, Tryd.ntmps13
    go_wp2
    try simp only [List.append]
    go_quiet (first | (go_at_call 29; exact Calls.quiet_of_same (l1In_eq _ _ _ _ _ t0)) | (go_at_call 30; exact Calls.quiet_of_same (HRS.out _)))
    go_wp2
    go_returns
    exact ⟨rfl, bd_N (Below.refl _ _) _⟩
  cases t2 : capU ba
  · rw [t1, t2] at HAN
    simp only [Bool.true_and, Bool.and_true, Bool.false_and, Bool.and_false] at HAN
    rw [HAN.out]
    clear HAN HMD
    rw [t1] at HRS
    go_enter Tryd.func13, Tryd.ntmps13
    go_wp2
    try simp only [List.append]
    go_quiet (first | (go_at_call 29; exact Calls.quiet_of_same (l1In_eq _ _ _ _ _ t0)) | (go_at_call 30; exact Calls.quiet_of_same (HRS.out _)) | (go_at_call_of 31 x0; exact Calls.quiet_of_same (HB0.out _ t2 _)))
    go_wp2
    go_returns
    exact ⟨rfl, bd_N (Below.refl _ _) _⟩
  cases t3 : capU bb
  · rw [t1, t2, t3] at HAN
    simp only [Bool.true_and, Bool.and_true, Bool.false_and, Bool.and_false] at HAN
    rw [HAN.out]
    clear HAN HMD
    rw [t1] at HRS
    go_enter Tryd.func13, Tryd.ntmps13
    go_wp2
    try simp only [List.append]
    go_quiet (first | (go_at_call 29; exact Calls.quiet_of_same (l1In_eq _ _ _ _ _ t0)) | (go_at_call 30; exact Calls.quiet_of_same (HRS.out _)) | (go_at_call_of 31 x0; exact Calls.quiet_of_same (HB0.out _ t2 _)) | (go_at_call_of 31 x1; exact Calls.quiet_of_same (HB1.out _ t3 _)))
    go_wp2
    go_returns
    exact ⟨rfl, bd_N (Below.refl _ _) _⟩
  cases t4 : digU bc
  · rw [t1, t2, t3, t4] at HAN
    simp only [Bool.true_and, Bool.and_true, Bool.false_and, Bool.and_false] at HAN
    rw [HAN.out]
    clear HAN HMD
    rw [t1] at HRS
    go_enter Tryd.func13, Tryd.ntmps13
    go_wp2
    try simp only [List.append]
    go_quiet (first | (go_at_call 29; exact Calls.quiet_of_same (l1In_eq _ _ _ _ _ t0)) | (go_at_call 30; exact Calls.quiet_of_same (HRS.out _)) | (go_at_call_of 31 x0; exact Calls.quiet_of_same (HB0.out _ t2 _)) | (go_at_call_of 31 x1; exact Calls.quiet_of_same (HB1.out _ t3 _)) | (go_at_call_of 32 x2; exact Calls.quiet_of_same (HB2.out _ t4 _)))
    go_wp2
    go_returns
    exact ⟨rfl, bd_N (Below.refl _ _) _⟩
  cases t5 : digU bd
  · rw [t1, t2, t3, t4, t5] at HAN
    simp only [Bool.true_and, Bool.and_true, Bool.false_and, Bool.and_false] at HAN
    rw [HAN.out]
    clear HAN HMD
    rw [t1] at HRS
    go_enter Tryd.func13, Tryd.ntmps13
    go_wp2
    try simp only [List.append]
    go_quiet (first | (go_at_call 29; exact Calls.quiet_of_same (l1In_eq _ _ _ _ _ t0)) | (go_at_call 30; exact Calls.quiet_of_same (HRS.out _)) | (go_at_call_of 31 x0; exact Calls.quiet_of_same (HB0.out _ t2 _)) | (go_at_call_of 31 x1; exact Calls.quiet_of_same (HB1.out _ t3 _)) | (go_at_call_of 32 x2; exact Calls.quiet_of_same (HB2.out _ t4 _)) | (go_at_call_of 32 x3; exact Calls.quiet_of_same (HB3.out _ t5 _)))
    go_wp2
    go_returns
    exact ⟨rfl, bd_N (Below.refl _ _) _⟩
  rw [t1, t2, t3, t4, t5] at HAN
  simp only [Bool.true_and] at HAN
  have HM2 := hid (HMD.out t1)
  obtain ⟨Z, hZ⟩ : ∃ Z, mdL (s.data.toList.drop 4 ++ [ba, bb, bc, bd]) = Z := ⟨_, rfl⟩
  rw [hZ] at HAN HM2
  rw [HAN.out]
  rw [t1] at HRS
  have g4 : 4 ≤ s.size := by omega
  clear HAN HMD hZ
  go_enter Tryd.func13, Tryd.ntmps13
  go_wp2
  try simp only [List.append]
  go_quiet (first | (go_at_call 29; exact Calls.quiet_of_same (l1In_eq _ _ _ _ _ t0)) | (go_at_call 30; exact Calls.quiet_of_same (HRS.out _)) | (go_at_call_of 31 x0; exact Calls.quiet_of_same (HB0.out _ t2 _)) | (go_at_call_of 31 x1; exact Calls.quiet_of_same (HB1.out _ t3 _)) | (go_at_call_of 32 x2; exact Calls.quiet_of_same (HB2.out _ t4 _)) | (go_at_call_of 32 x3; exact Calls.quiet_of_same (HB3.out _ t5 _)) | (go_at_call 33; exact Calls.quiet_of_same (HM2.out _)))
  go_wp2
  go_returns
  exact ⟨rfl, bd_N (Below.refl _ _) _⟩
end Go.Proofs.YtnglofgcckdbmaaDoor
