/- AccountNumber of the program and of the model. -/
import Derived.Test.YtnglofgcckdbmaaDoorGb
namespace Go.Proofs.YtnglofgcckdbmaaDoor
open Go Go.ChangeShapes Go.WideShapes Go.ChangeAt Go.RowKit
set_option linter.unusedVariables false
set_option linter.unusedSimpArgs false

theorem rmL_snoc (s : ByteArray) (k : Nat) (h : k < s.size) : rmL (s.data.toList.take (k + 1)) = rmS (rmL (s.data.toList.take k)) s[k] := by
  unfold rmL; rw [take_s s k h, List.foldl_append]; rfl
set_option maxHeartbeats 4000000 in
set_option maxRecDepth 1000000 in
theorem numRem_any (L C R : ByteArray) (w : World) (hs : R.size + L.size + C.size ≤ 1000) (ha : aL nbU ((R ++ L) ++ C).data.toList = true) :
    Calls Tryd.prog 22 #[.string L, .string C, .string R] w fun e w' => e = .returned (.int .i64 (mdL ((R ++ L) ++ C).data.toList)) ∧ Below w.heap.size w w' := by
  have HDO : Hid (Calls Tryd.prog 55 #[.string ((R ++ L) ++ C)] w fun e w' => e = .returned (.string ⟨(dgL ((R ++ L) ++ C).data.toList).toArray⟩) ∧ Below w.heap.size w w') := digitsOf_any _ w (by simp only [ByteArray.size_append]; omega) ha
  have HRM : Hid (rmL (dgL ((R ++ L) ++ C).data.toList) = mdL ((R ++ L) ++ C).data.toList) := hid (rmL_md ha)
  have HDD : Hid (aL digU (dgL ((R ++ L) ++ C).data.toList) = true) := hid (dgL_digs _ ha)
  obtain ⟨D, hD⟩ : ∃ D : ByteArray, (⟨(dgL ((R ++ L) ++ C).data.toList).toArray⟩ : ByteArray) = D := ⟨_, rfl⟩
  have hDl : dgL ((R ++ L) ++ C).data.toList = D.data.toList := by rw [← hD]
  rw [hD] at HDO
  rw [hDl] at HRM HDD
  have hb : D.size ≤ 2000 := by
    have h1 := dgL_len _ ha
    have h2 : ((R ++ L) ++ C).data.toList.length = ((R ++ L) ++ C).size := by simp; omega
    rw [hDl, h2] at h1
    have h3 : D.data.toList.length = D.size := by simp
    simp only [ByteArray.size_append] at h1
    omega
  have s1 : R.size + L.size ≤ 9223372036854775807 := by omega
  have s2 : (R ++ L).size + C.size ≤ 9223372036854775807 := by simp only [ByteArray.size_append]; omega
  obtain ⟨V, hV⟩ : ∃ V, mdL ((R ++ L) ++ C).data.toList = V := ⟨_, rfl⟩
  rw [hV] at HRM ⊢
  clear ha hD hDl hV
  go_enter Tryd.func22, Tryd.ntmps22
  go_wp2_with (go_at_call 55; refine HDO.out.mono ?_; rintro e w1 ⟨rfl, b1⟩; have HB1 := hid b1; clear b1)
  clear HDO
  go_loopw [7, 9] (fun n _ wr => ∃ (pos : Nat) (A : Int), pos ≤ D.size ∧ n = .int .i64 A ∧ 0 ≤ A ∧ A ≤ 96 ∧ Hid (A = rmL (D.data.toList.take pos) ∧ wr.heap[w1.heap.size]? = some (.stringIter D pos) ∧ Below w.heap.size w wr)) (fun _ _ wr => D.size - wr.iterPos w1.heap.size)
  case atStart =>
    refine ⟨0, 0, Nat.zero_le _, rfl, by omega, by omega, rfl, ?_, HB1.out.alloc HB1.out.size _⟩
    have := World.iter_heap w1 D 0
    simpa using this
  case round =>
    obtain ⟨pos, A, hpl, rfl, a0, a1, HH⟩ := hrel
    obtain ⟨hA, hit, hbw⟩ := HH.out
    have hsz : w1.heap.size < wr.heap.size := (Array.getElem?_eq_some_iff.1 hit).1
    by_cases hp : pos < D.size
    · have hdg := inB_t (show inB (D[pos].toNat : Int) 48 57 = true from aL_get D pos hp HDD.out)
      have hnx : ∀ ty, (Instr.next (.pointer (some ⟨w1.heap.size, 0, none⟩)) true ty).run Tryd.prog wr = _ := fun ty => Lib.run_next_ascii_at wr w1.heap.size D pos ty hit hp (by omega)
      have Hit2 := hid (Lib.iterAt_heap wr w1.heap.size D pos (pos + 1) hit)
      have Hbw2 := hid (Lib.below_iterAt hbw (k := w1.heap.size) (by have := HB1.out.size; omega) D (pos + 1))
      have Hit := hid hit
      have hsn := rmL_snoc D pos hp
      rw [← hA] at hsn
      unfold rmS at hsn
      obtain ⟨x, hx⟩ : ∃ x : Int, (D[pos].toNat : Int) = x := ⟨_, rfl⟩
      rw [hx] at hnx hdg hsn
      have hrm := tmod97 (a := 10 * A + (x - 48)) (by omega)
      have HN : Hid ((10 * A + (x - 48)) % 97 = rmL (D.data.toList.take (pos + 1))) := hid hsn.symm
      clear HH hA hit hbw hsn hx
      go_wp2
      go_roundw
      case rel => exact ⟨pos + 1, _, by omega, rfl, by omega, by omega, HN.out, Hit2.out, Hbw2.out⟩
      case measure =>
        simp only [World.iterPos, Hit2.out, Hit.out]
        omega
    · have hnx : ∀ ty, (Instr.next (.pointer (some ⟨w1.heap.size, 0, none⟩)) true ty).run Tryd.prog wr = _ := fun ty => Lib.run_next_end_at wr w1.heap.size D pos ty hit hp
      have HF : Hid (A = V) := hid (by rw [hA, List.take_of_length_le (by simp; omega)]; exact HRM.out)
      have HBW := hid hbw
      clear HH hA hit hbw
      go_wp2
      go_returns
      exact ⟨ret_i HF.out, HBW.out⟩

theorem isLand_any (s : ByteArray) (w : World) (hs : (s.size : Int) ≤ 9223372036854775807) :
    Calls Tryd.prog 19 #[.string s] w fun e w' => e = .returned (.bool (decide (s.size = 2) && aL capU s.data.toList)) ∧ w' = w := by
  by_cases h : s.size = 2
  · have d1 : ((s.size : Int) == 2) = true := by simp [h]
    rw [decide_eq_true h, Bool.true_and]
    obtain ⟨v, hv⟩ : ∃ v, aL capU s.data.toList = v := ⟨_, rfl⟩
    have HC := hid (fun w => hasCap_any s w hs)
    rw [hv] at HC ⊢
    clear hv h
    go_enter Tryd.func19, Tryd.ntmps19
    go_wp2_with (go_at_call 51; refine (HC.out _).mono ?_; rintro e wq ⟨rfl, ew⟩; replace ew := ew.symm; subst ew)
    go_returns
    exact ⟨rfl, rfl⟩
  · have d1 : ((s.size : Int) == 2) = false := by
      have : ¬ (s.size : Int) = 2 := by omega
      simpa using this
    rw [decide_eq_false h, Bool.false_and]
    go_enter Tryd.func19, Tryd.ntmps19
    go_wp2
    go_returns
    exact ⟨rfl, rfl⟩
theorem isRest_any (s : ByteArray) (w : World) (hs : (s.size : Int) ≤ 9223372036854775807) :
    Calls Tryd.prog 20 #[.string s] w fun e w' => e = .returned (.bool (inB (s.size : Int) 4 26 && aL nbU s.data.toList)) ∧ w' = w := by
  by_cases h1 : (4 : Int) ≤ (s.size : Int)
  · by_cases h2 : (s.size : Int) ≤ 26
    · rw [inB_y h1 h2, Bool.true_and]
      have d1 : decide ((4 : Int) ≤ (s.size : Int)) = true := decide_eq_true h1
      have d2 : decide ((s.size : Int) ≤ 26) = true := decide_eq_true h2
      obtain ⟨v, hv⟩ : ∃ v, aL nbU s.data.toList = v := ⟨_, rfl⟩
      have HC := hid (fun w => hasNB_any s w hs)
      rw [hv] at HC ⊢
      clear hv
      go_enter Tryd.func20, Tryd.ntmps20
      go_wp2_with (go_at_call 51; refine (HC.out _).mono ?_; rintro e wq ⟨rfl, ew⟩; replace ew := ew.symm; subst ew)
      go_returns
      exact ⟨rfl, rfl⟩
    · rw [show inB (s.size : Int) 4 26 = false from decide_eq_false (by omega), Bool.false_and]
      have d2 : decide ((s.size : Int) ≤ 26) = false := decide_eq_false h2
      go_enter Tryd.func20, Tryd.ntmps20
      go_wp2
      go_returns
      exact ⟨rfl, rfl⟩
  · rw [show inB (s.size : Int) 4 26 = false from decide_eq_false (by omega), Bool.false_and]
    go_enter Tryd.func20, Tryd.ntmps20
    go_wp2
    go_returns
    exact ⟨rfl, rfl⟩

theorem drop_b (s : ByteArray) (k : Nat) (h : k < s.size) : s.data.toList.drop k = s[k] :: s.data.toList.drop (k + 1) := by
  rw [List.drop_eq_getElem_cons (by simpa using h)]; rfl
theorem four_b (s : ByteArray) (h : 4 ≤ s.size) : s.data.toList = s[0] :: s[1] :: s[2] :: s[3] :: s.data.toList.drop 4 := by
  have h0 := drop_b s 0 (by omega)
  rw [List.drop_zero, drop_b s 1 (by omega), drop_b s 2 (by omega), drop_b s 3 (by omega)] at h0
  exact h0
theorem ext_l (s : ByteArray) (i j : Nat) : (s.extract i j).data.toList = (s.data.toList.drop i).take (j - i) := by
  rw [ByteArray.data_extract, Array.toList_extract, List.extract_eq_take_drop]
/-- Whether a text is an account number. -/
def anP (l : List UInt8) : Bool :=
  match l with
  | a :: b :: c :: d :: r => capU a && capU b && (digU c && digU d) && (inB (r.length : Int) 4 26 && aL nbU r) && (mdL (r ++ [a, b, c, d]) == 1)
  | _ => false
theorem anP_short {s : ByteArray} (h : s.size < 4) : anP s.data.toList = false := by
  have hl : s.data.toList.length = s.size := by simp
  unfold anP
  split
  · rename_i e; rw [e] at hl; simp at hl; omega
  · rfl
theorem anP_four {s : ByteArray} (h : 4 ≤ s.size) : anP s.data.toList = (capU s[0] && capU s[1] && (digU s[2] && digU s[3]) && (inB ((s.size : Int) - 4) 4 26 && aL nbU (s.data.toList.drop 4)) && (mdL (s.data.toList.drop 4 ++ [s[0], s[1], s[2], s[3]]) == 1)) := by
  have hl : ((s.data.toList.drop 4).length : Int) = (s.size : Int) - 4 := by simp; omega
  rw [← hl]
  conv => lhs; rw [four_b s h]
  rfl
theorem anP_parts {s : ByteArray} {a b c d : UInt8} (hl : s.data.toList = a :: b :: c :: d :: s.data.toList.drop 4) (h : 4 ≤ s.size) : anP s.data.toList = (capU a && capU b && (digU c && digU d) && (inB ((s.size : Int) - 4) 4 26 && aL nbU (s.data.toList.drop 4)) && (mdL (s.data.toList.drop 4 ++ [a, b, c, d]) == 1)) := by
  have hln : ((s.data.toList.drop 4).length : Int) = (s.size : Int) - 4 := by simp; omega
  rw [← hln]
  conv => lhs; rw [hl]
  rfl
theorem cap_nb {b : UInt8} (h : capU b = true) : nbU b = true := by unfold nbU nbI; rw [show inB (b.toNat : Int) 65 90 = true from h]; rfl
theorem dig_nb {b : UInt8} (h : digU b = true) : nbU b = true := by unfold nbU nbI; rw [show inB (b.toNat : Int) 48 57 = true from h]; simp

set_option maxHeartbeats 8000000 in
set_option maxRecDepth 1000000 in
theorem implAcc_any (s : ByteArray) (w : World) (hs : (s.size : Int) ≤ 9223372036854775807) :
    Calls Tryd.prog 12 #[.string s] w fun e w' => e = .returned (.bool (anP s.data.toList)) ∧ Below w.heap.size w w' := by
  by_cases h4 : s.size < 4
  · have h4' : (s.size : Int) < 4 := by omega
    rw [anP_short h4]
    go_enter Tryd.func12, Tryd.ntmps12
    go_wp2
    go_returns
    exact ⟨rfl, Below.refl _ _⟩
  have h4' : ¬ (s.size : Int) < 4 := by omega
  have g4 : 4 ≤ s.size := by omega
  have g2 : 2 ≤ s.size := by omega
  obtain ⟨ba, bb, bc, bd, hf⟩ : ∃ a b c d, s.data.toList = a :: b :: c :: d :: s.data.toList.drop 4 := ⟨_, _, _, _, four_b s g4⟩
  have eL : (s.extract 0 2).data.toList = [ba, bb] := by rw [ext_l, hf]; rfl
  have eC : (s.extract 2 4).data.toList = [bc, bd] := by rw [ext_l, hf]; rfl
  have eR : (s.extract 4 s.size).data.toList = s.data.toList.drop 4 := by
    rw [ext_l, List.take_of_length_le (by simp)]
  have zL : (s.extract 0 2).size = 2 := by rw [ByteArray.size_extract]; omega
  have zC : (s.extract 2 4).size = 2 := by rw [ByteArray.size_extract]; omega
  have zR : ((s.extract 4 s.size).size : Int) = (s.size : Int) - 4 := by rw [ByteArray.size_extract]; omega
  have HL : Hid (∀ W, Calls Tryd.prog 19 #[.string (s.extract 0 2)] W fun e w' => e = .returned (.bool (capU ba && capU bb)) ∧ w' = W) := hid (fun W => by
    have := isLand_any (s.extract 0 2) W (by rw [zL]; omega)
    rw [eL, zL] at this
    have e : (decide (2 = 2) && aL capU [ba, bb]) = (capU ba && capU bb) := by unfold aL; simp
    rw [e] at this; exact this)
  have HC : Hid (∀ W, Calls Tryd.prog 28 #[.string (s.extract 2 4)] W fun e w' => e = .returned (.bool (digU bc && digU bd)) ∧ w' = W) := hid (fun W => by
    have := allDig_any (s.extract 2 4) W (by rw [zC]; omega) (by rw [zC]; omega)
    rw [eC] at this
    have e : aL digU [bc, bd] = (digU bc && digU bd) := by unfold aL; simp
    rw [e] at this; exact this)
  have HR : Hid (∀ W, Calls Tryd.prog 20 #[.string (s.extract 4 s.size)] W fun e w' => e = .returned (.bool (inB ((s.size : Int) - 4) 4 26 && aL nbU (s.data.toList.drop 4))) ∧ w' = W) := hid (fun W => by
    have := isRest_any (s.extract 4 s.size) W (by rw [zR]; omega)
    rw [eR, zR] at this; exact this)
  have HAN := hid (anP_parts hf g4)
  have HSM : Hid ((s.extract 4 s.size).size + (s.extract 0 2).size + (s.extract 2 4).size = s.size) := hid (by rw [zL, zC]; omega)
  have HCT : Hid (((s.extract 4 s.size ++ s.extract 0 2) ++ s.extract 2 4).data.toList = s.data.toList.drop 4 ++ [ba, bb, bc, bd]) := hid (by
    rw [ByteArray.data_append, ByteArray.data_append, Array.toList_append, Array.toList_append, eL, eC, eR]; simp)
  clear eL eC eR zL zC zR h4 hf
  cases v1 : (capU ba && capU bb)
  · rw [v1] at HL HAN
    rw [HAN.out]
    clear HAN HC HR HSM HCT v1
    go_enter Tryd.func12, Tryd.ntmps12
    go_wp2
    go_quiet (fail)
    go_wp2_with (go_at_call 19; refine (HL.out _).mono ?_; rintro e wq ⟨rfl, ew⟩; replace ew := ew.symm; subst ew)
    go_returns
    exact ⟨rfl, by first | exact bd_N (Below.refl _ _) _ | go_grown⟩
  cases v2 : (digU bc && digU bd)
  · rw [v1] at HL HAN
    rw [v2] at HC HAN
    rw [HAN.out]
    clear HAN HR HSM HCT v1 v2
    go_enter Tryd.func12, Tryd.ntmps12
    go_wp2
    go_quiet (fail)
    go_wp2_with (first | (go_at_call 19; refine (HL.out _).mono ?_; rintro e wq ⟨rfl, ew⟩; replace ew := ew.symm; subst ew) | (go_at_call 28; refine (HC.out _).mono ?_; rintro e wq ⟨rfl, ew⟩; replace ew := ew.symm; subst ew))
    go_returns
    exact ⟨rfl, by first | exact bd_N (Below.refl _ _) _ | go_grown⟩
  cases v3 : (inB ((s.size : Int) - 4) 4 26 && aL nbU (s.data.toList.drop 4))
  · rw [v1] at HL HAN
    rw [v2] at HC HAN
    rw [v3] at HR HAN
    rw [HAN.out]
    clear HAN HSM HCT v1 v2 v3
    go_enter Tryd.func12, Tryd.ntmps12
    go_wp2
    go_quiet (fail)
    go_wp2_with (first | (go_at_call 19; refine (HL.out _).mono ?_; rintro e wq ⟨rfl, ew⟩; replace ew := ew.symm; subst ew) | (go_at_call 28; refine (HC.out _).mono ?_; rintro e wq ⟨rfl, ew⟩; replace ew := ew.symm; subst ew) | (go_at_call 20; refine (HR.out _).mono ?_; rintro e wq ⟨rfl, ew⟩; replace ew := ew.symm; subst ew))
    go_returns
    exact ⟨rfl, by first | exact bd_N (Below.refl _ _) _ | go_grown⟩
  have hal : aL nbU (s.data.toList.drop 4 ++ [ba, bb, bc, bd]) = true := by
    simp only [Bool.and_eq_true] at v1 v2 v3
    have h3 := v3.2
    unfold aL at h3 ⊢
    rw [List.all_append, h3]
    simp [cap_nb v1.1, cap_nb v1.2, dig_nb v2.1, dig_nb v2.2]
  have h30 : (s.size : Int) ≤ 30 := by
    simp only [Bool.and_eq_true] at v3
    have := inB_t v3.1; omega
  rw [v1] at HL HAN
  rw [v2] at HC HAN
  rw [v3] at HR HAN
  have HNR : Hid (∀ W, Calls Tryd.prog 22 #[.string (s.extract 0 2), .string (s.extract 2 4), .string (s.extract 4 s.size)] W fun e w' => e = .returned (.int .i64 (mdL (s.data.toList.drop 4 ++ [ba, bb, bc, bd]))) ∧ Below W.heap.size W w') := hid (fun W => by
    have := numRem_any (s.extract 0 2) (s.extract 2 4) (s.extract 4 s.size) W (by rw [HSM.out]; omega) (by rw [HCT.out]; exact hal)
    rw [HCT.out] at this; exact this)
  obtain ⟨Z, hZ⟩ : ∃ Z, mdL (s.data.toList.drop 4 ++ [ba, bb, bc, bd]) = Z := ⟨_, rfl⟩
  rw [hZ] at HNR HAN
  simp only [Bool.true_and] at HAN
  rw [HAN.out]
  clear HAN HSM HCT v1 v2 v3 hal hZ
  go_enter Tryd.func12, Tryd.ntmps12
  go_wp2
  go_quiet (fail)
  go_wp2_with (first | (go_at_call 19; refine (HL.out _).mono ?_; rintro e wq ⟨rfl, ew⟩; replace ew := ew.symm; subst ew) | (go_at_call 28; refine (HC.out _).mono ?_; rintro e wq ⟨rfl, ew⟩; replace ew := ew.symm; subst ew) | (go_at_call 20; refine (HR.out _).mono ?_; rintro e wq ⟨rfl, ew⟩; replace ew := ew.symm; subst ew) | (go_at_call 22; refine (HNR.out _).mono ?_; rintro e w5 ⟨rfl, b5⟩; have HB5 := hid (bel_on (bd_N (Below.refl _ _) _) b5); clear b5))
  go_returns
  exact ⟨rfl, HB5.out⟩
end Go.Proofs.YtnglofgcckdbmaaDoor
