/- LotCost of both sides. -/
import Derived.Test.YtmbdeafpfdeigaaQe
namespace Go.Proofs.Ytmbdeafpfdeigaa
open Go Go.ChangeShapes Go.WideShapes Go.ChangeAt Go.RowKit
set_option linter.unusedVariables false
set_option linter.unusedSimpArgs false

theorem bd_at {n : Nat} {A W : World} {q : Nat} (h : Below n A W) : Below n A (W.drewN q) := bd_N h q
set_option maxRecDepth 20000 in
set_option maxHeartbeats 4000000 in
theorem implLotCost_any (l : LT) (ad ao : Option Addr) (n cap n2 oc : Nat) (m o : Nat → Int) (w : World) (hn : (n : Int) ≤ 1048576) (hn2 : (n2 : Int) ≤ 1048576) (hr : IR w ad n m) (hor : IR w ao n2 o) :
    Calls Try.prog 35 #[l.val, .slice ad n cap, .slice ao n2 oc] w fun e w' => e = .returned (.tuple #[.int .i64 (lcX l m o n n2), .bool (lcB l m o n n2)]) ∧ Below w.heap.size w w' := by
  obtain ⟨ki, sz, su, ho⟩ := l
  unfold LT.val
  have HR : Hid (IR w ad n m) := hr
  have HO : Hid (IR w ao n2 o) := hor
  have HBL : Hid (Below w.heap.size w (w.alloc (.cells #[.int .i64 ki, .int .i64 sz, .int .i64 su, .int .i64 ho] 48 (0, 0)))) := (Below.refl _ _).alloc (Nat.le_refl _) _
  have HC : Hid (CB (w.alloc (.cells #[.int .i64 ki, .int .i64 sz, .int .i64 su, .int .i64 ho] 48 (0, 0))) w.heap.size #[.int .i64 ki, .int .i64 sz, .int .i64 su, .int .i64 ho] 48) := CB.new _ _
  clear hr hor
  cases hL : ltB ⟨ki, sz, su, ho⟩
  · have HL : Hid (ltB ⟨ki, sz, su, ho⟩ = false) := hL
    clear hL
    have HV : Hid (lcB ⟨ki, sz, su, ho⟩ m o n n2 = false) := hid (by unfold lcB; simp only [HL.out, Bool.false_and, Bool.and_false, Bool.true_and])
    have HV2 : Hid (0 = lcX ⟨ki, sz, su, ho⟩ m o n n2) := hid (lcX_f HV.out).symm
    go_enter Try.func35, Try.ntmps35
    go_wp2_with (first | (go_at_call 73; refine (lotsRight_eq ⟨ki, sz, su, ho⟩ _ _ HL.out).mono ?_; rintro e w1 ⟨rfl, b1⟩; have HB1 : Hid (Below w.heap.size w w1) := hid (bel_on HBL.out b1); have HC1 := hid (HC.out.below b1 HC.out.lt); clear b1))
    go_returns
    exact ⟨ret_ib HV2.out HV.out.symm, HB1.out⟩
  have HL : Hid (ltB ⟨ki, sz, su, ho⟩ = true) := hL
  cases hN : nqB m n
  · have HN : Hid (nqB m n = false) := hN
    clear hN hL
    have HV : Hid (lcB ⟨ki, sz, su, ho⟩ m o n n2 = false) := hid (by unfold lcB; simp only [HL.out, HN.out, Bool.false_and, Bool.and_false, Bool.true_and])
    have HV2 : Hid (0 = lcX ⟨ki, sz, su, ho⟩ m o n n2) := hid (lcX_f HV.out).symm
    go_enter Try.func35, Try.ntmps35
    go_wp2_with (first | (go_at_call 73; refine (lotsRight_eq ⟨ki, sz, su, ho⟩ _ _ HL.out).mono ?_; rintro e w1 ⟨rfl, b1⟩; have HB1 : Hid (Below w.heap.size w w1) := hid (bel_on HBL.out b1); have HC1 := hid (HC.out.below b1 HC.out.lt); clear b1) | (go_at_call 74; refine (areNeeds_eq ad n cap m _ _ hn (HR.out.below HB1.out) HN.out).mono ?_; rintro e w2 ⟨rfl, b2⟩; have HB2 : Hid (Below w.heap.size w w2) := hid (bel_on HB1.out b2); have HC2 := hid (HC1.out.below b2 HC1.out.lt); clear b2))
    go_returns
    exact ⟨ret_ib HV2.out HV.out.symm, HB2.out⟩
  have HN : Hid (nqB m n = true) := hN
  cases hQ : (decide (n2 = n) && rgB 1000000 o n2)
  · have HQ : Hid ((decide (n2 = n) && rgB 1000000 o n2) = false) := hQ
    clear hN hL hQ
    have HV : Hid (lcB ⟨ki, sz, su, ho⟩ m o n n2 = false) := hid (by unfold lcB; simp only [HL.out, HN.out, HQ.out, Bool.false_and, Bool.and_false, Bool.true_and])
    have HV2 : Hid (0 = lcX ⟨ki, sz, su, ho⟩ m o n n2) := hid (lcX_f HV.out).symm
    go_enter Try.func35, Try.ntmps35
    go_wp2_with (first | (go_at_call 73; refine (lotsRight_eq ⟨ki, sz, su, ho⟩ _ _ HL.out).mono ?_; rintro e w1 ⟨rfl, b1⟩; have HB1 : Hid (Below w.heap.size w w1) := hid (bel_on HBL.out b1); have HC1 := hid (HC.out.below b1 HC.out.lt); clear b1) | (go_at_call 74; refine (areNeeds_eq ad n cap m _ _ hn (HR.out.below HB1.out) HN.out).mono ?_; rintro e w2 ⟨rfl, b2⟩; have HB2 : Hid (Below w.heap.size w w2) := hid (bel_on HB1.out b2); have HC2 := hid (HC1.out.below b2 HC1.out.lt); clear b2) | (go_at_call 85; refine (areQtys_eq n ao n2 oc o _ _ hn hn2 (HO.out.below HB2.out) HQ.out).mono ?_; rintro e w3 ⟨rfl, b3⟩; have HB3 : Hid (Below w.heap.size w w3) := hid (bel_on HB2.out b3); have HC3 := hid (HC2.out.below b3 HC2.out.lt); clear b3))
    go_returns
    exact ⟨ret_ib HV2.out HV.out.symm, HB3.out⟩
  have HQ : Hid ((decide (n2 = n) && rgB 1000000 o n2) = true) := hQ
  simp only [Bool.and_eq_true] at hQ
  obtain rfl : n2 = n := of_decide_eq_true hQ.1
  have HRG : Hid (rgB 1000000 o n2 = true) := hQ.2
  replace HQ : Hid ((decide (n2 = n2) && rgB 1000000 o n2) = true) := hid (by rw [HRG.out]; simp)
  have HQB : Hid (QB n2 m o) := hid ⟨(nqB_p hN).2.1, (nqB_p hN).2.2, rgB_p n2 hQ.2⟩
  cases hV : cvB m o n2
  · have HCV : Hid (cvH 0 m o n2 = false) := hid ((cvH_cv m o n2).trans hV)
    have HCB : Hid (cvB m o n2 = false) := hV
    clear hN hL hQ hV
    have HV : Hid (lcB ⟨ki, sz, su, ho⟩ m o n2 n2 = false) := hid (by unfold lcB; rw [HCB.out]; simp)
    have HV2 : Hid (0 = lcX ⟨ki, sz, su, ho⟩ m o n2 n2) := hid (lcX_f HV.out).symm
    go_enter Try.func35, Try.ntmps35
    go_wp2_with (first | (go_at_call 73; refine (lotsRight_eq ⟨ki, sz, su, ho⟩ _ _ HL.out).mono ?_; rintro e w1 ⟨rfl, b1⟩; have HB1 : Hid (Below w.heap.size w w1) := hid (bel_on HBL.out b1); have HC1 := hid (HC.out.below b1 HC.out.lt); clear b1) | (go_at_call 74; refine (areNeeds_eq ad n2 cap m _ _ hn2 (HR.out.below HB1.out) HN.out).mono ?_; rintro e w2 ⟨rfl, b2⟩; have HB2 : Hid (Below w.heap.size w w2) := hid (bel_on HB1.out b2); have HC2 := hid (HC1.out.below b2 HC1.out.lt); clear b2) | (go_at_call 85; refine (areQtys_eq n2 ao n2 oc o true _ hn2 hn2 (HO.out.below HB2.out) (by rw [HRG.out]; simp)).mono ?_; rintro e w3 ⟨rfl, b3⟩; have HB3 : Hid (Below w.heap.size w w3) := hid (bel_on HB2.out b3); have HC3 := hid (HC2.out.below b3 HC2.out.lt); clear b3) | (go_at_call 86; refine (leftOver_any ad ao n2 cap oc m o 0 _ HQB.out (by omega) (by omega) (HR.out.below HB3.out) (HO.out.below HB3.out)).mono ?_; rintro e w4 ⟨rfl, i4, b4⟩; rw [HCV.out]; have HI4 : Hid (IR w4 (some ⟨w3.heap.size, 0, none⟩) n2 (lfH 0 m o)) := i4; have HB4 : Hid (Below w.heap.size w w4) := hid (bel_on HB3.out b4); have HC4 := hid (HC3.out.below b4 HC3.out.lt); clear b4 i4))
    go_returns
    exact ⟨ret_ib HV2.out HV.out.symm, HB4.out⟩
  have HCV : Hid (cvH 0 m o n2 = true) := hid ((cvH_cv m o n2).trans hV)
  have HVT : Hid (lcB ⟨ki, sz, su, ho⟩ m o n2 n2 = true) := hid (by unfold lcB; rw [HL.out, HN.out, HRG.out, hV]; simp)
  have HBD : Hid (∀ k, k ≤ n2 → (-2000000000000 ≤ ho * lfS m o k ∧ ho * lfS m o k ≤ 2000000000000) ∧ (0 ≤ su * ctO o k ∧ su * ctO o k ≤ 400000000)) := hid (lc_bd (l := ⟨ki, sz, su, ho⟩) hL HQB.out)
  have h40 : (n2 : Int) ≤ 40 := by have := HQB.out.1; omega
  have HSU : Hid (0 ≤ su ∧ su ≤ 10000000) := hid (ltB_p hL).2.2.1
  clear hN hL hQ hV
  go_enter Try.func35, Try.ntmps35
  go_wp2_with (first | (go_at_call 73; refine (lotsRight_eq ⟨ki, sz, su, ho⟩ _ _ HL.out).mono ?_; rintro e w1 ⟨rfl, b1⟩; have HB1 : Hid (Below w.heap.size w w1) := hid (bel_on HBL.out b1); have HC1 := hid (HC.out.below b1 HC.out.lt); clear b1) | (go_at_call 74; refine (areNeeds_eq ad n2 cap m _ _ hn2 (HR.out.below HB1.out) HN.out).mono ?_; rintro e w2 ⟨rfl, b2⟩; have HB2 : Hid (Below w.heap.size w w2) := hid (bel_on HB1.out b2); have HC2 := hid (HC1.out.below b2 HC1.out.lt); clear b2) | (go_at_call 85; refine (areQtys_eq n2 ao n2 oc o true _ hn2 hn2 (HO.out.below HB2.out) (by rw [HRG.out]; simp)).mono ?_; rintro e w3 ⟨rfl, b3⟩; have HB3 : Hid (Below w.heap.size w w3) := hid (bel_on HB2.out b3); have HC3 := hid (HC2.out.below b3 HC2.out.lt); clear b3) | (go_at_call 86; refine (leftOver_any ad ao n2 cap oc m o 0 _ HQB.out (by omega) (by omega) (HR.out.below HB3.out) (HO.out.below HB3.out)).mono ?_; rintro e w4 ⟨rfl, i4, b4⟩; rw [HCV.out]; have HI4 : Hid (IR w4 (some ⟨w3.heap.size, 0, none⟩) n2 (lfH 0 m o)) := i4; have HB4 : Hid (Below w.heap.size w w4) := hid (bel_on HB3.out b4); have HC4 := hid (HC3.out.below b4 HC3.out.lt); clear b4 i4))
  have HSUM : Hid (∀ W : World, Below w4.heap.size w4 W → Calls Try.prog 87 #[.slice (some ⟨w3.heap.size, 0, none⟩) n2 n2] W fun e w' => e = .returned (.int .i64 (lfS m o n2)) ∧ w' = W) := hid (fun W b => by
    have := sum_any (some ⟨w3.heap.size, 0, none⟩) n2 n2 (lfH 0 m o) W (smB_lf HQB.out) (HI4.out.below b)
    rw [lf_sum] at this; exact this)
  have k3 : w4.cell? ⟨w.heap.size, 3, none⟩ = some (.int .i64 ho) := (HC4.out.cell 3).trans rfl
  have HC2 : Hid (w4.cell? ⟨w.heap.size, 2, none⟩ = some (.int .i64 su)) := hid ((HC4.out.cell 2).trans rfl)
  have hw0 : IntKind.i64.wrap (ho * lfS m o n2) = ho * lfS m o n2 := IntWalk.i64_in _ (by have := (HBD.out n2 (Nat.le_refl _)).1; omega)
  clear HI4 HC1 HC3 HC4 HB1 HB2 HB3 HC HBL
  go_quiet (first | (go_at_call 87; exact Calls.quiet_of_same (HSUM.out _ (by first | exact Below.refl _ _ | exact bd_at (Below.refl _ _)))))
  have HBZ : Hid (Below w.heap.size w w4) := HB4
  go_wp2
  go_loopw [10, 43] (fun u i wr => ∃ k : Nat, k ≤ n2 ∧ u = .int .i64 (ho * lfS m o n2 + su * ctO o k) ∧ i = .int .i64 (k : Int) ∧ Hid (wr.cell? ⟨w.heap.size, 2, none⟩ = some (.int .i64 su) ∧ Below w.heap.size w wr)) (fun _ i _ => n2 - (intOf i).toNat)
  case atStart => exact ⟨0, Nat.zero_le _, by show _ = Value.int .i64 (ho * lfS m o n2 + su * 0); simp, rfl, hid ⟨by first | exact HC2.out | (simpa using HC2.out), by first | exact HBZ.out | exact bd_at HBZ.out⟩⟩
  case round =>
    obtain ⟨k, hk, rfl, rfl, HH⟩ := hrel
    by_cases hlt : k < n2
    · have hlt2 : (k : Int) < (n2 : Int) := by omega
      obtain ⟨kb, off, rfl, _⟩ := HO.out.addr (by omega)
      have c0 := (HO.out.below HH.out.2).cell hlt
      have k2 := HH.out.1
      have b1 := (HBD.out n2 (Nat.le_refl _)).1
      have b2 := (HBD.out k (by omega)).2
      have s1 := HSU.out
      have hw1 : IntKind.i64.wrap (ho * lfS m o n2 + su * ctO o k + su) = ho * lfS m o n2 + su * ctO o k + su := IntWalk.i64_in _ ⟨by omega, by omega⟩
      have HE : Hid (ho * lfS m o n2 + su * ctO o (k + 1) = if 0 < o k then ho * lfS m o n2 + su * ctO o k + su else ho * lfS m o n2 + su * ctO o k) := hid (by
        rw [ctO_s]
        split
        · rw [Int.mul_add, Int.mul_one]; omega
        · rw [Int.add_zero])
      clear b1 b2 s1
      generalize ho * lfS m o n2 + su * ctO o k = s at *
      generalize o k = x at *
      by_cases hx : 0 < x
      · rw [if_pos hx] at HE
        go_wp2
        go_roundw
        case rel => exact ⟨k + 1, by omega, by rw [HE.out], by go_num, HH⟩
        case measure => simp [intOf]; omega
      · rw [if_neg hx] at HE
        go_wp2
        go_roundw
        case rel => exact ⟨k + 1, by omega, by rw [HE.out], by go_num, HH⟩
        case measure => simp [intOf]; omega
    · obtain rfl : k = n2 := by omega
      have lkk : ¬ (k : Int) < (k : Int) := by omega
      have HX : Hid (ho * lfS m o k + su * ctO o k = lcX ⟨ki, sz, su, ho⟩ m o k k) := hid (lcX_t HVT.out).symm
      generalize ho * lfS m o k + su * ctO o k = s at *
      go_wp2
      go_returns
      exact ⟨ret_ib HX.out HVT.out.symm, HH.out.2⟩
end Go.Proofs.Ytmbdeafpfdeigaa
