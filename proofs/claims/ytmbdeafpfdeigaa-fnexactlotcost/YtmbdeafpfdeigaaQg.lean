/- The model's LotCost. -/
import Derived.Test.YtmbdeafpfdeigaaQf
namespace Go.Proofs.Ytmbdeafpfdeigaa
open Go Go.ChangeShapes Go.WideShapes Go.ChangeAt Go.RowKit
set_option linter.unusedVariables false
set_option linter.unusedSimpArgs false

theorem lc_nq {m o : Nat → Int} {n n2 : Nat} (h : nqB m n = true) : (decide (n2 = n) && rgB 1000000 o n2) = (nqB o n2 && decide (n2 = n)) := by
  by_cases e : n2 = n
  · subst e
    have := nqB_p h
    have i : inB (n2 : Int) 1 40 = true := inB_y (by omega) (by omega)
    unfold nqB
    rw [i]; simp
  · rw [decide_eq_false e]; simp
set_option maxRecDepth 20000 in
set_option maxHeartbeats 4000000 in
theorem specLotCost_any (l : LT) (ad ao : Option Addr) (n cap n2 oc : Nat) (m o : Nat → Int) (w : World) (hn : (n : Int) ≤ 1048576) (hn2 : (n2 : Int) ≤ 1048576) (hr : IR w ad n m) (hor : IR w ao n2 o) :
    Calls Try.prog 49 #[l.val, .slice ad n cap, .slice ao n2 oc] w fun e w' => e = .returned (.tuple #[.int .i64 (lcX l m o n n2), .bool (lcB l m o n n2)]) ∧ Below w.heap.size w w' := by
  obtain ⟨ki, sz, su, ho⟩ := l
  unfold LT.val
  have HR : Hid (IR w ad n m) := hr
  have HO : Hid (IR w ao n2 o) := hor
  have HBL : Hid (Below w.heap.size w (w.alloc (.cells #[.int .i64 ki, .int .i64 sz, .int .i64 su, .int .i64 ho] 48 (0, 0)))) := (Below.refl _ _).alloc (Nat.le_refl _) _
  have HC : Hid (CB (w.alloc (.cells #[.int .i64 ki, .int .i64 sz, .int .i64 su, .int .i64 ho] 48 (0, 0))) w.heap.size #[.int .i64 ki, .int .i64 sz, .int .i64 su, .int .i64 ho] 48) := CB.new _ _
  clear hr hor
  cases hL : ltB ⟨ki, sz, su, ho⟩
  · have HL : Hid (ltB ⟨ki, sz, su, ho⟩ = false) := hL
    clear hL
    have HV : Hid (lcB ⟨ki, sz, su, ho⟩ m o n n2 = false) := hid (by unfold lcB; rw [HL.out]; simp)
    have HV2 : Hid (0 = lcX ⟨ki, sz, su, ho⟩ m o n n2) := hid (lcX_f HV.out).symm
    have t1 : True := trivial
    go_enter Try.func49, Try.ntmps49
    go_wp2_with (first | (go_at_call 81; refine (l18Lots_eq ⟨ki, sz, su, ho⟩ _ _ HL.out).mono ?_; rintro e w1 ⟨rfl, b1⟩; have HB1 : Hid (Below w.heap.size w w1) := hid (bel_on HBL.out b1); have HC1 := hid (HC.out.below b1 HC.out.lt); clear b1 t1))
    go_returns
    exact ⟨ret_ib HV2.out HV.out.symm, HB1.out⟩
  have HL : Hid (ltB ⟨ki, sz, su, ho⟩ = true) := hL
  cases hN : nqB m n
  · have HN : Hid (nqB m n = false) := hN
    clear hN hL
    have HV : Hid (lcB ⟨ki, sz, su, ho⟩ m o n n2 = false) := hid (by unfold lcB; rw [HN.out]; simp)
    have HV2 : Hid (0 = lcX ⟨ki, sz, su, ho⟩ m o n n2) := hid (lcX_f HV.out).symm
    have t1 : True := trivial
    have t2 : True := trivial
    go_enter Try.func49, Try.ntmps49
    go_wp2_with (first | (go_at_call 81; refine (l18Lots_eq ⟨ki, sz, su, ho⟩ _ _ HL.out).mono ?_; rintro e w1 ⟨rfl, b1⟩; have HB1 : Hid (Below w.heap.size w w1) := hid (bel_on HBL.out b1); have HC1 := hid (HC.out.below b1 HC.out.lt); clear b1 t1) | (go_at_call 82; clear t2; refine (l18List_eq ad n cap m _ _ hn (HR.out.below HB1.out) HN.out).mono ?_; rintro e w2 ⟨rfl, b2⟩; have HB2 : Hid (Below w.heap.size w w2) := hid (bel_on HB1.out b2); have HC2 := hid (HC1.out.below b2 HC1.out.lt); clear b2))
    go_returns
    exact ⟨ret_ib HV2.out HV.out.symm, HB2.out⟩
  have HN : Hid (nqB m n = true) := hN
  have HLN : Hid ((decide (n2 = n) && rgB 1000000 o n2) = (nqB o n2 && decide (n2 = n))) := lc_nq hN
  cases hQ : nqB o n2
  · have HQ : Hid (nqB o n2 = false) := hQ
    clear hN hL hQ
    have HV : Hid (lcB ⟨ki, sz, su, ho⟩ m o n n2 = false) := hid (by unfold lcB; rw [HLN.out, HQ.out]; simp)
    have HV2 : Hid (0 = lcX ⟨ki, sz, su, ho⟩ m o n n2) := hid (lcX_f HV.out).symm
    have t1 : True := trivial
    have t2 : True := trivial
    have t3 : True := trivial
    go_enter Try.func49, Try.ntmps49
    go_wp2_with (first | (go_at_call 81; refine (l18Lots_eq ⟨ki, sz, su, ho⟩ _ _ HL.out).mono ?_; rintro e w1 ⟨rfl, b1⟩; have HB1 : Hid (Below w.heap.size w w1) := hid (bel_on HBL.out b1); have HC1 := hid (HC.out.below b1 HC.out.lt); clear b1 t1) | (go_at_call 82; clear t2; refine (l18List_eq ad n cap m _ _ hn (HR.out.below HB1.out) HN.out).mono ?_; rintro e w2 ⟨rfl, b2⟩; have HB2 : Hid (Below w.heap.size w w2) := hid (bel_on HB1.out b2); have HC2 := hid (HC1.out.below b2 HC1.out.lt); clear b2) | (go_at_call 82; clear t3; refine (l18List_eq ao n2 oc o _ _ hn2 (HO.out.below HB2.out) HQ.out).mono ?_; rintro e w3 ⟨rfl, b3⟩; have HB3 : Hid (Below w.heap.size w w3) := hid (bel_on HB2.out b3); have HC3 := hid (HC2.out.below b3 HC2.out.lt); clear b3))
    go_returns
    exact ⟨ret_ib HV2.out HV.out.symm, HB3.out⟩
  have HQ : Hid (nqB o n2 = true) := hQ
  by_cases hne : n2 = n
  rotate_left
  · have h1 : ((n : Int) != (n2 : Int)) = true := by simp; omega
    have h2 : ¬ (n : Int) = (n2 : Int) := by omega
    have HNE : Hid (¬ n2 = n) := hne
    clear hN hL hQ hne
    have HV : Hid (lcB ⟨ki, sz, su, ho⟩ m o n n2 = false) := hid (by unfold lcB; rw [decide_eq_false HNE.out]; simp)
    have HV2 : Hid (0 = lcX ⟨ki, sz, su, ho⟩ m o n n2) := hid (lcX_f HV.out).symm
    have t1 : True := trivial
    have t2 : True := trivial
    have t3 : True := trivial
    go_enter Try.func49, Try.ntmps49
    go_wp2_with (first | (go_at_call 81; refine (l18Lots_eq ⟨ki, sz, su, ho⟩ _ _ HL.out).mono ?_; rintro e w1 ⟨rfl, b1⟩; have HB1 : Hid (Below w.heap.size w w1) := hid (bel_on HBL.out b1); have HC1 := hid (HC.out.below b1 HC.out.lt); clear b1 t1) | (go_at_call 82; clear t2; refine (l18List_eq ad n cap m _ _ hn (HR.out.below HB1.out) HN.out).mono ?_; rintro e w2 ⟨rfl, b2⟩; have HB2 : Hid (Below w.heap.size w w2) := hid (bel_on HB1.out b2); have HC2 := hid (HC1.out.below b2 HC1.out.lt); clear b2) | (go_at_call 82; clear t3; refine (l18List_eq ao n2 oc o _ _ hn2 (HO.out.below HB2.out) HQ.out).mono ?_; rintro e w3 ⟨rfl, b3⟩; have HB3 : Hid (Below w.heap.size w w3) := hid (bel_on HB2.out b3); have HC3 := hid (HC2.out.below b3 HC2.out.lt); clear b3))
    go_returns
    exact ⟨ret_ib HV2.out HV.out.symm, HB3.out⟩
  subst hne
  have HQB : Hid (QB n2 m o) := hid ⟨(nqB_p hN).2.1, (nqB_p hN).2.2, (nqB_p hQ).2.2⟩
  have HLC : Hid (lcB ⟨ki, sz, su, ho⟩ m o n2 n2 = cvB m o n2) := hid (by unfold lcB; rw [HL.out, HN.out, HLN.out, HQ.out]; simp)
  have HBD : Hid (∀ k, k ≤ n2 → (-2000000000000 ≤ ho * lfS m o k ∧ ho * lfS m o k ≤ 2000000000000) ∧ (0 ≤ su * ctO o k ∧ su * ctO o k ≤ 400000000)) := hid (lc_bd (l := ⟨ki, sz, su, ho⟩) hL HQB.out)
  have h40 : (n2 : Int) ≤ 40 := by have := HQB.out.1; omega
  have HSU : Hid ((0 ≤ su ∧ su ≤ 10000000) ∧ (0 ≤ ho ∧ ho ≤ 1000)) := hid (ltB_p hL).2.2
  clear hN hL hQ
  have t1 : True := trivial
  have t2 : True := trivial
  have t3 : True := trivial
  go_enter Try.func49, Try.ntmps49
  go_wp2_with (first | (go_at_call 81; refine (l18Lots_eq ⟨ki, sz, su, ho⟩ _ _ HL.out).mono ?_; rintro e w1 ⟨rfl, b1⟩; have HB1 : Hid (Below w.heap.size w w1) := hid (bel_on HBL.out b1); have HC1 := hid (HC.out.below b1 HC.out.lt); clear b1 t1) | (go_at_call 82; clear t2; refine (l18List_eq ad n2 cap m _ _ hn2 (HR.out.below HB1.out) HN.out).mono ?_; rintro e w2 ⟨rfl, b2⟩; have HB2 : Hid (Below w.heap.size w w2) := hid (bel_on HB1.out b2); have HC2 := hid (HC1.out.below b2 HC1.out.lt); clear b2) | (go_at_call 82; clear t3; refine (l18List_eq ao n2 oc o _ _ hn2 (HO.out.below HB2.out) HQ.out).mono ?_; rintro e w3 ⟨rfl, b3⟩; have HB3 : Hid (Below w.heap.size w w3) := hid (bel_on HB2.out b3); have HC3 := hid (HC2.out.below b3 HC2.out.lt); clear b3))
  have HC2 : Hid (w3.cell? ⟨w.heap.size, 2, none⟩ = some (.int .i64 su) ∧ w3.cell? ⟨w.heap.size, 3, none⟩ = some (.int .i64 ho)) := hid ⟨(HC3.out.cell 2).trans rfl, (HC3.out.cell 3).trans rfl⟩
  have HBZ : Hid (Below w.heap.size w w3) := HB3
  clear HC1 HC HBL HB1 HB2 HC3 HB3
  go_loopw [8, 9] (fun u i wr => ∃ k : Nat, k ≤ n2 ∧ u = .int .i64 (ho * lfS m o k + su * ctO o k) ∧ i = .int .i64 (k : Int) ∧ Hid (wr.cell? ⟨w.heap.size, 2, none⟩ = some (.int .i64 su) ∧ wr.cell? ⟨w.heap.size, 3, none⟩ = some (.int .i64 ho) ∧ Below w.heap.size w wr ∧ ∀ j, j < k → 0 ≤ lfF m o j)) (fun _ i _ => n2 - (intOf i).toNat)
  case atStart => exact ⟨0, Nat.zero_le _, by show _ = Value.int .i64 (ho * 0 + su * 0); simp, rfl, hid ⟨HC2.out.1, HC2.out.2, HBZ.out, fun j hj => by omega⟩⟩
  case round =>
    obtain ⟨k, hk, rfl, rfl, HH⟩ := hrel
    by_cases hlt : k < n2
    · have hlt2 : (k : Int) < (n2 : Int) := by omega
      obtain ⟨kb, off, rfl, _⟩ := HO.out.addr (by omega)
      have HRW : Hid (IR wr ad n2 m ∧ IR wr (some ⟨kb, off, none⟩) n2 o) := hid ⟨HR.out.below HH.out.2.2.1, HO.out.below HH.out.2.2.1⟩
      have c0 := HRW.out.2.cell hlt
      have k2 := HH.out.1
      have k3 := HH.out.2.1
      have HS1 : Hid (∀ v, v = ((k + 1 : Nat) : Int) → Calls Try.prog 83 #[.slice (some ⟨kb, off, none⟩) n2 oc, .int .i64 0, .int .i64 v] wr fun e w' => e = .returned (.int .i64 (smQ o (k + 1))) ∧ w' = wr) := hid (fun v hv => by
        have := l18Sum_eq (some ⟨kb, off, none⟩) n2 oc o 0 (k + 1) 0 v rfl hv wr (by omega) (by omega) (smB_q HQB.out.1 HQB.out.2.2) HRW.out.2
        rwa [rsV_0 (by omega)] at this)
      have HS2 : Hid (∀ v, v = ((k + 1 : Nat) : Int) → Calls Try.prog 83 #[.slice ad n2 cap, .int .i64 0, .int .i64 v] wr fun e w' => e = .returned (.int .i64 (smQ m (k + 1))) ∧ w' = wr) := hid (fun v hv => by
        have := l18Sum_eq ad n2 cap m 0 (k + 1) 0 v rfl hv wr (by omega) (by omega) (smB_q HQB.out.1 HQB.out.2.1) HRW.out.1
        rwa [rsV_0 (by omega)] at this)
      have b1 := (HBD.out k (by omega)).1
      have b2 := (HBD.out k (by omega)).2
      have b3 := (HBD.out (k + 1) (by omega)).1
      have s1 := HSU.out
      have f1 := lfF_bd HQB.out.2.1 HQB.out.2.2 hlt HQB.out.1
      have HF : Hid (lfF m o k = smQ o (k + 1) - smQ m (k + 1)) := rfl
      have hw1 : IntKind.i64.wrap (ho * lfS m o k + su * ctO o k + su) = ho * lfS m o k + su * ctO o k + su := IntWalk.i64_in _ ⟨by omega, by omega⟩
      have hw2 : IntKind.i64.wrap (smQ o (k + 1) - smQ m (k + 1)) = lfF m o k := IntWalk.i64_in _ ⟨by show _ ≤ lfF m o k; omega, by show lfF m o k ≤ _; omega⟩
      have e1 : ho * lfS m o (k + 1) = ho * lfS m o k + lfF m o k * ho := by rw [lfS_s, Int.mul_add, Int.mul_comm ho (lfF m o k)]
      have hw3 : IntKind.i64.wrap (lfF m o k * ho) = lfF m o k * ho := IntWalk.i64_in _ ⟨by omega, by omega⟩
      have hw4 : IntKind.i64.wrap (ho * lfS m o k + su * ctO o k + lfF m o k * ho) = ho * lfS m o k + su * ctO o k + lfF m o k * ho := IntWalk.i64_in _ ⟨by omega, by omega⟩
      have hw5 : IntKind.i64.wrap (ho * lfS m o k + su * ctO o k + su + lfF m o k * ho) = ho * lfS m o k + su * ctO o k + su + lfF m o k * ho := IntWalk.i64_in _ ⟨by omega, by omega⟩
      have HE : Hid (ho * lfS m o (k + 1) + su * ctO o (k + 1) = if 0 < o k then ho * lfS m o k + su * ctO o k + su + lfF m o k * ho else ho * lfS m o k + su * ctO o k + lfF m o k * ho) := hid (by
        rw [e1, ctO_s]
        split
        · rw [Int.mul_add, Int.mul_one]; omega
        · rw [Int.add_zero]; omega)
      have HG : Hid (0 ≤ lfF m o k → ∀ j, j < k + 1 → 0 ≤ lfF m o j) := hid (fun g j hj => by
        by_cases q : j = k
        · subst q; exact g
        · exact HH.out.2.2.2 j (by omega))
      have HBAD : Hid (lfF m o k < 0 → lcB ⟨ki, sz, su, ho⟩ m o n2 n2 = false) := hid (fun g => by rw [HLC.out]; exact cvB_f n2 hlt g)
      clear b1 b2 b3 s1 f1 e1
      generalize lfF m o k = F at *
      generalize smQ o (k + 1) = A at *
      generalize smQ m (k + 1) = B at *
      generalize o k = x at *
      by_cases hx : 0 < x
      · rw [if_pos hx] at HE
        by_cases hf : F < 0
        · have HV : Hid (lcB ⟨ki, sz, su, ho⟩ m o n2 n2 = false) := hid (HBAD.out hf)
          have HV2 : Hid (0 = lcX ⟨ki, sz, su, ho⟩ m o n2 n2) := hid (lcX_f HV.out).symm
          have q1 : True := trivial
          go_wp2_with (first | (go_at_call 83; clear q1; refine (HS1.out _ (by omega)).mono ?_; rintro e w5 ⟨rfl, ew⟩; replace ew := ew.symm; subst ew) | (go_at_call 83; refine (HS2.out _ (by omega)).mono ?_; rintro e w5 ⟨rfl, ew⟩; replace ew := ew.symm; subst ew))
          go_returns
          exact ⟨ret_ib HV2.out HV.out.symm, HH.out.2.2.1⟩
        · have HP : Hid (0 ≤ F) := hid (by omega)
          have q1 : True := trivial
          go_wp2_with (first | (go_at_call 83; clear q1; refine (HS1.out _ (by omega)).mono ?_; rintro e w5 ⟨rfl, ew⟩; replace ew := ew.symm; subst ew) | (go_at_call 83; refine (HS2.out _ (by omega)).mono ?_; rintro e w5 ⟨rfl, ew⟩; replace ew := ew.symm; subst ew))
          go_roundw
          case rel => exact ⟨k + 1, by omega, by rw [HE.out], by go_num, hid ⟨HH.out.1, HH.out.2.1, HH.out.2.2.1, HG.out HP.out⟩⟩
          case measure => simp [intOf]; omega
      · rw [if_neg hx] at HE
        by_cases hf : F < 0
        · have HV : Hid (lcB ⟨ki, sz, su, ho⟩ m o n2 n2 = false) := hid (HBAD.out hf)
          have HV2 : Hid (0 = lcX ⟨ki, sz, su, ho⟩ m o n2 n2) := hid (lcX_f HV.out).symm
          have q1 : True := trivial
          go_wp2_with (first | (go_at_call 83; clear q1; refine (HS1.out _ (by omega)).mono ?_; rintro e w5 ⟨rfl, ew⟩; replace ew := ew.symm; subst ew) | (go_at_call 83; refine (HS2.out _ (by omega)).mono ?_; rintro e w5 ⟨rfl, ew⟩; replace ew := ew.symm; subst ew))
          go_returns
          exact ⟨ret_ib HV2.out HV.out.symm, HH.out.2.2.1⟩
        · have HP : Hid (0 ≤ F) := hid (by omega)
          have q1 : True := trivial
          go_wp2_with (first | (go_at_call 83; clear q1; refine (HS1.out _ (by omega)).mono ?_; rintro e w5 ⟨rfl, ew⟩; replace ew := ew.symm; subst ew) | (go_at_call 83; refine (HS2.out _ (by omega)).mono ?_; rintro e w5 ⟨rfl, ew⟩; replace ew := ew.symm; subst ew))
          go_roundw
          case rel => exact ⟨k + 1, by omega, by rw [HE.out], by go_num, hid ⟨HH.out.1, HH.out.2.1, HH.out.2.2.1, HG.out HP.out⟩⟩
          case measure => simp [intOf]; omega
    · obtain rfl : k = n2 := by omega
      have lkk : ¬ (k : Int) < (k : Int) := by omega
      have HVT : Hid (lcB ⟨ki, sz, su, ho⟩ m o k k = true) := hid (by rw [HLC.out]; exact cvB_t k HH.out.2.2.2)
      have HX : Hid (ho * lfS m o k + su * ctO o k = lcX ⟨ki, sz, su, ho⟩ m o k k) := hid (lcX_t HVT.out).symm
      generalize ho * lfS m o k + su * ctO o k = s at *
      go_wp2
      go_returns
      exact ⟨ret_ib HX.out HVT.out.symm, HH.out.2.2.1⟩
end Go.Proofs.Ytmbdeafpfdeigaa
