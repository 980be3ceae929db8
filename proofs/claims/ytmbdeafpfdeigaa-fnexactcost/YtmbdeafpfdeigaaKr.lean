/- Cost of the model. -/
import Derived.Test.YtmbdeafpfdeigaaKq
import Derived.Test.YtmbdeafpfdeigaaKm
import Derived.Test.YtmbdeafpfdeigaaKn
namespace Go.Proofs.Ytmbdeafpfdeigaa
open Go Go.ChangeShapes Go.WideShapes Go.ChangeAt Go.RowKit
set_option linter.unusedVariables false
set_option linter.unusedSimpArgs false

set_option maxRecDepth 20000 in
set_option maxHeartbeats 8000000 in
theorem specCost_any (ad ap : Option Addr) (n cap m pc : Nat) (c : Nat → IT) (z : Nat → Int) (a q d : Int) (w : World) (h : (n : Int) ≤ 1048576) (h2 : (m : Int) ≤ 1048576) (hz : IZ n c) (hr : ITr w ad n c) (hp : IR w ap m z) :
    Calls Try.prog 27 #[.slice ad n cap, .slice ap m pc, .int .i64 a, .int .i64 q, .int .i64 d] w fun e w' => e = .returned (.tuple #[.int .i64 (coV n m c z a q d), .bool (coB n m c z a q d)]) ∧ Below w.heap.size w w' := by
  have HR : Hid (ITr w ad n c) := hr
  have HZ : Hid (IZ n c) := hz
  have HP : Hid (IR w ap m z) := hp
  have HEX := hid (specExplode_any ad n cap c a q d w h hz hr)
  have HF : Hid (coB n m c z a q d = false → coV n m c z a q d = 0) := hid co_f
  clear hr hz hp
  cases hE : rkB eoB n c a q d
  · have HV : Hid (coB n m c z a q d = false) := hid (by unfold coB; rw [hE]; rfl)
    have HE2 : Hid (Calls Try.prog 23 #[.slice ad n cap, .int .i64 a, .int .i64 q, .int .i64 d] w fun e w' => ∃ ad cap, e = .returned (.tuple #[.slice ad 0 cap, .bool false]) ∧ Below w.heap.size w w') := hid (HEX.out.mono (by
      rintro e w' ⟨x1, x2, x3, _, x4⟩
      refine ⟨x1, x2, ?_, x4⟩
      rw [x3]; unfold rkM; rw [hE]; rfl))
    clear HEX hE
    rw [HF.out HV.out, HV.out]
    go_enter Try.func27, Try.ntmps27
    go_wp2_with (go_at_call 23; refine HE2.out.mono ?_; rintro e w1 ⟨x1, x2, rfl, b1⟩; have HB1 : Hid (Below w.heap.size w w1) := b1; clear b1)
    go_returns
    exact ⟨rfl, HB1.out⟩
  obtain ⟨hak, hEQ⟩ := eoF_q hE
  have hn60 : (n : Int) ≤ 60 := by have := (isB_p (akB_p hak).1).1; omega
  have HK : Hid (coB n m c z a q d = (decide (m = n) && (prB z m && (csB n c d (eoF n c d a.toNat q) n && inB (csV n c d z (eoF n c d a.toNat q) n) 0 100000000000)))) := hid (by unfold coB; rw [hE]; rfl)
  have HKV : Hid (coB n m c z a q d = true → coV n m c z a q d = csV n c d z (eoF n c d a.toNat q) n) := hid (fun h => by unfold coV; rw [h]; rfl)
  have HE2 : Hid (Calls Try.prog 23 #[.slice ad n cap, .int .i64 a, .int .i64 q, .int .i64 d] w fun e w' => ∃ ad cap, e = .returned (.tuple #[.slice ad n cap, .bool true]) ∧ IR w' ad n (eoF n c d a.toNat q) ∧ Below w.heap.size w w') := hid (HEX.out.mono (by
      have e1 : rkM eoB n c a q d = n := by unfold rkM; rw [hE]; rfl
      rintro e w' ⟨x1, x2, x3, x5, x4⟩
      rw [e1] at x3 x5
      exact ⟨x1, x2, by rw [x3, hE], x5.row, x4⟩))
  have HAK : Hid (akB n c a q d = true) := hak
  have HEQ : Hid (FQ (eoF n c d a.toNat q)) := hEQ
  clear HEX hE hak hEQ
  generalize eoF n c d a.toNat q = E at *
  by_cases hmn : m = n
  · subst hmn
    rw [decide_eq_true rfl, Bool.true_and] at HK
    have hnn : ((m : Int) != (m : Int)) = false := by simp
    obtain ⟨TV, hTV⟩ : ∃ b, coB m m c z a q d = b := ⟨_, rfl⟩
    obtain ⟨CV, hCV⟩ : ∃ x, coV m m c z a q d = x := ⟨_, rfl⟩
    rw [hTV] at HK HF HKV
    rw [hCV] at HF HKV
    rw [hTV, hCV]
    clear hTV hCV
    go_enter Try.func27, Try.ntmps27
    go_wp2_with (go_at_call 23; refine HE2.out.mono ?_; rintro e w1 ⟨ea, ec, rfl, r1, b1⟩; have HB1 : Hid (Below w.heap.size w w1 ∧ IR w1 ea m E) := hid ⟨b1, r1⟩; clear b1 r1)
    clear HE2
    go_loopw [15] (fun v wr => ∃ k : Nat, k ≤ m ∧ v = .int .i64 (k : Int) ∧ Hid (prB z k = true ∧ Below w.heap.size w wr ∧ IR wr ea m E)) (fun v _ => m - (intOf v).toNat)
    case atStart => exact ⟨0, Nat.zero_le _, rfl, hid ⟨rfl, HB1.out⟩⟩
    case round =>
      clear HB1
      obtain ⟨k, hk, rfl, HH⟩ := hrel
      obtain ⟨wo, rfl⟩ : ∃ x, x = wr := ⟨wr, rfl⟩
      by_cases hlt : k < m
      · have hlt2 : (k : Int) < (m : Int) := by omega
        obtain ⟨pb, po, rfl, _⟩ := HP.out.addr (by omega)
        have k0 := (HP.out.below HH.out.2.1).cell hlt
        have HNB : Hid (prB z (k + 1) = inB (z k) 0 100000) := hid (by show (prB z k && _) = _; rw [HH.out.1]; rfl)
        have HMO : Hid (inB (z k) 0 100000 = false → prB z m = false) := hid (fun h => prB_f m hlt h)
        generalize z k = X at *
        obtain ⟨v, hv⟩ : ∃ b, inB X 0 100000 = b := ⟨_, rfl⟩
        rw [hv] at HNB HMO
        have HX : Hid (inB X 0 100000 = v) := hv
        clear hv
        cases v
        · obtain rfl : TV = false := by rw [HK.out, HMO.out rfl]; rfl
          obtain rfl : CV = 0 := HF.out rfl
          go_wp2_with (go_at_call 66; refine (l12Price_eq _ _ _ HX.out).mono ?_; rintro e w6 ⟨rfl, ew⟩; replace ew := ew.symm; subst ew)
          go_returns
          exact ⟨rfl, HH.out.2.1⟩
        · have HN : Hid (prB z (k + 1) = true ∧ Below w.heap.size w wo ∧ IR wo ea m E) := hid ⟨HNB.out, HH.out.2⟩
          go_wp2_with (go_at_call 66; refine (l12Price_eq _ _ _ HX.out).mono ?_; rintro e w6 ⟨rfl, ew⟩; replace ew := ew.symm; subst ew)
          go_roundw
          case rel => exact ⟨k + 1, by omega, by go_num, HN⟩
          case measure => simp [intOf]; omega
      · obtain rfl : k = m := by omega
        have lkk : ¬ (k : Int) < (k : Int) := by omega
        rw [HH.out.1, Bool.true_and] at HK
        have HZB : Hid (∀ j, j < k → 0 ≤ z j ∧ z j ≤ 100000) := hid (prB_p k HH.out.1)
        have HB2 : Hid (Below w.heap.size w wo ∧ IR wo ea k E) := hid HH.out.2
        clear HH
        go_wp2
        go_loopw [14, 16] (fun u v wr => ∃ p : Nat, p ≤ k ∧ u = .int .i64 (csV k c d z E p) ∧ v = .int .i64 (p : Int) ∧ Hid (csB k c d E p = true ∧ Below w.heap.size w wr ∧ IR wr ea k E)) (fun _ v _ => k - (intOf v).toNat)
        case atStart => exact ⟨0, Nat.zero_le _, rfl, rfl, hid ⟨rfl, HB2.out.1, HB2.out.2⟩⟩
        case round =>
          clear HB2 wo
          obtain ⟨p, hp, rfl, rfl, HH⟩ := hrel
          obtain ⟨wo, rfl⟩ : ∃ x, x = wr := ⟨wr, rfl⟩
          have cb := csV_bd hn60 HEQ.out HZB.out p hp HH.out.1
          by_cases hlt : p < k
          · have hlt2 : (p : Int) < (k : Int) := by omega
            obtain ⟨g1, g2, g3, g4, g5⟩ := isB_it (akB_p HAK.out).1 hlt
            obtain ⟨kb, off, rfl, hkb⟩ := HR.out.addr (by omega)
            obtain ⟨ra, rc, sa, sc, _, _, c0, c1, c2, c3, c4, r5, r6⟩ := (HR.out.below HH.out.2.1).cell hlt
            obtain ⟨kc, of2, rfl, _⟩ := HH.out.2.2.addr (by omega)
            obtain ⟨pb, po, rfl, _⟩ := HP.out.addr (by omega)
            have HEC : Hid (∀ W, Below wo.heap.size wo W → W.cell? ⟨kc, of2 + p, none⟩ = some (.int .i64 (E p)) ∧ W.cell? ⟨pb, po + p, none⟩ = some (.int .i64 (z p))) := hid (fun W b => ⟨(HH.out.2.2.below b).cell hlt, ((HP.out.below HH.out.2.1).below b).cell hlt⟩)
            have HCO : Hid (Calls Try.prog 59 #[.slice ra (c p).parn rc, .int .i64 d] wo fun e w' => ∃ ad2 oc, e = .returned (.slice ad2 (cnN (c p).parz d (c p).parn) oc) ∧ Below wo.heap.size wo w') := hid ((l17Counting_any ra _ rc _ d wo (by omega) r5 (fun j hj => (g4 j hj).1.2.2.2)).mono (by rintro e w' ⟨x1, x2, x3, _, x4⟩; exact ⟨x1, x2, x3, x4⟩))
            have HOU : Hid (∀ W, Below wo.heap.size wo W → Calls Try.prog 44 #[.slice (some ⟨kb, off, none⟩) k cap, .int .i64 (p : Int), .int .i64 (E p), .int .i64 d] W fun e w' => ∃ ad cap, e = .returned (.tuple #[.slice ad (if ouB k c d p (E p) = true then k else 0) cap, .bool (ouB k c d p (E p))]) ∧ OwnI w' W.heap.size ad (if ouB k c d p (E p) = true then k else 0) (ouF k c d p (E p)) ∧ Below W.heap.size W w') := hid (fun W b => by
              have := specOutput_any (some ⟨kb, off, none⟩) k cap c (p : Int) (E p) d W (by omega) HZ.out ((HR.out.below HH.out.2.1).below b)
              rw [(rk_ou HAK.out hlt (HEQ.out p)).1, (rk_ou HAK.out hlt (HEQ.out p)).2, Int.toNat_natCast] at this
              exact this)
            have HNB : Hid (csB k c d E (p + 1) = ocB k c d p (E p)) := hid (by show (csB k c d E p && _) = _; rw [HH.out.1]; rfl)
            have HNV : Hid (csV k c d z E (p + 1) = csV k c d z E p + ocV k c d z p (E p)) := rfl
            have HMO : Hid (csB k c d E (p + 1) = false → csB k c d E k = false) := hid (fun h => csB_mono _ (by omega) h)
            have HOQ : Hid (ouB k c d p (E p) = true → FQ (ouF k c d p (E p))) := hid ouF_q
            have hxe := HEQ.out p
            have hze := HZB.out p hlt
            clear g1 g2 g3 g4 g5 r5 r6 c0 c1 c2 c4
            unfold ocB at HNB
            unfold ocV at HNV
            generalize ouB k c d p (E p) = OB at HOU HNB HOQ
            generalize ouF k c d p (E p) = O at HOU HNV HOQ
            generalize cnN (c p).parz d (c p).parn = N at HCO HNB HNV
            generalize (c p).parn = rn at c3 HCO
            generalize csV k c d z E p = SS at *
            by_cases hm : 0 < N
            · have hm2 : ¬ (N : Int) = 0 := by omega
              have hm3 : ((N : Int) == 0) = false := by simp; omega
              rw [if_pos hm] at HNB HNV
              cases OB
              · obtain rfl : TV = false := by rw [HK.out, HMO.out HNB.out]; rfl
                obtain rfl : CV = 0 := HF.out rfl
                have HO2 : Hid (∀ W, Below wo.heap.size wo W → Calls Try.prog 44 #[.slice (some ⟨kb, off, none⟩) k cap, .int .i64 (p : Int), .int .i64 (E p), .int .i64 d] W fun e w' => ∃ ad cap, e = .returned (.tuple #[.slice ad 0 cap, .bool false]) ∧ Below W.heap.size W w') := hid (fun W b => (HOU.out W b).mono (by rintro e w' ⟨x1, x2, x3, _, x4⟩; exact ⟨x1, x2, x3, x4⟩))
                clear HOU
                generalize E p = X at *
                go_wp2_with (first
                  | (go_at_call 59; refine HCO.out.mono ?_; rintro e w1 ⟨ad2, oc, rfl, b1⟩; have HB1 : Hid (Below wo.heap.size wo w1) := b1; clear b1; have k0 := (HEC.out w1 HB1.out).1)
                  | (go_at_call 44; refine (HO2.out _ HB1.out).mono ?_; rintro e w2 ⟨oa, ob, rfl, b2⟩; have HB2 : Hid (Below w.heap.size w w2) := hid (bel_on HH.out.2.1 (bel_on HB1.out b2)); clear b2))
                go_returns
                exact ⟨rfl, HB2.out⟩
              · have HQ : Hid (FQ O) := hid (HOQ.out rfl)
                have HO2 : Hid (∀ W, Below wo.heap.size wo W → Calls Try.prog 44 #[.slice (some ⟨kb, off, none⟩) k cap, .int .i64 (p : Int), .int .i64 (E p), .int .i64 d] W fun e w' => ∃ ad cap, e = .returned (.tuple #[.slice ad k cap, .bool true]) ∧ OwnI w' W.heap.size ad k O ∧ Below W.heap.size W w') := HOU
                clear HOU HOQ
                obtain ⟨X, hX⟩ : ∃ x, E p = x := ⟨_, rfl⟩
                rw [hX] at HEC HO2
                clear hX
                go_wp2_with (first
                  | (go_at_call 59; refine HCO.out.mono ?_; rintro e w1 ⟨ad2, oc, rfl, b1⟩; have HB1 : Hid (Below wo.heap.size wo w1) := b1; clear b1; have k0 := (HEC.out w1 HB1.out).1)
                  | (go_at_call 44; refine (HO2.out _ HB1.out).mono ?_; rintro e w2 ⟨oa, ob, rfl, o2, b2⟩; have HB2 : Hid (Below w.heap.size w w2 ∧ IR w2 oa k O ∧ IR w2 (some ⟨kc, of2, none⟩) k E) := hid ⟨bel_on HH.out.2.1 (bel_on HB1.out b2), o2.row, HH.out.2.2.below (bel_on HB1.out b2)⟩; clear b2 o2))
                clear HCO HO2 HEC
                have HCS : Hid (csB k c d E (p + 1) = true) := HNB
                go_loopw [14, 19] (fun u v wr => ∃ r : Nat, r ≤ k ∧ u = .int .i64 (SS - osF O z p r) ∧ v = .int .i64 (r : Int) ∧ Hid (Below w.heap.size w wr ∧ IR wr oa k O ∧ IR wr (some ⟨kc, of2, none⟩) k E)) (fun _ v _ => k - (intOf v).toNat)
                case atStart => exact ⟨0, Nat.zero_le _, by first | rfl | simp [osF], rfl, HB2⟩
                case round =>
                  clear HB2 HB1 HH
                  obtain ⟨r, hr, rfl, rfl, HG⟩ := hrel
                  obtain ⟨wi, rfl⟩ : ∃ x, x = wr := ⟨wr, rfl⟩
                  have s0 := osF_bd (i := p) HQ.out HZB.out r (by omega)
                  by_cases hlr : r < k
                  · have hlr2 : (r : Int) < (k : Int) := by omega
                    obtain ⟨kd, of3, rfl, _⟩ := HG.out.2.1.addr (by omega)
                    have k0 := HG.out.2.1.cell hlr
                    have k1 := (HP.out.below HG.out.1).cell hlr
                    have q0 := HQ.out r
                    have q1 := HZB.out r hlr
                    have p0 : 0 ≤ O r * z r := Int.mul_nonneg q0.1 q1.1
                    have p1 : O r * z r ≤ 1000000 * 100000 := Int.le_trans (Int.mul_le_mul_of_nonneg_right q0.2 q1.1) (Int.mul_le_mul_of_nonneg_left q1.2 (by omega))
                    have HSV : Hid (osF O z p (r + 1) = if r = p then osF O z p r else osF O z p r + O r * z r) := rfl
                    generalize osF O z p r = ST at *
                    generalize O r = OK at *
                    generalize z r = ZK at *
                    have hw1 : IntKind.i64.wrap (OK * ZK) = OK * ZK := IntWalk.i64_in _ ⟨by omega, by omega⟩
                    have hw2 : IntKind.i64.wrap (SS - ST - OK * ZK) = SS - ST - OK * ZK := IntWalk.i64_in _ ⟨by omega, by omega⟩
                    by_cases hki : r = p
                    · rw [if_pos hki] at HSV
                      subst hki
                      have hki2 : ((r : Int) != (r : Int)) = false := by simp
                      go_wp2
                      go_roundw
                      case rel => exact ⟨r + 1, by omega, by rw [HSV.out], by go_num, HG⟩
                      case measure => simp [intOf]; omega
                    · rw [if_neg hki] at HSV
                      have hki2 : ((r : Int) != (p : Int)) = true := by simp; omega
                      have hki3 : ¬ (r : Int) = (p : Int) := by omega
                      have HGD : Hid (Below w.heap.size w wi.drew ∧ IR wi.drew (some ⟨kd, of3, none⟩) k O ∧ IR wi.drew (some ⟨kc, of2, none⟩) k E) := hid ⟨HG.out.1.drew, HG.out.2.1.below (Below.refl _ _).drew, HG.out.2.2.below (Below.refl _ _).drew⟩
                      go_wp2
                      go_region
                      go_wp2
                      go_roundw
                      case rel => exact ⟨r + 1, by omega, by rw [HSV.out]; congr 1; omega, by go_num, HGD⟩
                      case measure => simp [intOf]; omega
                  · obtain rfl : r = k := by omega
                    have lkk2 : ¬ (r : Int) < (r : Int) := by omega
                    have HN : Hid (csB r c d E (p + 1) = true ∧ Below w.heap.size w wi ∧ IR wi (some ⟨kc, of2, none⟩) r E) := hid ⟨HCS.out, HG.out.1, HG.out.2.2⟩
                    go_wp2
                    go_roundw
                    case rel => exact ⟨p + 1, by omega, by rw [HNV.out]; congr 1, by go_num, HN⟩
                    case measure => simp [intOf]; omega
            · obtain rfl : N = 0 := by omega
              rw [if_neg hm] at HNB HNV
              clear HOU HOQ
              have p0 : 0 ≤ E p * z p := Int.mul_nonneg hxe.1 hze.1
              have p1 : E p * z p ≤ 1000000 * 100000 := Int.le_trans (Int.mul_le_mul_of_nonneg_right hxe.2 hze.1) (Int.mul_le_mul_of_nonneg_left hze.2 (by omega))
              obtain ⟨X, hX⟩ : ∃ x, E p = x := ⟨_, rfl⟩
              obtain ⟨Z, hZ⟩ : ∃ x, z p = x := ⟨_, rfl⟩
              rw [hX] at HEC HNV p0 p1
              rw [hZ] at HEC HNV p0 p1
              clear hX hZ
              have hw1 : IntKind.i64.wrap (X * Z) = X * Z := IntWalk.i64_in _ ⟨by omega, by omega⟩
              have hw2 : IntKind.i64.wrap (SS + X * Z) = SS + X * Z := IntWalk.i64_in _ ⟨by omega, by omega⟩
              go_wp2_with (go_at_call 59; refine HCO.out.mono ?_; rintro e w1 ⟨ad2, oc, rfl, b1⟩; obtain ⟨k0, k1⟩ := HEC.out w1 b1; have HN : Hid (csB k c d E (p + 1) = true ∧ Below w.heap.size w w1 ∧ IR w1 (some ⟨kc, of2, none⟩) k E) := hid ⟨HNB.out, bel_on HH.out.2.1 b1, HH.out.2.2.below b1⟩; clear b1)
              have HND : Hid (csB k c d E (p + 1) = true ∧ Below w.heap.size w w1.drew ∧ IR w1.drew (some ⟨kc, of2, none⟩) k E) := hid ⟨HN.out.1, HN.out.2.1.drew, HN.out.2.2.below (Below.refl _ _).drew⟩
              go_region
              go_wp2
              go_roundw
              case rel => exact ⟨p + 1, by omega, by rw [HNV.out], by go_num, HND⟩
              case measure => simp [intOf]; omega
          · obtain rfl : p = k := by omega
            have lpp : ¬ (p : Int) < (p : Int) := by omega
            rw [HH.out.1, Bool.true_and] at HK
            generalize csV p c d z E p = SS at *
            have HAM : Hid (inB SS 0 100000000000 = TV) := hid HK.out.symm
            cases TV
            · obtain rfl : CV = 0 := HF.out rfl
              go_wp2_with (go_at_call 67; refine (l1In_eq _ _ _ _ _ HAM.out).mono ?_; rintro e w6 ⟨rfl, ew⟩; replace ew := ew.symm; subst ew)
              go_returns
              exact ⟨rfl, HH.out.2.1⟩
            · obtain rfl : CV = SS := HKV.out rfl
              go_wp2_with (go_at_call 67; refine (l1In_eq _ _ _ _ _ HAM.out).mono ?_; rintro e w6 ⟨rfl, ew⟩; replace ew := ew.symm; subst ew)
              go_returns
              exact ⟨rfl, HH.out.2.1⟩
  · have hmn1 : ((m : Int) != (n : Int)) = true := by simp; omega
    have hmn2 : ¬ (m : Int) = (n : Int) := by omega
    have HV : Hid (coB n m c z a q d = false) := hid (by rw [HK.out, decide_eq_false hmn]; rfl)
    clear HK HKV
    rw [HF.out HV.out, HV.out]
    go_enter Try.func27, Try.ntmps27
    go_wp2_with (go_at_call 23; refine HE2.out.mono ?_; rintro e w1 ⟨x1, x2, rfl, _, b1⟩; have HB1 : Hid (Below w.heap.size w w1) := b1; clear b1)
    go_returns
    exact ⟨rfl, HB1.out⟩
end Go.Proofs.Ytmbdeafpfdeigaa
