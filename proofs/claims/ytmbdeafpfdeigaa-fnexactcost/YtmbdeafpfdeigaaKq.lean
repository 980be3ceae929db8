/- Cost of the program. -/
import Derived.Test.YtmbdeafpfdeigaaKp
namespace Go.Proofs.Ytmbdeafpfdeigaa
open Go Go.ChangeShapes Go.WideShapes Go.ChangeAt Go.RowKit
set_option linter.unusedVariables false
set_option linter.unusedSimpArgs false

noncomputable def coB (n m : Nat) (c : Nat → IT) (z : Nat → Int) (a q d : Int) : Bool := rkB eoB n c a q d && (decide (m = n) && (prB z m && (csB n c d (eoF n c d a.toNat q) n && inB (csV n c d z (eoF n c d a.toNat q) n) 0 100000000000)))
noncomputable def coV (n m : Nat) (c : Nat → IT) (z : Nat → Int) (a q d : Int) : Int := if coB n m c z a q d = true then csV n c d z (eoF n c d a.toNat q) n else 0
theorem co_f {n m : Nat} {c : Nat → IT} {z : Nat → Int} {a q d : Int} (h : coB n m c z a q d = false) : coV n m c z a q d = 0 := by unfold coV; rw [h]; rfl
theorem eoF_q {n : Nat} {c : Nat → IT} {a q d : Int} (h : rkB eoB n c a q d = true) : akB n c a q d = true ∧ FQ (eoF n c d a.toNat q) := by
  unfold rkB at h
  simp only [Bool.and_eq_true] at h
  obtain ⟨_, _, h3, _⟩ := akB_p h.1
  exact ⟨h.1, epF_q (z0_q.up _ h3.1 h3.2) _ h.2⟩
set_option maxRecDepth 20000 in
set_option maxHeartbeats 8000000 in
theorem implCost_any (ad ap : Option Addr) (n cap m pc : Nat) (c : Nat → IT) (z : Nat → Int) (a q d : Int) (w : World) (h : (n : Int) ≤ 1048576) (h2 : (m : Int) ≤ 1048576) (hz : IZ n c) (hr : ITr w ad n c) (hp : IR w ap m z) :
    Calls Try.prog 26 #[.slice ad n cap, .slice ap m pc, .int .i64 a, .int .i64 q, .int .i64 d] w fun e w' => e = .returned (.tuple #[.int .i64 (coV n m c z a q d), .bool (coB n m c z a q d)]) ∧ Below w.heap.size w w' := by
  have HR : Hid (ITr w ad n c) := hr
  have HZ : Hid (IZ n c) := hz
  have HP : Hid (IR w ap m z) := hp
  have HEX := hid (implExplode_any ad n cap c a q d w h hz hr)
  have HF : Hid (coB n m c z a q d = false → coV n m c z a q d = 0) := hid co_f
  clear hr hz hp
  cases hE : rkB eoB n c a q d
  · have HV : Hid (coB n m c z a q d = false) := hid (by unfold coB; rw [hE]; rfl)
    have HE2 : Hid (Calls Try.prog 22 #[.slice ad n cap, .int .i64 a, .int .i64 q, .int .i64 d] w fun e w' => ∃ ad cap, e = .returned (.tuple #[.slice ad 0 cap, .bool false]) ∧ Below w.heap.size w w') := hid (HEX.out.mono (by
      rintro e w' ⟨x1, x2, x3, _, x4⟩
      refine ⟨x1, x2, ?_, x4⟩
      rw [x3]; unfold rkM; rw [hE]; rfl))
    clear HEX hE
    rw [HF.out HV.out, HV.out]
    go_enter Try.func26, Try.ntmps26
    go_wp2_with (go_at_call 22; refine HE2.out.mono ?_; rintro e w1 ⟨x1, x2, rfl, b1⟩; have HB1 : Hid (Below w.heap.size w w1) := b1; clear b1)
    go_returns
    exact ⟨rfl, HB1.out⟩
  obtain ⟨hak, hEQ⟩ := eoF_q hE
  have hn60 : (n : Int) ≤ 60 := by have := (isB_p (akB_p hak).1).1; omega
  have HK : Hid (coB n m c z a q d = (decide (m = n) && (prB z m && (csB n c d (eoF n c d a.toNat q) n && inB (csV n c d z (eoF n c d a.toNat q) n) 0 100000000000)))) := hid (by unfold coB; rw [hE]; rfl)
  have HKV : Hid (coB n m c z a q d = true → coV n m c z a q d = csV n c d z (eoF n c d a.toNat q) n) := hid (fun h => by unfold coV; rw [h]; rfl)
  have HE2 : Hid (Calls Try.prog 22 #[.slice ad n cap, .int .i64 a, .int .i64 q, .int .i64 d] w fun e w' => ∃ ad cap, e = .returned (.tuple #[.slice ad n cap, .bool true]) ∧ IR w' ad n (eoF n c d a.toNat q) ∧ Below w.heap.size w w') := hid (HEX.out.mono (by
      have e1 : rkM eoB n c a q d = n := by unfold rkM; rw [hE]; rfl
      rintro e w' ⟨x1, x2, x3, x5, x4⟩
      rw [e1] at x3 x5
      exact ⟨x1, x2, by rw [x3, hE], x5.row, x4⟩))
  have HAK : Hid (akB n c a q d = true) := hak
  have HEQ : Hid (FQ (eoF n c d a.toNat q)) := hEQ
  clear HEX hE hak hEQ
  generalize eoF n c d a.toNat q = E at *
  by_cases hmn : m = n
  · subst hmn
    rw [decide_eq_true rfl, Bool.true_and] at HK
    cases hP : prB z m
    · have HV : Hid (coB m m c z a q d = false) := hid (by rw [HK.out, hP]; rfl)
      have HPP : Hid (prB z m = false) := hP
      clear HK HKV hP
      rw [HF.out HV.out, HV.out]
      go_enter Try.func26, Try.ntmps26
      go_wp2_with (first
        | (go_at_call 22; refine HE2.out.mono ?_; rintro e w1 ⟨x1, x2, rfl, _, b1⟩; have HB1 : Hid (Below w.heap.size w w1) := b1; clear b1)
        | (go_at_call 62; refine (arePr_eq _ _ _ _ _ _ h2 (HP.out.below HB1.out) HPP.out).mono ?_; rintro e w2 ⟨rfl, b2⟩; have HB2 : Hid (Below w.heap.size w w2) := hid (bel_on HB1.out b2); clear b2))
      go_returns
      exact ⟨rfl, HB2.out⟩
    rw [hP, Bool.true_and] at HK
    have HZB : Hid (∀ j, j < m → 0 ≤ z j ∧ z j ≤ 100000) := hid (prB_p m hP)
    have HPP : Hid (prB z m = true) := hP
    clear hP
    obtain ⟨TV, hTV⟩ : ∃ b, coB m m c z a q d = b := ⟨_, rfl⟩
    obtain ⟨CV, hCV⟩ : ∃ x, coV m m c z a q d = x := ⟨_, rfl⟩
    rw [hTV] at HK HF HKV
    rw [hCV] at HF HKV
    rw [hTV, hCV]
    clear hTV hCV
    go_enter Try.func26, Try.ntmps26
    go_wp2_with (first
      | (go_at_call 22; refine HE2.out.mono ?_; rintro e w1 ⟨ea, ec, rfl, r1, b1⟩; have HB1 : Hid (Below w.heap.size w w1) := b1; have HE1 : Hid (IR w1 ea m E) := r1; clear b1 r1)
      | (go_at_call 62; refine (arePr_eq _ _ _ _ _ _ h2 (HP.out.below HB1.out) HPP.out).mono ?_; rintro e w2 ⟨rfl, b2⟩; have HB2 : Hid (Below w.heap.size w w2 ∧ IR w2 ea m E) := hid ⟨bel_on HB1.out b2, HE1.out.below b2⟩; clear b2))
    clear HE2 HE1 HB1
    go_loopw [14, 43] (fun u v wr => ∃ k : Nat, k ≤ m ∧ u = .int .i64 (csV m c d z E k) ∧ v = .int .i64 (k : Int) ∧ Hid (csB m c d E k = true ∧ Below w.heap.size w wr ∧ IR wr ea m E)) (fun _ v _ => m - (intOf v).toNat)
    case atStart => exact ⟨0, Nat.zero_le _, rfl, rfl, hid ⟨rfl, HB2.out.1, HB2.out.2⟩⟩
    case round =>
      clear HB2
      obtain ⟨k, hk, rfl, rfl, HH⟩ := hrel
      obtain ⟨wo, rfl⟩ : ∃ x, x = wr := ⟨wr, rfl⟩
      have cb := csV_bd hn60 HEQ.out HZB.out k hk HH.out.1
      by_cases hlt : k < m
      · have hlt2 : (k : Int) < (m : Int) := by omega
        obtain ⟨kc, of2, rfl, _⟩ := HH.out.2.2.addr (by omega)
        have k0 := HH.out.2.2.cell hlt
        have HOW := hid (ownCost_any ad ap m cap pc c z a q d k (E k) wo HZ.out (HR.out.below HH.out.2.1) (HP.out.below HH.out.2.1) HAK.out hlt (HEQ.out k) HZB.out)
        have HNB : Hid (csB m c d E (k + 1) = ocB m c d k (E k)) := hid (by show (csB m c d E k && _) = _; rw [HH.out.1]; rfl)
        have HNV : Hid (csV m c d z E (k + 1) = csV m c d z E k + ocV m c d z k (E k)) := rfl
        have HOB : Hid (ocB m c d k (E k) = true → -6000000000000 ≤ ocV m c d z k (E k) ∧ ocV m c d z k (E k) ≤ 100000000000) := hid (fun h => ocV_bd hn60 hlt (HEQ.out k) HZB.out h)
        have HMO : Hid (csB m c d E (k + 1) = false → csB m c d E m = false) := hid (fun h => csB_mono _ (by omega) h)
        generalize ocB m c d k (E k) = OB at HOW HNB HOB
        generalize ocV m c d z k (E k) = OV at HOW HNV HOB
        generalize E k = X at HOW k0
        generalize csV m c d z E k = SS at *
        cases OB
        · obtain rfl : TV = false := by rw [HK.out, HMO.out HNB.out]; rfl
          obtain rfl : CV = 0 := HF.out rfl
          go_wp2_with (go_at_call 64; refine HOW.out.mono ?_; rintro e w3 ⟨v, rfl, _, b3⟩; have HB3 : Hid (Below w.heap.size w w3) := hid (bel_on HH.out.2.1 b3); clear b3)
          go_returns
          exact ⟨rfl, HB3.out⟩
        · have hob := HOB.out rfl
          have hw1 : IntKind.i64.wrap (SS + OV) = SS + OV := IntWalk.i64_in _ ⟨by omega, by omega⟩
          go_wp2_with (go_at_call 64; refine HOW.out.mono ?_; rintro e w3 ⟨v, rfl, hv, b3⟩; obtain rfl := hv rfl; have HB3 : Hid (csB m c d E (k + 1) = true ∧ Below w.heap.size w w3 ∧ IR w3 (some ⟨kc, of2, none⟩) m E) := hid ⟨HNB.out, bel_on HH.out.2.1 b3, HH.out.2.2.below b3⟩; clear b3 hv)
          go_roundw
          case rel => exact ⟨k + 1, by omega, by rw [HNV.out], by go_num, HB3⟩
          case measure => simp [intOf]; omega
      · obtain rfl : k = m := by omega
        have lkk : ¬ (k : Int) < (k : Int) := by omega
        rw [HH.out.1, Bool.true_and] at HK
        generalize csV k c d z E k = SS at *
        have HAM : Hid (inB SS 0 100000000000 = TV) := hid HK.out.symm
        cases TV
        · obtain rfl : CV = 0 := HF.out rfl
          go_wp2_with (go_at_call 65; refine (isAmt0_eq _ _ _ HAM.out).mono ?_; rintro e w6 ⟨rfl, ew⟩; replace ew := ew.symm; subst ew)
          go_returns
          exact ⟨rfl, HH.out.2.1⟩
        · obtain rfl : CV = SS := HKV.out rfl
          go_wp2_with (go_at_call 65; refine (isAmt0_eq _ _ _ HAM.out).mono ?_; rintro e w6 ⟨rfl, ew⟩; replace ew := ew.symm; subst ew)
          go_returns
          exact ⟨rfl, HH.out.2.1⟩
  · have hmn1 : ((m : Int) != (n : Int)) = true := by simp; omega
    have hmn2 : ¬ (m : Int) = (n : Int) := by omega
    have HV : Hid (coB n m c z a q d = false) := hid (by rw [HK.out, decide_eq_false hmn]; rfl)
    clear HK HKV
    rw [HF.out HV.out, HV.out]
    go_enter Try.func26, Try.ntmps26
    go_wp2_with (go_at_call 22; refine HE2.out.mono ?_; rintro e w1 ⟨x1, x2, rfl, _, b1⟩; have HB1 : Hid (Below w.heap.size w w1) := b1; clear b1)
    go_returns
    exact ⟨rfl, HB1.out⟩
end Go.Proofs.Ytmbdeafpfdeigaa
