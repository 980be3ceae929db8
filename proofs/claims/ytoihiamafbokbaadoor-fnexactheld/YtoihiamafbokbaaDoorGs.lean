/- The model's GroupOk. -/
import Derived.Test.YtoihiamafbokbaaDoorGr
namespace Go.Proofs.YtoihiamafbokbaaDoor
open Go.ChangeShapes Go.WideShapes Go.ChangeAt Go.RowKit
set_option linter.unusedVariables false
set_option linter.unusedSimpArgs false

set_option maxRecDepth 20000 in
set_option maxHeartbeats 8000000 in
theorem specGroup_any (fa : Option Addr) (len cap : Nat) (c : Nat → C3) (u : Int) (ra : Option Addr) (m rcap : Nat) (ms : Nat → M4) (mi sf : Int) (w : World) (hl : (len : Int) ≤ 1048576) (hc : ∀ j, (c j).code.size ≤ maxLen) (hr : CR w fa len c) (hm : (m : Int) ≤ 1048576) (htn : ∀ j, j < m → ((ms j).tn : Int) ≤ 1048576) (HM : MR w ra m ms) :
    Calls Tryd.prog 6 #[gAgg fa len cap u ra m rcap mi sf] w fun e w' => e = .returned (.bool (grB len c u m ms mi sf)) ∧ Below w.heap.size w w' := by
  unfold gAgg
  have HR : Hid (CR w fa len c) := hr
  have HC : Hid (∀ j, (c j).code.size ≤ maxLen) := hc
  have HME : Hid (MR w ra m ms) := HM
  have HN : Hid (∀ j, j < m → ((ms j).tn : Int) ≤ 1048576) := htn
  clear hr hc HM htn
  cases hv : chartB len c with
  | false =>
    have HF : Hid (grB len c u m ms mi sf = false) := grB_f (fun q => by have := q.1.1; rw [hv] at this; cases this)
    have tok1 : True := trivial
    have tok2 : True := trivial
    have tok3 : True := trivial
    go_enter Tryd.func6, Tryd.ntmps6
    go_wp2_with (first
      | (go_at_call 18; refine (specChartOk_eq _ _ _ c _ hl HC.out (HR.out.alloc _) hv).mono ?_; rintro e w1 ⟨rfl, b1⟩; have X0 : CB w1 w.heap.size #[.slice fa len cap, .int .i64 u, .slice ra m rcap, .int .i64 mi, .int .i64 sf] 31 := (CB.new _ _).below b1 (by simp); have x0 := (X0.cell 0).trans rfl; have x1 := (X0.cell 1).trans rfl; have x2 := (X0.cell 2).trans rfl; have x3 := (X0.cell 3).trans rfl; have x4 := (X0.cell 4).trans rfl; have HB : Hid (Below w.heap.size w w1) := bel_on ((Below.refl _ _).alloc (Nat.le_refl _) _) b1; have HX : Hid (CB w1 w.heap.size #[.slice fa len cap, .int .i64 u, .slice ra m rcap, .int .i64 mi, .int .i64 sf] 31) := X0; clear b1 X0))
    go_returns
    exact ⟨ret_bool HF.out.symm, HB.out⟩
  | true =>
    cases h1 : inB u 1 20 with
    | false =>
      have HF : Hid (grB len c u m ms mi sf = false) := grB_f (fun q => by have := q.1.2; rw [h1] at this; cases this)
      have tok1 : True := trivial
      have tok2 : True := trivial
      have tok3 : True := trivial
      go_enter Tryd.func6, Tryd.ntmps6
      go_wp2_with (first
        | (go_at_call 18; refine (specChartOk_eq _ _ _ c _ hl HC.out (HR.out.alloc _) hv).mono ?_; rintro e w1 ⟨rfl, b1⟩; have X0 : CB w1 w.heap.size #[.slice fa len cap, .int .i64 u, .slice ra m rcap, .int .i64 mi, .int .i64 sf] 31 := (CB.new _ _).below b1 (by simp); have x0 := (X0.cell 0).trans rfl; have x1 := (X0.cell 1).trans rfl; have x2 := (X0.cell 2).trans rfl; have x3 := (X0.cell 3).trans rfl; have x4 := (X0.cell 4).trans rfl; have HB : Hid (Below w.heap.size w w1) := bel_on ((Below.refl _ _).alloc (Nat.le_refl _) _) b1; have HX : Hid (CB w1 w.heap.size #[.slice fa len cap, .int .i64 u, .slice ra m rcap, .int .i64 mi, .int .i64 sf] 31) := X0; clear b1 X0)
        | (go_at_call 19; clear tok1; refine (l1In_any _ _ _ _).mono ?_; rintro e w3 ⟨rfl, ew⟩; replace ew := ew.symm; subst ew; rw [h1]))
      go_returns
      exact ⟨ret_bool HF.out.symm, HB.out⟩
    | true =>
      cases h2 : inB (m : Int) 1 12 with
      | false =>
        have HF : Hid (grB len c u m ms mi sf = false) := grB_f (fun q => by have := q.2.1; rw [h2] at this; cases this)
        have tok1 : True := trivial
        have tok2 : True := trivial
        have tok3 : True := trivial
        go_enter Tryd.func6, Tryd.ntmps6
        go_wp2_with (first
          | (go_at_call 18; refine (specChartOk_eq _ _ _ c _ hl HC.out (HR.out.alloc _) hv).mono ?_; rintro e w1 ⟨rfl, b1⟩; have X0 : CB w1 w.heap.size #[.slice fa len cap, .int .i64 u, .slice ra m rcap, .int .i64 mi, .int .i64 sf] 31 := (CB.new _ _).below b1 (by simp); have x0 := (X0.cell 0).trans rfl; have x1 := (X0.cell 1).trans rfl; have x2 := (X0.cell 2).trans rfl; have x3 := (X0.cell 3).trans rfl; have x4 := (X0.cell 4).trans rfl; have HB : Hid (Below w.heap.size w w1) := bel_on ((Below.refl _ _).alloc (Nat.le_refl _) _) b1; have HX : Hid (CB w1 w.heap.size #[.slice fa len cap, .int .i64 u, .slice ra m rcap, .int .i64 mi, .int .i64 sf] 31) := X0; clear b1 X0)
          | (go_at_call 19; clear tok1; refine (l1In_any _ _ _ _).mono ?_; rintro e w3 ⟨rfl, ew⟩; replace ew := ew.symm; subst ew; rw [h1])
          | (go_at_call 19; clear tok2; refine (l1In_any _ _ _ _).mono ?_; rintro e w3 ⟨rfl, ew⟩; replace ew := ew.symm; subst ew; rw [h2]))
        go_returns
        exact ⟨ret_bool HF.out.symm, HB.out⟩
      | true =>
        by_cases h3 : mi = sf
        · have HF : Hid (grB len c u m ms mi sf = false) := grB_f (fun q => q.2.2.1 h3)
          subst h3
          have tok1 : True := trivial
          have tok2 : True := trivial
          have tok3 : True := trivial
          go_enter Tryd.func6, Tryd.ntmps6
          go_wp2_with (first
            | (go_at_call 18; refine (specChartOk_eq _ _ _ c _ hl HC.out (HR.out.alloc _) hv).mono ?_; rintro e w1 ⟨rfl, b1⟩; have X0 : CB w1 w.heap.size #[.slice fa len cap, .int .i64 u, .slice ra m rcap, .int .i64 mi, .int .i64 mi] 31 := (CB.new _ _).below b1 (by simp); have x0 := (X0.cell 0).trans rfl; have x1 := (X0.cell 1).trans rfl; have x2 := (X0.cell 2).trans rfl; have x3 := (X0.cell 3).trans rfl; have x4 := (X0.cell 4).trans rfl; have HB : Hid (Below w.heap.size w w1) := bel_on ((Below.refl _ _).alloc (Nat.le_refl _) _) b1; have HX : Hid (CB w1 w.heap.size #[.slice fa len cap, .int .i64 u, .slice ra m rcap, .int .i64 mi, .int .i64 mi] 31) := X0; clear b1 X0)
            | (go_at_call 19; clear tok1; refine (l1In_any _ _ _ _).mono ?_; rintro e w3 ⟨rfl, ew⟩; replace ew := ew.symm; subst ew; rw [h1])
            | (go_at_call 19; clear tok2; refine (l1In_any _ _ _ _).mono ?_; rintro e w3 ⟨rfl, ew⟩; replace ew := ew.symm; subst ew; rw [h2]))
          go_returns
          exact ⟨ret_bool HF.out.symm, HB.out⟩
        have h30 : (mi == sf) = false := by simpa using h3
        cases h4 : eqtB len c mi with
        | false =>
          have HF : Hid (grB len c u m ms mi sf = false) := grB_f (fun q => by have := q.2.2.2.1; rw [h4] at this; cases this)
          have tok1 : True := trivial
          have tok2 : True := trivial
          have tok3 : True := trivial
          go_enter Tryd.func6, Tryd.ntmps6
          go_wp2_with (first
            | (go_at_call 18; refine (specChartOk_eq _ _ _ c _ hl HC.out (HR.out.alloc _) hv).mono ?_; rintro e w1 ⟨rfl, b1⟩; have X0 : CB w1 w.heap.size #[.slice fa len cap, .int .i64 u, .slice ra m rcap, .int .i64 mi, .int .i64 sf] 31 := (CB.new _ _).below b1 (by simp); have x0 := (X0.cell 0).trans rfl; have x1 := (X0.cell 1).trans rfl; have x2 := (X0.cell 2).trans rfl; have x3 := (X0.cell 3).trans rfl; have x4 := (X0.cell 4).trans rfl; have HB : Hid (Below w.heap.size w w1) := bel_on ((Below.refl _ _).alloc (Nat.le_refl _) _) b1; have HX : Hid (CB w1 w.heap.size #[.slice fa len cap, .int .i64 u, .slice ra m rcap, .int .i64 mi, .int .i64 sf] 31) := X0; clear b1 X0)
            | (go_at_call 19; clear tok1; refine (l1In_any _ _ _ _).mono ?_; rintro e w3 ⟨rfl, ew⟩; replace ew := ew.symm; subst ew; rw [h1])
            | (go_at_call 19; clear tok2; refine (l1In_any _ _ _ _).mono ?_; rintro e w3 ⟨rfl, ew⟩; replace ew := ew.symm; subst ew; rw [h2])
            | (go_at_call 20; clear tok3; refine (l8Equity_eq _ _ _ c _ _ _ _ _ _ _ _ hl HC.out (HR.out.below HB.out) h4).mono ?_; rintro e w4 ⟨rfl, b4⟩; have X0 : CB w4 w.heap.size #[.slice fa len cap, .int .i64 u, .slice ra m rcap, .int .i64 mi, .int .i64 sf] 31 := HX.out.below b4 HX.out.lt; replace x0 := (X0.cell 0).trans rfl; replace x1 := (X0.cell 1).trans rfl; replace x2 := (X0.cell 2).trans rfl; replace x3 := (X0.cell 3).trans rfl; replace x4 := (X0.cell 4).trans rfl; have HB4 : Hid (Below w.heap.size w w4) := bel_on HB.out b4; have HX4 : Hid (CB w4 w.heap.size #[.slice fa len cap, .int .i64 u, .slice ra m rcap, .int .i64 mi, .int .i64 sf] 31) := X0; clear b4 X0))
          go_returns
          exact ⟨ret_bool HF.out.symm, HB4.out⟩
        | true =>
          cases h5 : eqtB len c sf with
          | false =>
            have HF : Hid (grB len c u m ms mi sf = false) := grB_f (fun q => by have := q.2.2.2.2.1; rw [h5] at this; cases this)
            have tok1 : True := trivial
            have tok2 : True := trivial
            have tok3 : True := trivial
            go_enter Tryd.func6, Tryd.ntmps6
            go_wp2_with (first
              | (go_at_call 18; refine (specChartOk_eq _ _ _ c _ hl HC.out (HR.out.alloc _) hv).mono ?_; rintro e w1 ⟨rfl, b1⟩; have X0 : CB w1 w.heap.size #[.slice fa len cap, .int .i64 u, .slice ra m rcap, .int .i64 mi, .int .i64 sf] 31 := (CB.new _ _).below b1 (by simp); have x0 := (X0.cell 0).trans rfl; have x1 := (X0.cell 1).trans rfl; have x2 := (X0.cell 2).trans rfl; have x3 := (X0.cell 3).trans rfl; have x4 := (X0.cell 4).trans rfl; have HB : Hid (Below w.heap.size w w1) := bel_on ((Below.refl _ _).alloc (Nat.le_refl _) _) b1; have HX : Hid (CB w1 w.heap.size #[.slice fa len cap, .int .i64 u, .slice ra m rcap, .int .i64 mi, .int .i64 sf] 31) := X0; clear b1 X0)
              | (go_at_call 19; clear tok1; refine (l1In_any _ _ _ _).mono ?_; rintro e w3 ⟨rfl, ew⟩; replace ew := ew.symm; subst ew; rw [h1])
              | (go_at_call 19; clear tok2; refine (l1In_any _ _ _ _).mono ?_; rintro e w3 ⟨rfl, ew⟩; replace ew := ew.symm; subst ew; rw [h2])
              | (go_at_call 20; clear tok3; refine (l8Equity_eq _ _ _ c _ _ _ _ _ _ _ _ hl HC.out (HR.out.below HB.out) h4).mono ?_; rintro e w4 ⟨rfl, b4⟩; have X0 : CB w4 w.heap.size #[.slice fa len cap, .int .i64 u, .slice ra m rcap, .int .i64 mi, .int .i64 sf] 31 := HX.out.below b4 HX.out.lt; replace x0 := (X0.cell 0).trans rfl; replace x1 := (X0.cell 1).trans rfl; replace x2 := (X0.cell 2).trans rfl; replace x3 := (X0.cell 3).trans rfl; replace x4 := (X0.cell 4).trans rfl; have HB4 : Hid (Below w.heap.size w w4) := bel_on HB.out b4; have HX4 : Hid (CB w4 w.heap.size #[.slice fa len cap, .int .i64 u, .slice ra m rcap, .int .i64 mi, .int .i64 sf] 31) := X0; clear b4 X0)
              | (go_at_call 20; refine (l8Equity_eq _ _ _ c _ _ _ _ _ _ _ _ hl HC.out (HR.out.below HB4.out) h5).mono ?_; rintro e w5 ⟨rfl, b5⟩; have X0 : CB w5 w.heap.size #[.slice fa len cap, .int .i64 u, .slice ra m rcap, .int .i64 mi, .int .i64 sf] 31 := HX4.out.below b5 HX4.out.lt; replace x0 := (X0.cell 0).trans rfl; replace x1 := (X0.cell 1).trans rfl; replace x2 := (X0.cell 2).trans rfl; replace x3 := (X0.cell 3).trans rfl; replace x4 := (X0.cell 4).trans rfl; have HB5 : Hid (Below w.heap.size w w5) := bel_on HB4.out b5; have HX5 : Hid (CB w5 w.heap.size #[.slice fa len cap, .int .i64 u, .slice ra m rcap, .int .i64 mi, .int .i64 sf] 31) := X0; clear b5 X0))
            go_returns
            exact ⟨ret_bool HF.out.symm, HB5.out⟩
          | true =>
            obtain ⟨hu1, hu2⟩ := inB_iff.1 h1
            obtain ⟨hm1, hm2⟩ := inB_iff.1 h2
            have tok1 : True := trivial
            have tok2 : True := trivial
            have tok3 : True := trivial
            go_enter Tryd.func6, Tryd.ntmps6
            go_wp2_with (first
              | (go_at_call 18; refine (specChartOk_eq _ _ _ c _ hl HC.out (HR.out.alloc _) hv).mono ?_; rintro e w1 ⟨rfl, b1⟩; have X0 : CB w1 w.heap.size #[.slice fa len cap, .int .i64 u, .slice ra m rcap, .int .i64 mi, .int .i64 sf] 31 := (CB.new _ _).below b1 (by simp); have x0 := (X0.cell 0).trans rfl; have x1 := (X0.cell 1).trans rfl; have x2 := (X0.cell 2).trans rfl; have x3 := (X0.cell 3).trans rfl; have x4 := (X0.cell 4).trans rfl; have HB : Hid (Below w.heap.size w w1) := bel_on ((Below.refl _ _).alloc (Nat.le_refl _) _) b1; have HX : Hid (CB w1 w.heap.size #[.slice fa len cap, .int .i64 u, .slice ra m rcap, .int .i64 mi, .int .i64 sf] 31) := X0; clear b1 X0)
              | (go_at_call 19; clear tok1; refine (l1In_any _ _ _ _).mono ?_; rintro e w3 ⟨rfl, ew⟩; replace ew := ew.symm; subst ew; rw [h1])
              | (go_at_call 19; clear tok2; refine (l1In_any _ _ _ _).mono ?_; rintro e w3 ⟨rfl, ew⟩; replace ew := ew.symm; subst ew; rw [h2])
              | (go_at_call 20; clear tok3; refine (l8Equity_eq _ _ _ c _ _ _ _ _ _ _ _ hl HC.out (HR.out.below HB.out) h4).mono ?_; rintro e w4 ⟨rfl, b4⟩; have X0 : CB w4 w.heap.size #[.slice fa len cap, .int .i64 u, .slice ra m rcap, .int .i64 mi, .int .i64 sf] 31 := HX.out.below b4 HX.out.lt; replace x0 := (X0.cell 0).trans rfl; replace x1 := (X0.cell 1).trans rfl; replace x2 := (X0.cell 2).trans rfl; replace x3 := (X0.cell 3).trans rfl; replace x4 := (X0.cell 4).trans rfl; have HB4 : Hid (Below w.heap.size w w4) := bel_on HB.out b4; have HX4 : Hid (CB w4 w.heap.size #[.slice fa len cap, .int .i64 u, .slice ra m rcap, .int .i64 mi, .int .i64 sf] 31) := X0; clear b4 X0)
              | (go_at_call 20; refine (l8Equity_eq _ _ _ c _ _ _ _ _ _ _ _ hl HC.out (HR.out.below HB4.out) h5).mono ?_; rintro e w5 ⟨rfl, b5⟩; have X0 : CB w5 w.heap.size #[.slice fa len cap, .int .i64 u, .slice ra m rcap, .int .i64 mi, .int .i64 sf] 31 := HX4.out.below b5 HX4.out.lt; replace x0 := (X0.cell 0).trans rfl; replace x1 := (X0.cell 1).trans rfl; replace x2 := (X0.cell 2).trans rfl; replace x3 := (X0.cell 3).trans rfl; replace x4 := (X0.cell 4).trans rfl; have HB5 : Hid (Below w.heap.size w w5) := bel_on HB4.out b5; have HX5 : Hid (CB w5 w.heap.size #[.slice fa len cap, .int .i64 u, .slice ra m rcap, .int .i64 mi, .int .i64 sf] 31) := X0; clear b5 X0))
            clear x0 x1 x2 x3 x4
            go_loopw [3] (fun i wr => ∃ (k : Nat), k ≤ m ∧ i = .int .i64 (k : Int) ∧ Hid (CB wr w.heap.size #[.slice fa len cap, .int .i64 u, .slice ra m rcap, .int .i64 mi, .int .i64 sf] 31 ∧ (∀ j, j < k → MOk u len c j (ms j)) ∧ Below w.heap.size w wr)) (fun i _ => m - (intOf i).toNat)
            case atStart => exact ⟨0, Nat.zero_le _, rfl, HX5.out, fun j hj => by omega, HB5.out⟩
            case round =>
              obtain ⟨k, hk, rfl, HK⟩ := hrel
              have y0 := (HK.out.1.cell 0).trans rfl
              have y1 := (HK.out.1.cell 1).trans rfl
              have y2 := (HK.out.1.cell 2).trans rfl
              have y3 := (HK.out.1.cell 3).trans rfl
              have y4 := (HK.out.1.cell 4).trans rfl
              by_cases hlt : k < m
              · have hlt2 : (k : Int) < (m : Int) := by omega
                obtain ⟨kb, off, rfl, hkb, hru⟩ := HME.out.get hlt
                obtain ⟨ta, tc, c1, c2, c3, c4, r5⟩ := hru.below hkb HK.out.2.2
                have hnk := HN.out k hlt
                obtain ⟨p, hp⟩ : ∃ f, (ms k).par = f := ⟨_, rfl⟩
                obtain ⟨s, hs⟩ : ∃ f, (ms k).sh = f := ⟨_, rfl⟩
                obtain ⟨cu, hcu⟩ : ∃ f, (ms k).cur = f := ⟨_, rfl⟩
                obtain ⟨tn, ht⟩ : ∃ t, (ms k).tn = t := ⟨_, rfl⟩
                have HP : Hid ((ms k).par = p ∧ (ms k).sh = s ∧ (ms k).cur = cu ∧ (ms k).tn = tn) := ⟨hp, hs, hcu, ht⟩
                rw [ht] at c4 r5 hnk
                rw [hp] at c1
                rw [hs] at c2
                rw [hcu] at c3
                have HT : Hid (IR wr ta tn (ms k).tr) := r5
                have hmo : (MOk u len c k (ms k) ↔ ((k = 0 ∧ p = -1 ∧ s = 10000) ∨ (0 < k ∧ 0 ≤ p ∧ p < (k : Int) ∧ 1 ≤ s ∧ s ≤ 10000)) ∧ (0 ≤ cu ∧ cu < u) ∧ TrOk len c tn (ms k).tr) := by unfold MOk MHeld; rw [hp, hs, hcu, ht]
                have HMO : Hid (MOk u len c k (ms k) ↔ ((k = 0 ∧ p = -1 ∧ s = 10000) ∨ (0 < k ∧ 0 ≤ p ∧ p < (k : Int) ∧ 1 ≤ s ∧ s ≤ 10000)) ∧ (0 ≤ cu ∧ cu < u) ∧ TrOk len c tn (ms k).tr) := hmo
                clear hmo
                have HBk : Hid (∀ W2 : World, Below wr.heap.size wr W2 → Below w.heap.size w W2) := fun W2 q => bel_on HK.out.2.2 q
                clear hru r5 hp hs hcu ht
                have hal : Below wr.heap.size wr (wr.alloc (.cells #[.int .i64 p, .int .i64 s, .int .i64 cu, .slice ta tn tc] 46 (0, 0))) := (Below.refl _ _).alloc (Nat.le_refl _) _
                have HAL : Hid (Below w.heap.size w (wr.alloc (.cells #[.int .i64 p, .int .i64 s, .int .i64 cu, .slice ta tn tc] 46 (0, 0)))) := bel_on HK.out.2.2 hal
                have HTA : Hid (IR (wr.alloc (.cells #[.int .i64 p, .int .i64 s, .int .i64 cu, .slice ta tn tc] 46 (0, 0))) ta tn (ms k).tr) := HT.out.below hal
                clear hal
                have hltw : w.heap.size < wr.heap.size := HK.out.1.lt
                have q0 : (wr.alloc (.cells #[.int .i64 p, .int .i64 s, .int .i64 cu, .slice ta tn tc] 46 (0, 0))).cell? ⟨w.heap.size, 0, none⟩ = _ := ((HK.out.1.alloc _).cell 0).trans rfl
                have q1 : (wr.alloc (.cells #[.int .i64 p, .int .i64 s, .int .i64 cu, .slice ta tn tc] 46 (0, 0))).cell? ⟨w.heap.size, 1, none⟩ = _ := ((HK.out.1.alloc _).cell 1).trans rfl
                have q2 : (wr.alloc (.cells #[.int .i64 p, .int .i64 s, .int .i64 cu, .slice ta tn tc] 46 (0, 0))).cell? ⟨w.heap.size, 2, none⟩ = _ := ((HK.out.1.alloc _).cell 2).trans rfl
                have q3 : (wr.alloc (.cells #[.int .i64 p, .int .i64 s, .int .i64 cu, .slice ta tn tc] 46 (0, 0))).cell? ⟨w.heap.size, 3, none⟩ = _ := ((HK.out.1.alloc _).cell 3).trans rfl
                have q4 : (wr.alloc (.cells #[.int .i64 p, .int .i64 s, .int .i64 cu, .slice ta tn tc] 46 (0, 0))).cell? ⟨w.heap.size, 4, none⟩ = _ := ((HK.out.1.alloc _).cell 4).trans rfl
                have HNO : ¬ MOk u len c k (ms k) → grB len c u m ms mi sf = false := fun q => grB_f (fun g => q (g.2.2.2.2.2 k hlt))
                have HNO2 : Hid (¬ MOk u len c k (ms k) → grB len c u m ms mi sf = false) := HNO
                clear HNO
                have tk2 : True := trivial
                have tk3 : True := trivial
                by_cases hk0 : k = 0
                · have z0 : ((k : Int) == 0) = true := by simpa using (by omega : (k : Int) = 0)
                  have z1 : decide ((k : Int) > 0) = false := decide_eq_false (by omega)
                  have z2 : decide (0 < (k : Int)) = false := decide_eq_false (by omega)
                  have HK0 : Hid (k = 0) := hk0
                  subst hk0
                  simp only [Nat.zero_mul, Nat.add_zero] at c1 c2 c3 c4
                  clear z0 z1 z2
                  by_cases hp1 : p = -1
                  · by_cases hs1 : s = 10000
                    · have HH : Hid ((0 = 0 ∧ p = -1 ∧ s = 10000) ∨ (0 < 0 ∧ 0 ≤ p ∧ p < ((0 : Nat) : Int) ∧ 1 ≤ s ∧ s ≤ 10000)) := .inl ⟨HK0.out, hp1, hs1⟩
                      subst hp1
                      subst hs1
                      have d2 : inB 10000 1 10000 = true := by decide
                      cases d3 : inB cu 0 (u - 1) with
                      | false =>
                        have HF : Hid (grB len c u m ms mi sf = false) := HNO2.out (fun q => by have q2 := (HMO.out.1 q).2.1; rw [inB_t (by omega) (by omega)] at d3; cases d3)
                        go_wp2_with (first
                          | (go_at_call 19; clear tk2; refine (l1In_any _ _ _ _).mono ?_; rintro e w6 ⟨rfl, ew⟩; replace ew := ew.symm; subst ew; rw [d2])
                          | (go_at_call 19; clear tk3; refine (l1In_any _ _ _ _).mono ?_; rintro e w6 ⟨rfl, ew⟩; replace ew := ew.symm; subst ew; rw [d3]))
                        go_returns
                        exact ⟨ret_bool HF.out.symm, HAL.out⟩
                      | true =>
                        cases d4 : trB len c tn (ms 0).tr with
                        | false =>
                          have HF : Hid (grB len c u m ms mi sf = false) := HNO2.out (fun q => by have q2 := (HMO.out.1 q).2.2; rw [trB_t q2] at d4; cases d4)
                          go_wp2_with (first
                            | (go_at_call 19; clear tk2; refine (l1In_any _ _ _ _).mono ?_; rintro e w6 ⟨rfl, ew⟩; replace ew := ew.symm; subst ew; rw [d2])
                            | (go_at_call 19; clear tk3; refine (l1In_any _ _ _ _).mono ?_; rintro e w6 ⟨rfl, ew⟩; replace ew := ew.symm; subst ew; rw [d3])
                            | (go_at_call 21; refine (l8Trial_any _ _ _ c _ _ _ (ms 0).tr _ hl HC.out (HR.out.below HAL.out) hnk HTA.out).mono ?_; rintro e w7 ⟨rfl, b7⟩; rw [d4]; have HX7 : Hid (CB w7 w.heap.size #[.slice fa len cap, .int .i64 u, .slice (some ⟨kb, off, none⟩) m rcap, .int .i64 mi, .int .i64 sf] 31) := (HK.out.1.alloc _).below b7 (HK.out.1.alloc _).lt; have HB7 : Hid (Below w.heap.size w w7) := bel_on HAL.out b7; clear b7))
                          go_returns
                          exact ⟨ret_bool HF.out.symm, HB7.out⟩
                        | true =>
                          have HMN : Hid (∀ j, j < 0 + 1 → MOk u len c j (ms j)) := fun j hj => by
                            by_cases e : j = 0
                            · subst e; exact HMO.out.2 ⟨HH.out, by have := inB_iff.1 d3; omega, trB_iff.1 d4⟩
                            · exact HK.out.2.1 j (by omega)
                          go_wp2_with (first
                            | (go_at_call 19; clear tk2; refine (l1In_any _ _ _ _).mono ?_; rintro e w6 ⟨rfl, ew⟩; replace ew := ew.symm; subst ew; rw [d2])
                            | (go_at_call 19; clear tk3; refine (l1In_any _ _ _ _).mono ?_; rintro e w6 ⟨rfl, ew⟩; replace ew := ew.symm; subst ew; rw [d3])
                            | (go_at_call 21; refine (l8Trial_any _ _ _ c _ _ _ (ms 0).tr _ hl HC.out (HR.out.below HAL.out) hnk HTA.out).mono ?_; rintro e w7 ⟨rfl, b7⟩; rw [d4]; have HX7 : Hid (CB w7 w.heap.size #[.slice fa len cap, .int .i64 u, .slice (some ⟨kb, off, none⟩) m rcap, .int .i64 mi, .int .i64 sf] 31) := (HK.out.1.alloc _).below b7 (HK.out.1.alloc _).lt; have HB7 : Hid (Below w.heap.size w w7) := bel_on HAL.out b7; clear b7))
                          go_roundw
                          case rel => exact ⟨0 + 1, by omega, by go_num, HX7.out, HMN.out, HB7.out⟩
                          case measure => simp [intOf]; omega
                    · have hs2 : (s == 10000) = false := by simpa using hs1
                      have HF : Hid (grB len c u m ms mi sf = false) := HNO2.out (fun q => by have q2 := (HMO.out.1 q).1; have q3 := HK0.out; omega)
                      subst hp1
                      go_wp2
                      go_returns
                      exact ⟨ret_bool HF.out.symm, HAL.out⟩
                  · have hp2 : (p == -1) = false := by simpa using hp1
                    have HF : Hid (grB len c u m ms mi sf = false) := HNO2.out (fun q => by have q2 := (HMO.out.1 q).1; have q3 := HK0.out; omega)
                    go_wp2
                    go_returns
                    exact ⟨ret_bool HF.out.symm, HAL.out⟩
                · have z0 : ((k : Int) == 0) = false := by simpa using (by omega : ¬ (k : Int) = 0)
                  have z1 : decide ((k : Int) > 0) = true := decide_eq_true (by omega)
                  have z2 : decide (0 < (k : Int)) = true := decide_eq_true (by omega)
                  have tk1 : True := trivial
                  have hk1 : 0 < (k : Int) := by omega
                  clear hk0
                  cases d1 : inB p 0 ((k : Int) - 1) with
                  | false =>
                    have HF : Hid (grB len c u m ms mi sf = false) := HNO2.out (fun q => by have q2 := (HMO.out.1 q).1; rw [inB_t (by omega) (by omega)] at d1; cases d1)
                    go_wp2_with (first
                      | (go_at_call 19; clear tk1; refine (l1In_any _ _ _ _).mono ?_; rintro e w6 ⟨rfl, ew⟩; replace ew := ew.symm; subst ew; rw [d1]))
                    go_returns
                    exact ⟨ret_bool HF.out.symm, HAL.out⟩
                  | true =>
                    cases d2 : inB s 1 10000 with
                    | false =>
                      have HF : Hid (grB len c u m ms mi sf = false) := HNO2.out (fun q => by have q2 := (HMO.out.1 q).1; rw [inB_t (by omega) (by omega)] at d2; cases d2)
                      go_wp2_with (first
                        | (go_at_call 19; clear tk1; refine (l1In_any _ _ _ _).mono ?_; rintro e w6 ⟨rfl, ew⟩; replace ew := ew.symm; subst ew; rw [d1])
                        | (go_at_call 19; clear tk2; refine (l1In_any _ _ _ _).mono ?_; rintro e w6 ⟨rfl, ew⟩; replace ew := ew.symm; subst ew; rw [d2]))
                      go_returns
                      exact ⟨ret_bool HF.out.symm, HAL.out⟩
                    | true =>
                      have HH : Hid ((k = 0 ∧ p = -1 ∧ s = 10000) ∨ (0 < k ∧ 0 ≤ p ∧ p < (k : Int) ∧ 1 ≤ s ∧ s ≤ 10000)) := by have q1 := inB_iff.1 d1; have q2 := inB_iff.1 d2; exact .inr ⟨by omega, by omega, by omega, by omega, by omega⟩
                      cases d3 : inB cu 0 (u - 1) with
                      | false =>
                        have HF : Hid (grB len c u m ms mi sf = false) := HNO2.out (fun q => by have q2 := (HMO.out.1 q).2.1; rw [inB_t (by omega) (by omega)] at d3; cases d3)
                        go_wp2_with (first
                          | (go_at_call 19; clear tk1; refine (l1In_any _ _ _ _).mono ?_; rintro e w6 ⟨rfl, ew⟩; replace ew := ew.symm; subst ew; rw [d1])
                          | (go_at_call 19; clear tk2; refine (l1In_any _ _ _ _).mono ?_; rintro e w6 ⟨rfl, ew⟩; replace ew := ew.symm; subst ew; rw [d2])
                          | (go_at_call 19; clear tk3; refine (l1In_any _ _ _ _).mono ?_; rintro e w6 ⟨rfl, ew⟩; replace ew := ew.symm; subst ew; rw [d3]))
                        go_returns
                        exact ⟨ret_bool HF.out.symm, HAL.out⟩
                      | true =>
                        cases d4 : trB len c tn (ms k).tr with
                        | false =>
                          have HF : Hid (grB len c u m ms mi sf = false) := HNO2.out (fun q => by have q2 := (HMO.out.1 q).2.2; rw [trB_t q2] at d4; cases d4)
                          go_wp2_with (first
                            | (go_at_call 19; clear tk1; refine (l1In_any _ _ _ _).mono ?_; rintro e w6 ⟨rfl, ew⟩; replace ew := ew.symm; subst ew; rw [d1])
                            | (go_at_call 19; clear tk2; refine (l1In_any _ _ _ _).mono ?_; rintro e w6 ⟨rfl, ew⟩; replace ew := ew.symm; subst ew; rw [d2])
                            | (go_at_call 19; clear tk3; refine (l1In_any _ _ _ _).mono ?_; rintro e w6 ⟨rfl, ew⟩; replace ew := ew.symm; subst ew; rw [d3])
                            | (go_at_call 21; refine (l8Trial_any _ _ _ c _ _ _ (ms k).tr _ hl HC.out (HR.out.below HAL.out) hnk HTA.out).mono ?_; rintro e w7 ⟨rfl, b7⟩; rw [d4]; have HX7 : Hid (CB w7 w.heap.size #[.slice fa len cap, .int .i64 u, .slice (some ⟨kb, off, none⟩) m rcap, .int .i64 mi, .int .i64 sf] 31) := (HK.out.1.alloc _).below b7 (HK.out.1.alloc _).lt; have HB7 : Hid (Below w.heap.size w w7) := bel_on HAL.out b7; clear b7))
                          go_returns
                          exact ⟨ret_bool HF.out.symm, HB7.out⟩
                        | true =>
                          have HMN : Hid (∀ j, j < k + 1 → MOk u len c j (ms j)) := fun j hj => by
                            by_cases e : j = k
                            · subst e; exact HMO.out.2 ⟨HH.out, by have := inB_iff.1 d3; omega, trB_iff.1 d4⟩
                            · exact HK.out.2.1 j (by omega)
                          go_wp2_with (first
                            | (go_at_call 19; clear tk1; refine (l1In_any _ _ _ _).mono ?_; rintro e w6 ⟨rfl, ew⟩; replace ew := ew.symm; subst ew; rw [d1])
                            | (go_at_call 19; clear tk2; refine (l1In_any _ _ _ _).mono ?_; rintro e w6 ⟨rfl, ew⟩; replace ew := ew.symm; subst ew; rw [d2])
                            | (go_at_call 19; clear tk3; refine (l1In_any _ _ _ _).mono ?_; rintro e w6 ⟨rfl, ew⟩; replace ew := ew.symm; subst ew; rw [d3])
                            | (go_at_call 21; refine (l8Trial_any _ _ _ c _ _ _ (ms k).tr _ hl HC.out (HR.out.below HAL.out) hnk HTA.out).mono ?_; rintro e w7 ⟨rfl, b7⟩; rw [d4]; have HX7 : Hid (CB w7 w.heap.size #[.slice fa len cap, .int .i64 u, .slice (some ⟨kb, off, none⟩) m rcap, .int .i64 mi, .int .i64 sf] 31) := (HK.out.1.alloc _).below b7 (HK.out.1.alloc _).lt; have HB7 : Hid (Below w.heap.size w w7) := bel_on HAL.out b7; clear b7))
                          go_roundw
                          case rel => exact ⟨k + 1, by omega, by go_num, HX7.out, HMN.out, HB7.out⟩
                          case measure => simp [intOf]; omega
              · obtain rfl : k = m := by omega
                have lkk : ¬ (k : Int) < (k : Int) := by omega
                have HF : Hid (grB len c u k ms mi sf = true) := grB_t ⟨⟨hv, h1⟩, h2, h3, h4, h5, HK.out.2.1⟩
                go_wp2
                go_returns
                exact ⟨ret_bool HF.out.symm, HK.out.2.2⟩
end Go.Proofs.YtoihiamafbokbaaDoor
