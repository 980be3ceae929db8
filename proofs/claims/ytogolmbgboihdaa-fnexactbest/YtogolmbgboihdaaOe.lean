/- Occupy of the program and of the model: both answer 'ocB' and 'ocF'. -/
import Derived.Test.YtogolmbgboihdaaOd
import Derived.Test.YtogolmbgboihdaaFe
namespace Go.Proofs.Ytogolmbgboihdaa
open Go.ChangeShapes Go.WideShapes Go.ChangeAt Go.RowKit
set_option linter.unusedVariables false
set_option linter.unusedSimpArgs false

theorem ret_p {a b c d : Int} (h1 : a = b) (h2 : c = d) : Ending.returned (.tuple #[.int .i64 a, .int .i64 c]) = .returned (.tuple #[.int .i64 b, .int .i64 d]) := by rw [h1, h2]
theorem oc_ma {r : MA3} {f q : Int} (h : maB r = false) : ¬ OcG r f q := fun H => maB_f h H.1.1
theorem oc_f {r : MA3} {f q : Int} (h : inB f 0 5000 = false) : ¬ OcG r f q := fun H => inB_f h H.1.2.1
theorem oc_q {r : MA3} {f q : Int} (h : q < 0 ∨ 1000 < q) : ¬ OcG r f q := fun H => by have := H.1.2.2; omega

set_option maxRecDepth 20000 in
set_option maxHeartbeats 4000000 in
theorem implOccupy_any (r : MA3) (f q : Int) (w : World) : Calls Try.prog 17 #[r.val, .int .i64 f, .int .i64 q] w fun e w' => e = .returned (.tuple #[.int .i64 (ocB r f q), .int .i64 (ocF r f q)]) ∧ Below w.heap.size w w' := by
  have HBL : Hid (Below w.heap.size w (w.alloc (.cells #[.int .i64 r.op, .int .i64 r.sh, .int .i64 r.st] 43 (0, 0)))) := (Below.refl _ _).alloc (Nat.le_refl _) _
  have HCB : Hid (CB (w.alloc (.cells #[.int .i64 r.op, .int .i64 r.sh, .int .i64 r.st] 43 (0, 0))) w.heap.size #[.int .i64 r.op, .int .i64 r.sh, .int .i64 r.st] 43) := CB.new _ _
  obtain ⟨x0, x1, x2⟩ := r
  unfold MA3.val
  simp only at HBL HCB
  cases h0 : maB ⟨x0, x1, x2⟩
  · have HV := hid (oc_no (oc_ma (f := f) (q := q) h0))
    have H0 : Hid (maB ⟨x0, x1, x2⟩ = false) := h0
    clear h0
    go_enter Try.func17, Try.ntmps17
    go_wp2_with (first | (go_at_call 56; refine (maRight_eq ⟨x0, x1, x2⟩ _ _ H0.out).mono ?_; rintro e w1 ⟨rfl, b1⟩; have HC1 : Hid (CB w1 w.heap.size #[.int .i64 x0, .int .i64 x1, .int .i64 x2] 43) := HCB.out.below b1 HCB.out.lt; have k0 := (HC1.out.cell 0).trans rfl; have k1 := (HC1.out.cell 1).trans rfl; have k2 := (HC1.out.cell 2).trans rfl; have HB1 : Hid (Below w.heap.size w w1) := bel_on HBL.out b1; clear b1) | (go_at_call 57; refine (isHour_any _ _).mono ?_; rintro e wh ⟨rfl, ew⟩; replace ew := ew.symm; subst ew) | (go_at_call 58; refine (HN1.out _).mono ?_; rintro e w2 ⟨rfl, b2⟩; have HB2 : Hid (Below w.heap.size w w2) := bel_on HB1.out b2; clear b2))
    go_returns
    exact ⟨ret_p HV.out.1.symm HV.out.2.symm, HB1.out⟩
  have H0 : Hid (maB ⟨x0, x1, x2⟩ = true) := h0
  have hma : 0 ≤ x0 ∧ x0 < x1 ∧ x1 ≤ 24 ∧ 0 ≤ x2 ∧ x2 ≤ 100 := maB_p h0
  have ho : 0 ≤ x0 ∧ x0 < x1 ∧ x1 ≤ 24 := ⟨hma.1, hma.2.1, hma.2.2.1⟩
  clear h0
  cases h1 : inB f 0 5000
  · have HV := hid (oc_no (oc_f (r := ⟨x0, x1, x2⟩) (q := q) h1))
    go_enter Try.func17, Try.ntmps17
    go_wp2_with (first | (go_at_call 56; refine (maRight_eq ⟨x0, x1, x2⟩ _ _ H0.out).mono ?_; rintro e w1 ⟨rfl, b1⟩; have HC1 : Hid (CB w1 w.heap.size #[.int .i64 x0, .int .i64 x1, .int .i64 x2] 43) := HCB.out.below b1 HCB.out.lt; have k0 := (HC1.out.cell 0).trans rfl; have k1 := (HC1.out.cell 1).trans rfl; have k2 := (HC1.out.cell 2).trans rfl; have HB1 : Hid (Below w.heap.size w w1) := bel_on HBL.out b1; clear b1) | (go_at_call 57; refine (isHour_any _ _).mono ?_; rintro e wh ⟨rfl, ew⟩; replace ew := ew.symm; subst ew) | (go_at_call 58; refine (HN1.out _).mono ?_; rintro e w2 ⟨rfl, b2⟩; have HB2 : Hid (Below w.heap.size w w2) := bel_on HB1.out b2; clear b2))
    go_returns
    exact ⟨ret_p HV.out.1.symm HV.out.2.symm, HB1.out⟩
  have hf := inB_t h1
  by_cases h2 : q < 0
  · have HV := hid (oc_no (oc_q (r := ⟨x0, x1, x2⟩) (f := f) (.inl h2)))
    go_enter Try.func17, Try.ntmps17
    go_wp2_with (first | (go_at_call 56; refine (maRight_eq ⟨x0, x1, x2⟩ _ _ H0.out).mono ?_; rintro e w1 ⟨rfl, b1⟩; have HC1 : Hid (CB w1 w.heap.size #[.int .i64 x0, .int .i64 x1, .int .i64 x2] 43) := HCB.out.below b1 HCB.out.lt; have k0 := (HC1.out.cell 0).trans rfl; have k1 := (HC1.out.cell 1).trans rfl; have k2 := (HC1.out.cell 2).trans rfl; have HB1 : Hid (Below w.heap.size w w1) := bel_on HBL.out b1; clear b1) | (go_at_call 57; refine (isHour_any _ _).mono ?_; rintro e wh ⟨rfl, ew⟩; replace ew := ew.symm; subst ew) | (go_at_call 58; refine (HN1.out _).mono ?_; rintro e w2 ⟨rfl, b2⟩; have HB2 : Hid (Below w.heap.size w w2) := bel_on HB1.out b2; clear b2))
    go_returns
    exact ⟨ret_p HV.out.1.symm HV.out.2.symm, HB1.out⟩
  by_cases h3 : 1000 < q
  · have HV := hid (oc_no (oc_q (r := ⟨x0, x1, x2⟩) (f := f) (.inr h3)))
    go_enter Try.func17, Try.ntmps17
    go_wp2_with (first | (go_at_call 56; refine (maRight_eq ⟨x0, x1, x2⟩ _ _ H0.out).mono ?_; rintro e w1 ⟨rfl, b1⟩; have HC1 : Hid (CB w1 w.heap.size #[.int .i64 x0, .int .i64 x1, .int .i64 x2] 43) := HCB.out.below b1 HCB.out.lt; have k0 := (HC1.out.cell 0).trans rfl; have k1 := (HC1.out.cell 1).trans rfl; have k2 := (HC1.out.cell 2).trans rfl; have HB1 : Hid (Below w.heap.size w w1) := bel_on HBL.out b1; clear b1) | (go_at_call 57; refine (isHour_any _ _).mono ?_; rintro e wh ⟨rfl, ew⟩; replace ew := ew.symm; subst ew) | (go_at_call 58; refine (HN1.out _).mono ?_; rintro e w2 ⟨rfl, b2⟩; have HB2 : Hid (Below w.heap.size w w2) := bel_on HB1.out b2; clear b2))
    go_returns
    exact ⟨ret_p HV.out.1.symm HV.out.2.symm, HB1.out⟩
  have hp : OcP ⟨x0, x1, x2⟩ f q := ⟨hma, hf, by omega, by omega⟩
  have hpk := pick_ol ho (far f) f 0 rfl (by omega)
  have hd := dst_bd (h := f) ho
  obtain ⟨P, hP⟩ : ∃ P, pick (ol x0 x1 (far f) f) 0 = P := ⟨_, rfl⟩
  have hnx : nxE x0 x1 (0 + 1) f = f + dst x0 x1 f + 1 := rfl
  rw [hP, hnx] at hpk
  have HN1 : Hid (∀ W : World, Calls Try.prog 58 #[.agg #[.int .i64 x0, .int .i64 x1, .int .i64 x2], .int .i64 f, .int .i64 1] W fun e w' => e = .returned (.int .i64 P) ∧ Below W.heap.size W w') := fun W => by
    have := nthOpen_any x0 x1 x2 f 1 W hf.1 hf.2 (by omega) (by omega)
    rw [show ((1 : Int) - 1).toNat = 0 from rfl, hP] at this; exact this
  clear hP
  by_cases h4 : q = 0
  · subst h4
    have HV : Hid (P = ocB ⟨x0, x1, x2⟩ f 0 ∧ P = ocF ⟨x0, x1, x2⟩ f 0) := by
      by_cases g : f + dst x0 x1 f ≤ 5000
      · have G : OcG ⟨x0, x1, x2⟩ f 0 := ⟨hp, g⟩
        rw [if_pos (by omega)] at hpk
        have e := oc_yes G
        have e2 : ocE x0 x1 f (0 : Int).toNat = f + dst x0 x1 f := rfl
        exact ⟨by rw [e.1]; simp only; omega, by rw [e.2]; simp only; omega⟩
      · have G : ¬ OcG ⟨x0, x1, x2⟩ f 0 := fun H => g H.2
        rw [if_neg (by omega)] at hpk
        have e := oc_no G
        exact ⟨by rw [e.1]; exact hpk, by rw [e.2]; exact hpk⟩
    clear hpk
    go_enter Try.func17, Try.ntmps17
    go_wp2_with (first | (go_at_call 56; refine (maRight_eq ⟨x0, x1, x2⟩ _ _ H0.out).mono ?_; rintro e w1 ⟨rfl, b1⟩; have HC1 : Hid (CB w1 w.heap.size #[.int .i64 x0, .int .i64 x1, .int .i64 x2] 43) := HCB.out.below b1 HCB.out.lt; have k0 := (HC1.out.cell 0).trans rfl; have k1 := (HC1.out.cell 1).trans rfl; have k2 := (HC1.out.cell 2).trans rfl; have HB1 : Hid (Below w.heap.size w w1) := bel_on HBL.out b1; clear b1) | (go_at_call 57; refine (isHour_any _ _).mono ?_; rintro e wh ⟨rfl, ew⟩; replace ew := ew.symm; subst ew) | (go_at_call 58; refine (HN1.out _).mono ?_; rintro e w2 ⟨rfl, b2⟩; have HB2 : Hid (Below w.heap.size w w2) := bel_on HB1.out b2; clear b2))
    go_returns
    exact ⟨ret_p HV.out.1 HV.out.2, HB2.out⟩
  have hpl := pick_ol ho (far f) f (q - 1).toNat rfl (by omega)
  have hlo := nx_lo ho (q - 1).toNat f
  have hq1 : (q - 1).toNat + 1 = q.toNat := by omega
  obtain ⟨L, hL⟩ : ∃ L, pick (ol x0 x1 (far f) f) (q - 1).toNat = L := ⟨_, rfl⟩
  rw [hq1] at hpl hlo
  have hEv : ocE x0 x1 f q.toNat = nxE x0 x1 q.toNat f := if_neg (by omega)
  have HN2 : Hid (∀ W : World, Calls Try.prog 58 #[.agg #[.int .i64 x0, .int .i64 x1, .int .i64 x2], .int .i64 f, .int .i64 q] W fun e w' => e = .returned (.int .i64 L) ∧ Below W.heap.size W w') := fun W => by
    have := nthOpen_any x0 x1 x2 f q W hf.1 hf.2 (by omega) (by omega)
    rw [hL] at this; exact this
  rw [hL] at hpl
  clear hL hq1
  have tok1 : True := trivial
  by_cases g : nxE x0 x1 q.toNat f ≤ 5000
  · have e := oc_yes (r := ⟨x0, x1, x2⟩) (f := f) (q := q) ⟨hp, by simp only; rw [hEv]; exact g⟩
    rw [if_pos (by omega)] at hpk hpl
    have HV : Hid (P = ocB ⟨x0, x1, x2⟩ f q ∧ L + 1 = ocF ⟨x0, x1, x2⟩ f q) := ⟨by rw [e.1]; simp only; omega, by rw [e.2]; simp only; rw [hEv]; omega⟩
    have hL1 : ¬ L = -1 := by omega
    have hL2 : ¬ L = 5000 := by omega
    have hL3 : L ≤ 5000 := by omega
    have hL5 : (L == -1) = false := by simp; omega
    have hL6 : (L == 5000) = false := by simp; omega
    have hL4 : 0 ≤ L := by omega
    clear hpk hpl hlo hEv e g
    go_enter Try.func17, Try.ntmps17
    go_wp2_with (first | (go_at_call 56; refine (maRight_eq ⟨x0, x1, x2⟩ _ _ H0.out).mono ?_; rintro e w1 ⟨rfl, b1⟩; have HC1 : Hid (CB w1 w.heap.size #[.int .i64 x0, .int .i64 x1, .int .i64 x2] 43) := HCB.out.below b1 HCB.out.lt; have k0 := (HC1.out.cell 0).trans rfl; have k1 := (HC1.out.cell 1).trans rfl; have k2 := (HC1.out.cell 2).trans rfl; have HB1 : Hid (Below w.heap.size w w1) := bel_on HBL.out b1; clear b1) | (go_at_call 57; refine (isHour_any _ _).mono ?_; rintro e wh ⟨rfl, ew⟩; replace ew := ew.symm; subst ew) | (go_at_call 58; clear tok1; refine (HN1.out _).mono ?_; rintro e w2 ⟨rfl, b2⟩; have HC2 := hid (HC1.out.below b2 HC1.out.lt); have j0 := (HC2.out.cell 0).trans rfl; have j1 := (HC2.out.cell 1).trans rfl; have j2 := (HC2.out.cell 2).trans rfl; have HB2 : Hid (Below w.heap.size w w2) := bel_on HB1.out b2; clear b2) | (go_at_call 58; refine (HN2.out _).mono ?_; rintro e w3 ⟨rfl, b3⟩; have HB3 : Hid (Below w.heap.size w w3) := bel_on HB2.out b3; clear b3))
    go_returns
    exact ⟨ret_p HV.out.1 HV.out.2, HB3.out⟩
  · have e := oc_no (r := ⟨x0, x1, x2⟩) (f := f) (q := q) fun H => g (by have := H.2; simp only at this; rw [hEv] at this; exact this)
    have HV := hid e
    by_cases g2 : nxE x0 x1 q.toNat f ≤ 5001
    · rw [if_pos g2] at hpl
      have hL : L = 5000 := by omega
      clear hpk hpl hlo hEv e g g2
      go_enter Try.func17, Try.ntmps17
      subst hL
      go_wp2_with (first | (go_at_call 56; refine (maRight_eq ⟨x0, x1, x2⟩ _ _ H0.out).mono ?_; rintro e w1 ⟨rfl, b1⟩; have HC1 : Hid (CB w1 w.heap.size #[.int .i64 x0, .int .i64 x1, .int .i64 x2] 43) := HCB.out.below b1 HCB.out.lt; have k0 := (HC1.out.cell 0).trans rfl; have k1 := (HC1.out.cell 1).trans rfl; have k2 := (HC1.out.cell 2).trans rfl; have HB1 : Hid (Below w.heap.size w w1) := bel_on HBL.out b1; clear b1) | (go_at_call 57; refine (isHour_any _ _).mono ?_; rintro e wh ⟨rfl, ew⟩; replace ew := ew.symm; subst ew) | (go_at_call 58; clear tok1; refine (HN1.out _).mono ?_; rintro e w2 ⟨rfl, b2⟩; have HC2 := hid (HC1.out.below b2 HC1.out.lt); have j0 := (HC2.out.cell 0).trans rfl; have j1 := (HC2.out.cell 1).trans rfl; have j2 := (HC2.out.cell 2).trans rfl; have HB2 : Hid (Below w.heap.size w w2) := bel_on HB1.out b2; clear b2) | (go_at_call 58; refine (HN2.out _).mono ?_; rintro e w3 ⟨rfl, b3⟩; have HB3 : Hid (Below w.heap.size w w3) := bel_on HB2.out b3; clear b3))
      go_returns
      exact ⟨ret_p HV.out.1.symm HV.out.2.symm, HB3.out⟩
    · rw [if_neg g2] at hpl
      have hL : L = -1 := by omega
      clear hpk hpl hlo hEv e g g2
      go_enter Try.func17, Try.ntmps17
      subst hL
      go_wp2_with (first | (go_at_call 56; refine (maRight_eq ⟨x0, x1, x2⟩ _ _ H0.out).mono ?_; rintro e w1 ⟨rfl, b1⟩; have HC1 : Hid (CB w1 w.heap.size #[.int .i64 x0, .int .i64 x1, .int .i64 x2] 43) := HCB.out.below b1 HCB.out.lt; have k0 := (HC1.out.cell 0).trans rfl; have k1 := (HC1.out.cell 1).trans rfl; have k2 := (HC1.out.cell 2).trans rfl; have HB1 : Hid (Below w.heap.size w w1) := bel_on HBL.out b1; clear b1) | (go_at_call 57; refine (isHour_any _ _).mono ?_; rintro e wh ⟨rfl, ew⟩; replace ew := ew.symm; subst ew) | (go_at_call 58; clear tok1; refine (HN1.out _).mono ?_; rintro e w2 ⟨rfl, b2⟩; have HC2 := hid (HC1.out.below b2 HC1.out.lt); have j0 := (HC2.out.cell 0).trans rfl; have j1 := (HC2.out.cell 1).trans rfl; have j2 := (HC2.out.cell 2).trans rfl; have HB2 : Hid (Below w.heap.size w w2) := bel_on HB1.out b2; clear b2) | (go_at_call 58; refine (HN2.out _).mono ?_; rintro e w3 ⟨rfl, b3⟩; have HB3 : Hid (Below w.heap.size w w3) := bel_on HB2.out b3; clear b3))
      go_returns
      exact ⟨ret_p HV.out.1.symm HV.out.2.symm, HB3.out⟩

set_option maxRecDepth 20000 in
set_option maxHeartbeats 4000000 in
theorem specOccupy_any (r : MA3) (f q : Int) (w : World) : Calls Try.prog 32 #[r.val, .int .i64 f, .int .i64 q] w fun e w' => e = .returned (.tuple #[.int .i64 (ocB r f q), .int .i64 (ocF r f q)]) ∧ Below w.heap.size w w' := by
  have HBL : Hid (Below w.heap.size w (w.alloc (.cells #[.int .i64 r.op, .int .i64 r.sh, .int .i64 r.st] 43 (0, 0)))) := (Below.refl _ _).alloc (Nat.le_refl _) _
  have HCB : Hid (CB (w.alloc (.cells #[.int .i64 r.op, .int .i64 r.sh, .int .i64 r.st] 43 (0, 0))) w.heap.size #[.int .i64 r.op, .int .i64 r.sh, .int .i64 r.st] 43) := CB.new _ _
  obtain ⟨x0, x1, x2⟩ := r
  unfold MA3.val
  simp only at HBL HCB
  cases h0 : maB ⟨x0, x1, x2⟩
  · have HV := hid (oc_no (oc_ma (f := f) (q := q) h0))
    have H0 : Hid (maB ⟨x0, x1, x2⟩ = false) := h0
    clear h0
    go_enter Try.func32, Try.ntmps32
    go_wp2_with (first | (go_at_call 68; refine (l19Machine_eq ⟨x0, x1, x2⟩ _ _ H0.out).mono ?_; rintro e w1 ⟨rfl, b1⟩; have HC1 : Hid (CB w1 w.heap.size #[.int .i64 x0, .int .i64 x1, .int .i64 x2] 43) := HCB.out.below b1 HCB.out.lt; have HB1 : Hid (Below w.heap.size w w1) := bel_on HBL.out b1; clear b1) | (go_at_call 77; refine (l19Hour_any _ _).mono ?_; rintro e wh ⟨rfl, ew⟩; replace ew := ew.symm; subst ew) | (go_at_call 66; refine (l1In_any _ _ _ _).mono ?_; rintro e wh ⟨rfl, ew⟩; replace ew := ew.symm; subst ew))
    go_returns
    exact ⟨ret_p HV.out.1.symm HV.out.2.symm, HB1.out⟩
  have H0 : Hid (maB ⟨x0, x1, x2⟩ = true) := h0
  have hma : 0 ≤ x0 ∧ x0 < x1 ∧ x1 ≤ 24 ∧ 0 ≤ x2 ∧ x2 ≤ 100 := maB_p h0
  have ho : 0 ≤ x0 ∧ x0 < x1 ∧ x1 ≤ 24 := ⟨hma.1, hma.2.1, hma.2.2.1⟩
  clear h0
  cases h1 : inB f 0 5000
  · have HV := hid (oc_no (oc_f (r := ⟨x0, x1, x2⟩) (q := q) h1))
    go_enter Try.func32, Try.ntmps32
    go_wp2_with (first | (go_at_call 68; refine (l19Machine_eq ⟨x0, x1, x2⟩ _ _ H0.out).mono ?_; rintro e w1 ⟨rfl, b1⟩; have HC1 : Hid (CB w1 w.heap.size #[.int .i64 x0, .int .i64 x1, .int .i64 x2] 43) := HCB.out.below b1 HCB.out.lt; have HB1 : Hid (Below w.heap.size w w1) := bel_on HBL.out b1; clear b1) | (go_at_call 77; refine (l19Hour_any _ _).mono ?_; rintro e wh ⟨rfl, ew⟩; replace ew := ew.symm; subst ew) | (go_at_call 66; refine (l1In_any _ _ _ _).mono ?_; rintro e wh ⟨rfl, ew⟩; replace ew := ew.symm; subst ew))
    go_returns
    exact ⟨ret_p HV.out.1.symm HV.out.2.symm, HB1.out⟩
  have hf := inB_t h1
  cases h2 : inB q 0 1000
  · have HV := hid (oc_no (oc_q (r := ⟨x0, x1, x2⟩) (f := f) (q := q) (by have := inB_f h2; omega)))
    go_enter Try.func32, Try.ntmps32
    go_wp2_with (first | (go_at_call 68; refine (l19Machine_eq ⟨x0, x1, x2⟩ _ _ H0.out).mono ?_; rintro e w1 ⟨rfl, b1⟩; have HC1 : Hid (CB w1 w.heap.size #[.int .i64 x0, .int .i64 x1, .int .i64 x2] 43) := HCB.out.below b1 HCB.out.lt; have HB1 : Hid (Below w.heap.size w w1) := bel_on HBL.out b1; clear b1) | (go_at_call 77; refine (l19Hour_any _ _).mono ?_; rintro e wh ⟨rfl, ew⟩; replace ew := ew.symm; subst ew) | (go_at_call 66; refine (l1In_any _ _ _ _).mono ?_; rintro e wh ⟨rfl, ew⟩; replace ew := ew.symm; subst ew))
    go_returns
    exact ⟨ret_p HV.out.1.symm HV.out.2.symm, HB1.out⟩
  have hq := inB_t h2
  have HP : Hid (OcP ⟨x0, x1, x2⟩ f q) := ⟨hma, hf, hq⟩
  have hd := dst_bd (h := f) ho
  obtain ⟨B, hB⟩ : ∃ B, f + dst x0 x1 f = B := ⟨_, rfl⟩
  have HBV : Hid (f + dst x0 x1 f = B) := hB
  go_enter Try.func32, Try.ntmps32
  go_wp2_with (first | (go_at_call 68; refine (l19Machine_eq ⟨x0, x1, x2⟩ _ _ H0.out).mono ?_; rintro e w1 ⟨rfl, b1⟩; have HC1 : Hid (CB w1 w.heap.size #[.int .i64 x0, .int .i64 x1, .int .i64 x2] 43) := HCB.out.below b1 HCB.out.lt; have HB1 : Hid (Below w.heap.size w w1) := bel_on HBL.out b1; clear b1) | (go_at_call 77; refine (l19Hour_any _ _).mono ?_; rintro e wh ⟨rfl, ew⟩; replace ew := ew.symm; subst ew) | (go_at_call 66; refine (l1In_any _ _ _ _).mono ?_; rintro e wh ⟨rfl, ew⟩; replace ew := ew.symm; subst ew))
  go_loopw [8] (fun v wr => ∃ t : Int, v = .int .i64 t ∧ 0 ≤ t ∧ t ≤ B ∧ t + dst x0 x1 t = B ∧ Hid (Below w.heap.size w wr ∧ CB wr w.heap.size #[.int .i64 x0, .int .i64 x1, .int .i64 x2] 43)) (fun v _ => (B - intOf v).toNat)
  case atStart => exact ⟨f, rfl, hf.1, by omega, hB, HB1.out, HC1.out⟩
  case round =>
    obtain ⟨t, rfl, t0, t1, t2, HH⟩ := hrel
    have k0 := (HH.out.2.cell 0).trans rfl
    have k1 := (HH.out.2.cell 1).trans rfl
    have hmod : Int.tmod t 24 = t % 24 := Int.tmod_eq_emod_of_nonneg t0
    cases g : opB x0 x1 t
    · have hs := dst_s ho g
      have hsb := dst_bd (h := t + 1) ho
      have HI : Hid (inB (t % 24) x0 (x1 - 1) = false) := hid (decide_eq_false (by have := opB_f g; omega))
      go_wp2_with (go_at_call 66; go_loud (refine (l1In_eq _ _ _ _ _ HI.out).mono ?_); rintro e w2 ⟨rfl, ew⟩; replace ew := ew.symm; subst ew)
      go_roundw
      case rel => exact ⟨t + 1, by go_num, by omega, by omega, by omega, HH.out⟩
      case measure => simp [intOf]; omega
    · have h0 := dst_0 g
      have HI : Hid (inB (t % 24) x0 (x1 - 1) = true) := hid (decide_eq_true (by have := opB_t g; omega))
      obtain rfl : t = B := by omega
      go_wp2_with (go_at_call 66; go_loud (refine (l1In_eq _ _ _ _ _ HI.out).mono ?_); rintro e w2 ⟨rfl, ew⟩; replace ew := ew.symm; subst ew)
      have HE0 : Hid ((q.toNat = 0 → t = ocE x0 x1 f q.toNat) ∧ (0 < q.toNat → nxE x0 x1 q.toNat t = ocE x0 x1 f q.toNat)) := by
        refine ⟨fun h => ?_, fun h => ?_⟩
        · show t = if q.toNat = 0 then f + dst x0 x1 f else _
          rw [if_pos h]; exact HBV.out.symm
        · show _ = if q.toNat = 0 then f + dst x0 x1 f else _
          rw [if_neg (by omega)]
          obtain ⟨k, hk⟩ : ∃ k, q.toNat = k + 1 := ⟨q.toNat - 1, by omega⟩
          rw [hk]; exact nx_b HBV.out h0
      obtain ⟨EF, hEF⟩ : ∃ E, ocE x0 x1 f q.toNat = E := ⟨_, rfl⟩
      rw [hEF] at HE0
      have HEF : Hid (ocE x0 x1 f q.toNat = EF) := hEF
      have HW := HH
      obtain ⟨N, hN⟩ : ∃ N : Nat, q = (N : Int) := ⟨q.toNat, by omega⟩
      have HNV : Hid (q = (N : Int)) := hN
      have hN2 : q.toNat = N := by omega
      rw [hN2] at HE0
      rw [hN]
      have tb : t ≤ 5023 := by omega
      have nb : N ≤ 1000 := by omega
      clear HH hEF hN k0 k1 hmod g HI hN2
      go_loopw [2, 9, 10] (fun a b c wr => ∃ (n : Nat) (e s : Int), a = .int .i64 (n : Int) ∧ b = .int .i64 e ∧ c = .int .i64 s ∧ 0 ≤ s ∧ s + 25 * (n : Int) + dst x0 x1 s ≤ 30100 ∧ Hid ((n = 0 → e = EF) ∧ (0 < n → nxE x0 x1 n s = EF)) ∧ Hid (Below w.heap.size w wr ∧ CB wr w.heap.size #[.int .i64 x0, .int .i64 x1, .int .i64 x2] 43)) (fun a _ c _ => (25 * (intOf a).toNat + (dst x0 x1 (intOf c)).toNat))
      case atStart => exact ⟨N, t, t, rfl, rfl, rfl, t0, by omega, HE0, HW⟩
      case round =>
        obtain ⟨n, e, s, rfl, rfl, rfl, s0, s1, HN, HH⟩ := hrel
        have hsd := dst_bd (h := s) ho
        by_cases hn : 0 < n
        · have hn2 : 0 < (n : Int) := by omega
          have k0 := (HH.out.2.cell 0).trans rfl
          have k1 := (HH.out.2.cell 1).trans rfl
          have hmod : Int.tmod s 24 = s % 24 := Int.tmod_eq_emod_of_nonneg s0
          obtain ⟨m, rfl⟩ : ∃ m, n = m + 1 := ⟨n - 1, by omega⟩
          cases g : opB x0 x1 s
          · have hs := dst_s ho g
            have hsb := dst_bd (h := s + 1) ho
            have HX : Hid ((m + 1 = 0 → e = EF) ∧ (0 < m + 1 → nxE x0 x1 (m + 1) (s + 1) = EF)) := ⟨fun h => by omega, fun _ => by rw [← nx_s ho g]; exact HN.out.2 hn⟩
            have HI : Hid (inB (s % 24) x0 (x1 - 1) = false) := hid (decide_eq_false (by have := opB_f g; omega))
            go_wp2_with (go_at_call 66; refine (l1In_eq _ _ _ _ _ HI.out).mono ?_; rintro e w2 ⟨rfl, ew⟩; replace ew := ew.symm; subst ew)
            go_roundw
            case rel => exact ⟨m + 1, e, s + 1, rfl, rfl, by go_num, by omega, by omega, HX, HH⟩
            case measure => simp [intOf]; omega
          · have hs0 := dst_0 g
            have hsb := dst_bd (h := s + 1) ho
            have HX : Hid ((m = 0 → s + 1 = EF) ∧ (0 < m → nxE x0 x1 m (s + 1) = EF)) := by
              have e1 := HN.out.2 hn
              rw [nx_o g] at e1
              refine ⟨fun h => ?_, fun h => ?_⟩
              · rw [if_pos h] at e1; exact e1
              · rw [if_neg (by omega)] at e1; exact e1
            have HI : Hid (inB (s % 24) x0 (x1 - 1) = true) := hid (decide_eq_true (by have := opB_t g; omega))
            have hm2 : ((m + 1 : Nat) : Int) - 1 = (m : Int) := by omega
            go_wp2_with (go_at_call 66; refine (l1In_eq _ _ _ _ _ HI.out).mono ?_; rintro e w2 ⟨rfl, ew⟩; replace ew := ew.symm; subst ew)
            go_roundw
            case rel => exact ⟨m, s + 1, s + 1, by go_num, by go_num, by go_num, by omega, by omega, HX, HH⟩
            case measure => simp [intOf]; omega
        · obtain rfl : n = 0 := by omega
          have l0 : ¬ (0 : Int) < ((0 : Nat) : Int) := by omega
          obtain rfl : e = EF := HN.out.1 rfl
          by_cases g5 : 5000 < e
          · have HV := hid (oc_no (r := ⟨x0, x1, x2⟩) (f := f) (q := q) fun H => by have := H.2; simp only at this; rw [HEF.out] at this; omega)
            go_wp2
            go_returns
            exact ⟨ret_p HV.out.1.symm HV.out.2.symm, HH.out.1⟩
          · have HV := hid (oc_yes (r := ⟨x0, x1, x2⟩) (f := f) (q := q) ⟨HP.out, by simp only; rw [HEF.out]; omega⟩)
            go_wp2
            go_returns
            exact ⟨ret_p (by rw [HV.out.1]; exact HBV.out.symm) (by rw [HV.out.2]; exact HEF.out.symm), HH.out.1⟩
end Go.Proofs.Ytogolmbgboihdaa
