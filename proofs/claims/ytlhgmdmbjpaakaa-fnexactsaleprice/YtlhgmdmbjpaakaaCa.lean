/- CreditNote of the program and of the model: what is given back. -/
import Derived.Test.YtlhgmdmbjpaakaaSm
import Derived.Test.YtlhgmdmbjpaakaaMj
import Derived.Test.YtlhgmdmbjpaakaaMm
namespace Go.Proofs.Ytlhgmdmbjpaakaa
open Go.ChangeShapes Go.WideShapes Go.ChangeAt Go.RowKit
set_option linter.unusedVariables false
set_option linter.unusedSimpArgs false

theorem md_abs (a num den m : Int) : -100000000000 ≤ mdV a num den m ∧ mdV a num den m ≤ 100000000000 := by
  by_cases h : MdOk a num den m
  · by_cases g : -100000000000 ≤ dv (a * num) den m ∧ dv (a * num) den m ≤ 100000000000
    · rw [(md_in h g.1 g.2).2]; exact g
    · rw [(md_out g).2]; omega
  · rw [(md_bad h).2]; omega
def CrP (t q b m : Int) : Prop := (-100000000000 ≤ t ∧ t ≤ 100000000000) ∧ (1 ≤ q ∧ q ≤ 1000000) ∧ 0 ≤ b ∧ b ≤ q ∧ 0 ≤ m ∧ m ≤ q - b
open Classical in
noncomputable def crB (t q b m : Int) : Bool := decide (CrP t q b m)
open Classical in
theorem crB_t {t q b m : Int} (h : CrP t q b m) : crB t q b m = true := by unfold crB; exact decide_eq_true h
open Classical in
theorem crB_f {t q b m : Int} (h : ¬ CrP t q b m) : crB t q b m = false := by unfold crB; exact decide_eq_false h
open Classical in
theorem crB_p {t q b m : Int} (h : crB t q b m = true) : CrP t q b m := by unfold crB at h; exact of_decide_eq_true h
noncomputable def crV (t q b m : Int) : Int := if crB t q b m = true then mdV t (b + m) q 3 - mdV t b q 3 else 0
theorem crV_no {t q b m : Int} (h : crB t q b m = false) : crV t q b m = 0 := by unfold crV; rw [h]; exact if_neg (by decide)
theorem crV_yes {t q b m : Int} (h : crB t q b m = true) : crV t q b m = mdV t (b + m) q 3 - mdV t b q 3 := by unfold crV; exact if_pos h
theorem ret_ib {a b : Int} {x y : Bool} (h : a = b) (l : x = y) : Ending.returned (.tuple #[.int .i64 a, .bool x]) = .returned (.tuple #[.int .i64 b, .bool y]) := by rw [h, l]

set_option maxRecDepth 20000 in
set_option maxHeartbeats 4000000 in
theorem implCredit_any (t q b m : Int) (w : World) : Calls Try.prog 14 #[.int .i64 t, .int .i64 q, .int .i64 b, .int .i64 m] w fun e w' => e = .returned (.tuple #[.int .i64 (crV t q b m), .bool (crB t q b m)]) ∧ Below w.heap.size w w' := by
  have tok1 : True := trivial
  have tok2 : True := trivial
  cases ha : inB t (-100000000000) 100000000000
  · have HB : Hid (crB t q b m = false) := hid (crB_f (fun H => inB_f ha H.1))
    go_enter Try.func14, Try.ntmps14
    go_wp2_with (first | (go_at_call 48; refine (isAmt_eq _ _ _ ha).mono ?_; rintro e w0 ⟨rfl, ew⟩; replace ew := ew.symm; subst ew) | (go_at_call 49; refine (isQtyA_eq _ _ _ hq).mono ?_; rintro e w0 ⟨rfl, ew⟩; replace ew := ew.symm; subst ew) | (go_at_call 24; clear tok1; refine (HM1.out _).mono ?_; rintro e w1 ⟨rfl, b1⟩; have HB1 : Hid (Below w.heap.size w w1) := b1; clear b1) | (go_at_call 24; refine (HM2.out _).mono ?_; rintro e w2 ⟨rfl, b2⟩; have HB2 : Hid (Below w.heap.size w w2) := bel_on HB1.out b2; clear b2))
    go_returns
    exact ⟨ret_ib (crV_no HB.out).symm HB.out.symm, Below.refl _ _⟩
  cases hq : inB q 1 1000000
  · have HB : Hid (crB t q b m = false) := hid (crB_f (fun H => inB_f hq H.2.1))
    go_enter Try.func14, Try.ntmps14
    go_wp2_with (first | (go_at_call 48; refine (isAmt_eq _ _ _ ha).mono ?_; rintro e w0 ⟨rfl, ew⟩; replace ew := ew.symm; subst ew) | (go_at_call 49; refine (isQtyA_eq _ _ _ hq).mono ?_; rintro e w0 ⟨rfl, ew⟩; replace ew := ew.symm; subst ew) | (go_at_call 24; clear tok1; refine (HM1.out _).mono ?_; rintro e w1 ⟨rfl, b1⟩; have HB1 : Hid (Below w.heap.size w w1) := b1; clear b1) | (go_at_call 24; refine (HM2.out _).mono ?_; rintro e w2 ⟨rfl, b2⟩; have HB2 : Hid (Below w.heap.size w w2) := bel_on HB1.out b2; clear b2))
    go_returns
    exact ⟨ret_ib (crV_no HB.out).symm HB.out.symm, Below.refl _ _⟩
  have hq2 := inB_t hq
  by_cases g0 : b < 0
  · have HB : Hid (crB t q b m = false) := hid (crB_f (fun H => by have := H.2.2.1; omega))
    go_enter Try.func14, Try.ntmps14
    go_wp2_with (first | (go_at_call 48; refine (isAmt_eq _ _ _ ha).mono ?_; rintro e w0 ⟨rfl, ew⟩; replace ew := ew.symm; subst ew) | (go_at_call 49; refine (isQtyA_eq _ _ _ hq).mono ?_; rintro e w0 ⟨rfl, ew⟩; replace ew := ew.symm; subst ew) | (go_at_call 24; clear tok1; refine (HM1.out _).mono ?_; rintro e w1 ⟨rfl, b1⟩; have HB1 : Hid (Below w.heap.size w w1) := b1; clear b1) | (go_at_call 24; refine (HM2.out _).mono ?_; rintro e w2 ⟨rfl, b2⟩; have HB2 : Hid (Below w.heap.size w w2) := bel_on HB1.out b2; clear b2))
    go_returns
    exact ⟨ret_ib (crV_no HB.out).symm HB.out.symm, Below.refl _ _⟩
  by_cases g1 : q < b
  · have HB : Hid (crB t q b m = false) := hid (crB_f (fun H => by have := H.2.2.2.1; omega))
    go_enter Try.func14, Try.ntmps14
    go_wp2_with (first | (go_at_call 48; refine (isAmt_eq _ _ _ ha).mono ?_; rintro e w0 ⟨rfl, ew⟩; replace ew := ew.symm; subst ew) | (go_at_call 49; refine (isQtyA_eq _ _ _ hq).mono ?_; rintro e w0 ⟨rfl, ew⟩; replace ew := ew.symm; subst ew) | (go_at_call 24; clear tok1; refine (HM1.out _).mono ?_; rintro e w1 ⟨rfl, b1⟩; have HB1 : Hid (Below w.heap.size w w1) := b1; clear b1) | (go_at_call 24; refine (HM2.out _).mono ?_; rintro e w2 ⟨rfl, b2⟩; have HB2 : Hid (Below w.heap.size w w2) := bel_on HB1.out b2; clear b2))
    go_returns
    exact ⟨ret_ib (crV_no HB.out).symm HB.out.symm, Below.refl _ _⟩
  by_cases g2 : m < 0
  · have HB : Hid (crB t q b m = false) := hid (crB_f (fun H => by have := H.2.2.2.2.1; omega))
    go_enter Try.func14, Try.ntmps14
    go_wp2_with (first | (go_at_call 48; refine (isAmt_eq _ _ _ ha).mono ?_; rintro e w0 ⟨rfl, ew⟩; replace ew := ew.symm; subst ew) | (go_at_call 49; refine (isQtyA_eq _ _ _ hq).mono ?_; rintro e w0 ⟨rfl, ew⟩; replace ew := ew.symm; subst ew) | (go_at_call 24; clear tok1; refine (HM1.out _).mono ?_; rintro e w1 ⟨rfl, b1⟩; have HB1 : Hid (Below w.heap.size w w1) := b1; clear b1) | (go_at_call 24; refine (HM2.out _).mono ?_; rintro e w2 ⟨rfl, b2⟩; have HB2 : Hid (Below w.heap.size w w2) := bel_on HB1.out b2; clear b2))
    go_returns
    exact ⟨ret_ib (crV_no HB.out).symm HB.out.symm, Below.refl _ _⟩
  by_cases g3 : q - b < m
  · have HB : Hid (crB t q b m = false) := hid (crB_f (fun H => by have := H.2.2.2.2.2; omega))
    go_enter Try.func14, Try.ntmps14
    go_wp2_with (first | (go_at_call 48; refine (isAmt_eq _ _ _ ha).mono ?_; rintro e w0 ⟨rfl, ew⟩; replace ew := ew.symm; subst ew) | (go_at_call 49; refine (isQtyA_eq _ _ _ hq).mono ?_; rintro e w0 ⟨rfl, ew⟩; replace ew := ew.symm; subst ew) | (go_at_call 24; clear tok1; refine (HM1.out _).mono ?_; rintro e w1 ⟨rfl, b1⟩; have HB1 : Hid (Below w.heap.size w w1) := b1; clear b1) | (go_at_call 24; refine (HM2.out _).mono ?_; rintro e w2 ⟨rfl, b2⟩; have HB2 : Hid (Below w.heap.size w w2) := bel_on HB1.out b2; clear b2))
    go_returns
    exact ⟨ret_ib (crV_no HB.out).symm HB.out.symm, Below.refl _ _⟩
  have HB : Hid (crB t q b m = true) := hid (crB_t ⟨inB_t ha, hq2, by omega, by omega, by omega, by omega⟩)
  have e1 := md_abs t (b + m) q 3
  have HM1 : Hid (∀ w, Calls Try.prog 24 #[.int .i64 t, .int .i64 (b + m), .int .i64 q, .int .i64 3] w fun e w' => e = .returned (.tuple #[.int .i64 (mdV t (b + m) q 3), .bool (mdB t (b + m) q 3)]) ∧ Below w.heap.size w w') := fun w => implMulDiv_any t (b + m) q 3 w
  obtain ⟨M1, hM1⟩ : ∃ M, mdV t (b + m) q 3 = M := ⟨_, rfl⟩
  obtain ⟨N1, hN1⟩ : ∃ M, mdB t (b + m) q 3 = M := ⟨_, rfl⟩
  rw [hM1, hN1] at HM1
  rw [hM1] at e1
  have e2 := md_abs t b q 3
  have HM2 : Hid (∀ w, Calls Try.prog 24 #[.int .i64 t, .int .i64 b, .int .i64 q, .int .i64 3] w fun e w' => e = .returned (.tuple #[.int .i64 (mdV t b q 3), .bool (mdB t b q 3)]) ∧ Below w.heap.size w w') := fun w => implMulDiv_any t b q 3 w
  obtain ⟨M2, hM2⟩ : ∃ M, mdV t b q 3 = M := ⟨_, rfl⟩
  obtain ⟨N2, hN2⟩ : ∃ M, mdB t b q 3 = M := ⟨_, rfl⟩
  rw [hM2, hN2] at HM2
  rw [hM2] at e2
  have HE : Hid (crV t q b m = M1 - M2) := hid (by rw [crV_yes HB.out, hM1, hM2])
  clear hM1 hM2 hN1 hN2
  go_enter Try.func14, Try.ntmps14
  go_wp2_with (first | (go_at_call 48; refine (isAmt_eq _ _ _ ha).mono ?_; rintro e w0 ⟨rfl, ew⟩; replace ew := ew.symm; subst ew) | (go_at_call 49; refine (isQtyA_eq _ _ _ hq).mono ?_; rintro e w0 ⟨rfl, ew⟩; replace ew := ew.symm; subst ew) | (go_at_call 24; clear tok1; refine (HM1.out _).mono ?_; rintro e w1 ⟨rfl, b1⟩; have HB1 : Hid (Below w.heap.size w w1) := b1; clear b1) | (go_at_call 24; refine (HM2.out _).mono ?_; rintro e w2 ⟨rfl, b2⟩; have HB2 : Hid (Below w.heap.size w w2) := bel_on HB1.out b2; clear b2))
  go_returns
  exact ⟨ret_ib HE.out.symm HB.out.symm, HB2.out⟩
set_option maxRecDepth 20000 in
set_option maxHeartbeats 4000000 in
theorem specCredit_any (t q b m : Int) (w : World) : Calls Try.prog 16 #[.int .i64 t, .int .i64 q, .int .i64 b, .int .i64 m] w fun e w' => e = .returned (.tuple #[.int .i64 (crV t q b m), .bool (crB t q b m)]) ∧ w' = w := by
  have tok1 : True := trivial
  have tok2 : True := trivial
  cases ha : inB t (-100000000000) 100000000000
  · have HB : Hid (crB t q b m = false) := hid (crB_f (fun H => inB_f ha H.1))
    go_enter Try.func16, Try.ntmps16
    go_wp2_with (first | (go_at_call 55; refine (l1Amt_eq _ _ _ ha).mono ?_; rintro e w0 ⟨rfl, ew⟩; replace ew := ew.symm; subst ew) | (go_at_call 56; refine (l1In_eq _ _ _ _ _ hq).mono ?_; rintro e w0 ⟨rfl, ew⟩; replace ew := ew.symm; subst ew) | (go_at_call 57; clear tok2; refine (l12Qty_eq _ _ _ hb).mono ?_; rintro e w0 ⟨rfl, ew⟩; replace ew := ew.symm; subst ew) | (go_at_call 57; refine (l12Qty_eq _ _ _ hm).mono ?_; rintro e w0 ⟨rfl, ew⟩; replace ew := ew.symm; subst ew) | (go_at_call 58; clear tok1; refine (HM1.out _).mono ?_; rintro e w0 ⟨rfl, ew⟩; replace ew := ew.symm; subst ew) | (go_at_call 58; refine (HM2.out _).mono ?_; rintro e w0 ⟨rfl, ew⟩; replace ew := ew.symm; subst ew))
    go_returns
    exact ⟨ret_ib (crV_no HB.out).symm HB.out.symm, rfl⟩
  cases hq : inB q 1 1000000
  · have HB : Hid (crB t q b m = false) := hid (crB_f (fun H => inB_f hq H.2.1))
    go_enter Try.func16, Try.ntmps16
    go_wp2_with (first | (go_at_call 55; refine (l1Amt_eq _ _ _ ha).mono ?_; rintro e w0 ⟨rfl, ew⟩; replace ew := ew.symm; subst ew) | (go_at_call 56; refine (l1In_eq _ _ _ _ _ hq).mono ?_; rintro e w0 ⟨rfl, ew⟩; replace ew := ew.symm; subst ew) | (go_at_call 57; clear tok2; refine (l12Qty_eq _ _ _ hb).mono ?_; rintro e w0 ⟨rfl, ew⟩; replace ew := ew.symm; subst ew) | (go_at_call 57; refine (l12Qty_eq _ _ _ hm).mono ?_; rintro e w0 ⟨rfl, ew⟩; replace ew := ew.symm; subst ew) | (go_at_call 58; clear tok1; refine (HM1.out _).mono ?_; rintro e w0 ⟨rfl, ew⟩; replace ew := ew.symm; subst ew) | (go_at_call 58; refine (HM2.out _).mono ?_; rintro e w0 ⟨rfl, ew⟩; replace ew := ew.symm; subst ew))
    go_returns
    exact ⟨ret_ib (crV_no HB.out).symm HB.out.symm, rfl⟩
  have hq2 := inB_t hq
  cases hb : inB b 0 1000000
  · have HB : Hid (crB t q b m = false) := hid (crB_f (fun H => inB_f hb ⟨H.2.2.1, by have := H.2.2.2.1; omega⟩))
    go_enter Try.func16, Try.ntmps16
    go_wp2_with (first | (go_at_call 55; refine (l1Amt_eq _ _ _ ha).mono ?_; rintro e w0 ⟨rfl, ew⟩; replace ew := ew.symm; subst ew) | (go_at_call 56; refine (l1In_eq _ _ _ _ _ hq).mono ?_; rintro e w0 ⟨rfl, ew⟩; replace ew := ew.symm; subst ew) | (go_at_call 57; clear tok2; refine (l12Qty_eq _ _ _ hb).mono ?_; rintro e w0 ⟨rfl, ew⟩; replace ew := ew.symm; subst ew) | (go_at_call 57; refine (l12Qty_eq _ _ _ hm).mono ?_; rintro e w0 ⟨rfl, ew⟩; replace ew := ew.symm; subst ew) | (go_at_call 58; clear tok1; refine (HM1.out _).mono ?_; rintro e w0 ⟨rfl, ew⟩; replace ew := ew.symm; subst ew) | (go_at_call 58; refine (HM2.out _).mono ?_; rintro e w0 ⟨rfl, ew⟩; replace ew := ew.symm; subst ew))
    go_returns
    exact ⟨ret_ib (crV_no HB.out).symm HB.out.symm, rfl⟩
  have hb2 := inB_t hb
  cases hm : inB m 0 1000000
  · have HB : Hid (crB t q b m = false) := hid (crB_f (fun H => inB_f hm ⟨H.2.2.2.2.1, by have := H.2.2.2.2.2; have := H.2.2.1; omega⟩))
    go_enter Try.func16, Try.ntmps16
    go_wp2_with (first | (go_at_call 55; refine (l1Amt_eq _ _ _ ha).mono ?_; rintro e w0 ⟨rfl, ew⟩; replace ew := ew.symm; subst ew) | (go_at_call 56; refine (l1In_eq _ _ _ _ _ hq).mono ?_; rintro e w0 ⟨rfl, ew⟩; replace ew := ew.symm; subst ew) | (go_at_call 57; clear tok2; refine (l12Qty_eq _ _ _ hb).mono ?_; rintro e w0 ⟨rfl, ew⟩; replace ew := ew.symm; subst ew) | (go_at_call 57; refine (l12Qty_eq _ _ _ hm).mono ?_; rintro e w0 ⟨rfl, ew⟩; replace ew := ew.symm; subst ew) | (go_at_call 58; clear tok1; refine (HM1.out _).mono ?_; rintro e w0 ⟨rfl, ew⟩; replace ew := ew.symm; subst ew) | (go_at_call 58; refine (HM2.out _).mono ?_; rintro e w0 ⟨rfl, ew⟩; replace ew := ew.symm; subst ew))
    go_returns
    exact ⟨ret_ib (crV_no HB.out).symm HB.out.symm, rfl⟩
  have hm2 := inB_t hm
  by_cases g0 : q < b + m
  · have HB : Hid (crB t q b m = false) := hid (crB_f (fun H => by have := H.2.2.2.2.2; omega))
    go_enter Try.func16, Try.ntmps16
    go_wp2_with (first | (go_at_call 55; refine (l1Amt_eq _ _ _ ha).mono ?_; rintro e w0 ⟨rfl, ew⟩; replace ew := ew.symm; subst ew) | (go_at_call 56; refine (l1In_eq _ _ _ _ _ hq).mono ?_; rintro e w0 ⟨rfl, ew⟩; replace ew := ew.symm; subst ew) | (go_at_call 57; clear tok2; refine (l12Qty_eq _ _ _ hb).mono ?_; rintro e w0 ⟨rfl, ew⟩; replace ew := ew.symm; subst ew) | (go_at_call 57; refine (l12Qty_eq _ _ _ hm).mono ?_; rintro e w0 ⟨rfl, ew⟩; replace ew := ew.symm; subst ew) | (go_at_call 58; clear tok1; refine (HM1.out _).mono ?_; rintro e w0 ⟨rfl, ew⟩; replace ew := ew.symm; subst ew) | (go_at_call 58; refine (HM2.out _).mono ?_; rintro e w0 ⟨rfl, ew⟩; replace ew := ew.symm; subst ew))
    go_returns
    exact ⟨ret_ib (crV_no HB.out).symm HB.out.symm, rfl⟩
  have HB : Hid (crB t q b m = true) := hid (crB_t ⟨inB_t ha, hq2, by omega, by omega, by omega, by omega⟩)
  have e1 := md_abs t (b + m) q 3
  have HM1 : Hid (∀ w, Calls Try.prog 58 #[.int .i64 t, .int .i64 (b + m), .int .i64 q, .int .i64 3] w fun e w' => e = .returned (.tuple #[.int .i64 (mdV t (b + m) q 3), .bool (mdB t (b + m) q 3)]) ∧ w' = w) := fun w => specMulDiv_any t (b + m) q 3 w
  obtain ⟨M1, hM1⟩ : ∃ M, mdV t (b + m) q 3 = M := ⟨_, rfl⟩
  obtain ⟨N1, hN1⟩ : ∃ M, mdB t (b + m) q 3 = M := ⟨_, rfl⟩
  rw [hM1, hN1] at HM1
  rw [hM1] at e1
  have e2 := md_abs t b q 3
  have HM2 : Hid (∀ w, Calls Try.prog 58 #[.int .i64 t, .int .i64 b, .int .i64 q, .int .i64 3] w fun e w' => e = .returned (.tuple #[.int .i64 (mdV t b q 3), .bool (mdB t b q 3)]) ∧ w' = w) := fun w => specMulDiv_any t b q 3 w
  obtain ⟨M2, hM2⟩ : ∃ M, mdV t b q 3 = M := ⟨_, rfl⟩
  obtain ⟨N2, hN2⟩ : ∃ M, mdB t b q 3 = M := ⟨_, rfl⟩
  rw [hM2, hN2] at HM2
  rw [hM2] at e2
  have HE : Hid (crV t q b m = M1 - M2) := hid (by rw [crV_yes HB.out, hM1, hM2])
  clear hM1 hM2 hN1 hN2
  go_enter Try.func16, Try.ntmps16
  go_wp2_with (first | (go_at_call 55; refine (l1Amt_eq _ _ _ ha).mono ?_; rintro e w0 ⟨rfl, ew⟩; replace ew := ew.symm; subst ew) | (go_at_call 56; refine (l1In_eq _ _ _ _ _ hq).mono ?_; rintro e w0 ⟨rfl, ew⟩; replace ew := ew.symm; subst ew) | (go_at_call 57; clear tok2; refine (l12Qty_eq _ _ _ hb).mono ?_; rintro e w0 ⟨rfl, ew⟩; replace ew := ew.symm; subst ew) | (go_at_call 57; refine (l12Qty_eq _ _ _ hm).mono ?_; rintro e w0 ⟨rfl, ew⟩; replace ew := ew.symm; subst ew) | (go_at_call 58; clear tok1; refine (HM1.out _).mono ?_; rintro e w0 ⟨rfl, ew⟩; replace ew := ew.symm; subst ew) | (go_at_call 58; refine (HM2.out _).mono ?_; rintro e w0 ⟨rfl, ew⟩; replace ew := ew.symm; subst ew))
  go_returns
  exact ⟨ret_ib HE.out.symm HB.out.symm, rfl⟩
end Go.Proofs.Ytlhgmdmbjpaakaa
