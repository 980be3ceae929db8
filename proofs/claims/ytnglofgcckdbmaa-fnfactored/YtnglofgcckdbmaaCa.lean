/- CreditNote of the program and of the model: what is given back. -/
import Derived.Test.YtnglofgcckdbmaaSm
import Derived.Test.YtnglofgcckdbmaaMj
import Derived.Test.YtnglofgcckdbmaaMm
namespace Go.Proofs.Ytnglofgcckdbmaa
open Go.ChangeShapes Go.WideShapes Go.ChangeAt Go.RowKit
set_option linter.unusedVariables false
set_option linter.unusedSimpArgs false

theorem md_abs (a num den m : Int) : -100000000000 ≤ mdV a num den m ∧ mdV a num den m ≤ 100000000000 := by
  by_cases h : MdOk a num den m
  · by_cases g : -100000000000 ≤ dv (a * num) den m ∧ dv (a * num) den m ≤ 100000000000
    · rw [(md_in h g.1 g.2).2]; exact g
    · rw [(md_out g).2]; omega
  · rw [(md_bad h).2]; omega
def CrP (t q b m : Int) : Prop := (-100000000000 ≤ t ∧ t ≤ 100000000000) ∧ (1 ≤ q ∧ q ≤ 1000000) ∧ 0 ≤ b ∧ b ≤ q ∧ 0 ≤ m ∧ m ≤ q - b
open Classical in
noncomputable def crB (t q b m : Int) : Bool := decide (CrP t q b m)
open Classical in
theorem crB_t {t q b m : Int} (h : CrP t q b m) : crB t q b m = true := by unfold crB; exact decide_eq_true h
open Classical in
theorem crB_f {t q b m : Int} (h : ¬ CrP t q b m) : crB t q b m = false := by unfold crB; exact decide_eq_false h
open Classical in
theorem crB_p {t q b m : Int} (h : crB t q b m = true) : CrP t q b m := by unfold crB at h; exact of_decide_eq_true h
noncomputable def crV (t q b m : Int) : Int := if crB t q b m = true then mdV t (b + m) q 3 - mdV t b q 3 else 0
theorem crV_no {t q b m : Int} (h : crB t q b m = false) : crV t q b m = 0 := by unfold crV; rw [h]; exact if_neg (by decide)
theorem crV_yes {t q b m : Int} (h : crB t q b m = true) : crV t q b m = mdV t (b + m) q 3 - mdV t b q 3 := by unfold crV; exact if_pos h
theorem ret_ib {a b : Int} {x y : Bool} (h : a = b) (l : x = y) : Ending.returned (.tuple #[.int .i64 a, .bool x]) = .returned (.tuple #[.int .i64 b, .bool y]) := by rw [h, l]

end Go.Proofs.Ytnglofgcckdbmaa

