/- EarlyPay of the program and of the model: what is paid and what is kept back. -/
import Derived.Test.YtghphlnpginmhaaSm
import Derived.Test.YtghphlnpginmhaaMj
import Derived.Test.YtghphlnpginmhaaMm
namespace Go.Proofs.Ytghphlnpginmhaa
open Go.ChangeShapes Go.WideShapes Go.ChangeAt Go.RowKit
set_option linter.unusedVariables false
set_option linter.unusedSimpArgs false

theorem md_abs (a num den m : Int) : -100000000000 ≤ mdV a num den m ∧ mdV a num den m ≤ 100000000000 := by
  by_cases h : MdOk a num den m
  · by_cases g : -100000000000 ≤ dv (a * num) den m ∧ dv (a * num) den m ≤ 100000000000
    · rw [(md_in h g.1 g.2).2]; exact g
    · rw [(md_out g).2]; omega
  · rw [(md_bad h).2]; omega
def epB (a d p wi r : Int) : Bool := inB a (-100000000000) 100000000000 && (inB d 0 40000 && (inB p 0 40000 && (decide (d ≤ p) && (inB wi 0 1000 && (inB r 0 100000)))))
def epK (a d p wi r : Int) : Int := if p - d ≤ wi then mdV a r 100000 3 else 0
def epP (a d p wi r : Int) : Int := if epB a d p wi r = true then a - epK a d p wi r else 0
def epQ (a d p wi r : Int) : Int := if epB a d p wi r = true then epK a d p wi r else 0
theorem ep_no {a d p wi r : Int} (h : epB a d p wi r = false) : epP a d p wi r = 0 ∧ epQ a d p wi r = 0 := by unfold epP epQ; rw [h]; exact ⟨if_neg (by decide), if_neg (by decide)⟩
theorem ep_in {a d p wi r : Int} (h : epB a d p wi r = true) (g : p - d ≤ wi) : epP a d p wi r = a - mdV a r 100000 3 ∧ epQ a d p wi r = mdV a r 100000 3 := by unfold epP epQ epK; rw [if_pos h, if_pos h, if_pos g]; exact ⟨rfl, rfl⟩
theorem ep_out {a d p wi r : Int} (h : epB a d p wi r = true) (g : ¬ p - d ≤ wi) : epP a d p wi r = a ∧ epQ a d p wi r = 0 := by unfold epP epQ epK; rw [if_pos h, if_pos h, if_neg g]; exact ⟨by omega, rfl⟩
theorem ret_ep {a b c d : Int} {x y : Bool} (h : a = b) (k : c = d) (l : x = y) : Ending.returned (.tuple #[.int .i64 a, .int .i64 c, .bool x]) = .returned (.tuple #[.int .i64 b, .int .i64 d, .bool y]) := by rw [h, k, l]

set_option maxRecDepth 20000 in
set_option maxHeartbeats 4000000 in
theorem implEarly_any (a d p wi r : Int) (w : World) : Calls Try.prog 57 #[.int .i64 a, .int .i64 d, .int .i64 p, .int .i64 wi, .int .i64 r] w fun e w' => e = .returned (.tuple #[.int .i64 (epP a d p wi r), .int .i64 (epQ a d p wi r), .bool (epB a d p wi r)]) ∧ Below w.heap.size w w' := by
  cases ha : inB a (-100000000000) 100000000000
  · have HB : Hid (epB a d p wi r = false) := hid (by simp [epB, ha])
    go_enter Try.func57, Try.ntmps57
    go_wp2_with (first | (go_at_call 114; refine (isAmt_any _ _).mono ?_; rintro e w1 ⟨rfl, rfl⟩) | (go_at_call 92; refine (isDay_any _ _).mono ?_; rintro e w1 ⟨rfl, rfl⟩) | (go_at_call 115; refine (isPayDays_any _ _).mono ?_; rintro e w1 ⟨rfl, rfl⟩) | (go_at_call 116; refine (isRate_any _ _).mono ?_; rintro e w1 ⟨rfl, rfl⟩) | (go_at_call 117; refine HMD.out.mono ?_; rintro e w1 ⟨rfl, b1⟩))
    go_returns
    exact ⟨ret_ep (ep_no HB.out).1.symm (ep_no HB.out).2.symm HB.out.symm, by first | exact Below.refl _ _ | rfl | go_grown⟩
  cases hd : inB d 0 40000
  · have HB : Hid (epB a d p wi r = false) := hid (by simp [epB, ha, hd])
    go_enter Try.func57, Try.ntmps57
    go_wp2_with (first | (go_at_call 114; refine (isAmt_any _ _).mono ?_; rintro e w1 ⟨rfl, rfl⟩) | (go_at_call 92; refine (isDay_any _ _).mono ?_; rintro e w1 ⟨rfl, rfl⟩) | (go_at_call 115; refine (isPayDays_any _ _).mono ?_; rintro e w1 ⟨rfl, rfl⟩) | (go_at_call 116; refine (isRate_any _ _).mono ?_; rintro e w1 ⟨rfl, rfl⟩) | (go_at_call 117; refine HMD.out.mono ?_; rintro e w1 ⟨rfl, b1⟩))
    go_returns
    exact ⟨ret_ep (ep_no HB.out).1.symm (ep_no HB.out).2.symm HB.out.symm, by first | exact Below.refl _ _ | rfl | go_grown⟩
  cases hp : inB p 0 40000
  · have HB : Hid (epB a d p wi r = false) := hid (by simp [epB, ha, hd, hp])
    go_enter Try.func57, Try.ntmps57
    go_wp2_with (first | (go_at_call 114; refine (isAmt_any _ _).mono ?_; rintro e w1 ⟨rfl, rfl⟩) | (go_at_call 92; refine (isDay_any _ _).mono ?_; rintro e w1 ⟨rfl, rfl⟩) | (go_at_call 115; refine (isPayDays_any _ _).mono ?_; rintro e w1 ⟨rfl, rfl⟩) | (go_at_call 116; refine (isRate_any _ _).mono ?_; rintro e w1 ⟨rfl, rfl⟩) | (go_at_call 117; refine HMD.out.mono ?_; rintro e w1 ⟨rfl, b1⟩))
    go_returns
    exact ⟨ret_ep (ep_no HB.out).1.symm (ep_no HB.out).2.symm HB.out.symm, by first | exact Below.refl _ _ | rfl | go_grown⟩
  cases hle : decide (d ≤ p)
  · have HB : Hid (epB a d p wi r = false) := hid (by simp [epB, ha, hd, hp, hle])
    have hle2 : p < d := by have := of_decide_eq_false hle; omega
    clear hle
    go_enter Try.func57, Try.ntmps57
    go_wp2_with (first | (go_at_call 114; refine (isAmt_any _ _).mono ?_; rintro e w1 ⟨rfl, rfl⟩) | (go_at_call 92; refine (isDay_any _ _).mono ?_; rintro e w1 ⟨rfl, rfl⟩) | (go_at_call 115; refine (isPayDays_any _ _).mono ?_; rintro e w1 ⟨rfl, rfl⟩) | (go_at_call 116; refine (isRate_any _ _).mono ?_; rintro e w1 ⟨rfl, rfl⟩) | (go_at_call 117; refine HMD.out.mono ?_; rintro e w1 ⟨rfl, b1⟩))
    go_returns
    exact ⟨ret_ep (ep_no HB.out).1.symm (ep_no HB.out).2.symm HB.out.symm, by first | exact Below.refl _ _ | rfl | go_grown⟩
  cases hw : inB wi 0 1000
  · have HB : Hid (epB a d p wi r = false) := hid (by simp [epB, ha, hd, hp, hle, hw])
    have hle2 : d ≤ p := of_decide_eq_true hle
    clear hle
    go_enter Try.func57, Try.ntmps57
    go_wp2_with (first | (go_at_call 114; refine (isAmt_any _ _).mono ?_; rintro e w1 ⟨rfl, rfl⟩) | (go_at_call 92; refine (isDay_any _ _).mono ?_; rintro e w1 ⟨rfl, rfl⟩) | (go_at_call 115; refine (isPayDays_any _ _).mono ?_; rintro e w1 ⟨rfl, rfl⟩) | (go_at_call 116; refine (isRate_any _ _).mono ?_; rintro e w1 ⟨rfl, rfl⟩) | (go_at_call 117; refine HMD.out.mono ?_; rintro e w1 ⟨rfl, b1⟩))
    go_returns
    exact ⟨ret_ep (ep_no HB.out).1.symm (ep_no HB.out).2.symm HB.out.symm, by first | exact Below.refl _ _ | rfl | go_grown⟩
  cases hr : inB r 0 100000
  · have HB : Hid (epB a d p wi r = false) := hid (by simp [epB, ha, hd, hp, hle, hw, hr])
    have hle2 : d ≤ p := of_decide_eq_true hle
    clear hle
    go_enter Try.func57, Try.ntmps57
    go_wp2_with (first | (go_at_call 114; refine (isAmt_any _ _).mono ?_; rintro e w1 ⟨rfl, rfl⟩) | (go_at_call 92; refine (isDay_any _ _).mono ?_; rintro e w1 ⟨rfl, rfl⟩) | (go_at_call 115; refine (isPayDays_any _ _).mono ?_; rintro e w1 ⟨rfl, rfl⟩) | (go_at_call 116; refine (isRate_any _ _).mono ?_; rintro e w1 ⟨rfl, rfl⟩) | (go_at_call 117; refine HMD.out.mono ?_; rintro e w1 ⟨rfl, b1⟩))
    go_returns
    exact ⟨ret_ep (ep_no HB.out).1.symm (ep_no HB.out).2.symm HB.out.symm, by first | exact Below.refl _ _ | rfl | go_grown⟩
  have HB : Hid (epB a d p wi r = true) := hid (by simp [epB, ha, hd, hp, hle, hw, hr])
  have hle2 : d ≤ p := of_decide_eq_true hle
  clear hle
  have hd2 := inB_t hd
  have hp2 := inB_t hp
  have ha2 := inB_t ha
  have hmd := md_abs a r 100000 3
  have HMD : Hid (Calls Try.prog 117 #[.int .i64 a, .int .i64 r, .int .i64 100000, .int .i64 3] w fun e w' => e = .returned (.tuple #[.int .i64 (mdV a r 100000 3), .bool (mdB a r 100000 3)]) ∧ Below w.heap.size w w') := implMulDiv_any a r 100000 3 w
  obtain ⟨M, hM⟩ : ∃ M, mdV a r 100000 3 = M := ⟨_, rfl⟩
  have HM : Hid (mdV a r 100000 3 = M) := hM
  obtain ⟨MB, hMB⟩ : ∃ M, mdB a r 100000 3 = M := ⟨_, rfl⟩
  rw [hM, hMB] at HMD
  rw [hM] at hmd
  clear hM hMB
  by_cases hin : p - d ≤ wi
  · have HE : Hid (epP a d p wi r = a - M ∧ epQ a d p wi r = M) := hid (by have := ep_in HB.out hin; rw [HM.out] at this; exact this)
    go_enter Try.func57, Try.ntmps57
    go_wp2_with (first | (go_at_call 114; refine (isAmt_any _ _).mono ?_; rintro e w1 ⟨rfl, rfl⟩) | (go_at_call 92; refine (isDay_any _ _).mono ?_; rintro e w1 ⟨rfl, rfl⟩) | (go_at_call 115; refine (isPayDays_any _ _).mono ?_; rintro e w1 ⟨rfl, rfl⟩) | (go_at_call 116; refine (isRate_any _ _).mono ?_; rintro e w1 ⟨rfl, rfl⟩) | (go_at_call 117; refine HMD.out.mono ?_; rintro e w1 ⟨rfl, b1⟩))
    go_returns
    exact ⟨ret_ep HE.out.1.symm HE.out.2.symm HB.out.symm, by first | exact b1 | exact Below.refl _ _ | rfl | go_grown⟩
  · have HE : Hid (epP a d p wi r = a ∧ epQ a d p wi r = 0) := hid (by have := ep_out HB.out hin; exact this)
    have hin2 : wi < p - d := by omega
    clear hin
    go_enter Try.func57, Try.ntmps57
    go_wp2_with (first | (go_at_call 114; refine (isAmt_any _ _).mono ?_; rintro e w1 ⟨rfl, rfl⟩) | (go_at_call 92; refine (isDay_any _ _).mono ?_; rintro e w1 ⟨rfl, rfl⟩) | (go_at_call 115; refine (isPayDays_any _ _).mono ?_; rintro e w1 ⟨rfl, rfl⟩) | (go_at_call 116; refine (isRate_any _ _).mono ?_; rintro e w1 ⟨rfl, rfl⟩) | (go_at_call 117; refine HMD.out.mono ?_; rintro e w1 ⟨rfl, b1⟩))
    go_returns
    exact ⟨ret_ep HE.out.1.symm HE.out.2.symm HB.out.symm, by first | exact b1 | exact Below.refl _ _ | rfl | go_grown⟩
set_option maxRecDepth 20000 in
set_option maxHeartbeats 4000000 in
theorem specEarly_any (a d p wi r : Int) (w : World) : Calls Try.prog 56 #[.int .i64 a, .int .i64 d, .int .i64 p, .int .i64 wi, .int .i64 r] w fun e w' => e = .returned (.tuple #[.int .i64 (epP a d p wi r), .int .i64 (epQ a d p wi r), .bool (epB a d p wi r)]) ∧ w' = w := by
  cases ha : inB a (-100000000000) 100000000000
  · have HB : Hid (epB a d p wi r = false) := hid (by simp [epB, ha])
    go_enter Try.func56, Try.ntmps56
    go_wp2_with (first | (go_at_call 82; refine (l1Amt_any _ _).mono ?_; rintro e w1 ⟨rfl, rfl⟩) | (go_at_call 87; refine (l2Day_any _ _).mono ?_; rintro e w1 ⟨rfl, rfl⟩) | (go_at_call 67; refine (l1In_any _ _ _ _).mono ?_; rintro e w1 ⟨rfl, rfl⟩) | (go_at_call 83; refine HMD.out.mono ?_; rintro e w1 ⟨rfl, rfl⟩))
    go_returns
    exact ⟨ret_ep (ep_no HB.out).1.symm (ep_no HB.out).2.symm HB.out.symm, by first | exact Below.refl _ _ | rfl | go_grown⟩
  cases hd : inB d 0 40000
  · have HB : Hid (epB a d p wi r = false) := hid (by simp [epB, ha, hd])
    go_enter Try.func56, Try.ntmps56
    go_wp2_with (first | (go_at_call 82; refine (l1Amt_any _ _).mono ?_; rintro e w1 ⟨rfl, rfl⟩) | (go_at_call 87; refine (l2Day_any _ _).mono ?_; rintro e w1 ⟨rfl, rfl⟩) | (go_at_call 67; refine (l1In_any _ _ _ _).mono ?_; rintro e w1 ⟨rfl, rfl⟩) | (go_at_call 83; refine HMD.out.mono ?_; rintro e w1 ⟨rfl, rfl⟩))
    go_returns
    exact ⟨ret_ep (ep_no HB.out).1.symm (ep_no HB.out).2.symm HB.out.symm, by first | exact Below.refl _ _ | rfl | go_grown⟩
  cases hp : inB p 0 40000
  · have HB : Hid (epB a d p wi r = false) := hid (by simp [epB, ha, hd, hp])
    go_enter Try.func56, Try.ntmps56
    go_wp2_with (first | (go_at_call 82; refine (l1Amt_any _ _).mono ?_; rintro e w1 ⟨rfl, rfl⟩) | (go_at_call 87; refine (l2Day_any _ _).mono ?_; rintro e w1 ⟨rfl, rfl⟩) | (go_at_call 67; refine (l1In_any _ _ _ _).mono ?_; rintro e w1 ⟨rfl, rfl⟩) | (go_at_call 83; refine HMD.out.mono ?_; rintro e w1 ⟨rfl, rfl⟩))
    go_returns
    exact ⟨ret_ep (ep_no HB.out).1.symm (ep_no HB.out).2.symm HB.out.symm, by first | exact Below.refl _ _ | rfl | go_grown⟩
  cases hle : decide (d ≤ p)
  · have HB : Hid (epB a d p wi r = false) := hid (by simp [epB, ha, hd, hp, hle])
    have hle2 : p < d := by have := of_decide_eq_false hle; omega
    clear hle
    go_enter Try.func56, Try.ntmps56
    go_wp2_with (first | (go_at_call 82; refine (l1Amt_any _ _).mono ?_; rintro e w1 ⟨rfl, rfl⟩) | (go_at_call 87; refine (l2Day_any _ _).mono ?_; rintro e w1 ⟨rfl, rfl⟩) | (go_at_call 67; refine (l1In_any _ _ _ _).mono ?_; rintro e w1 ⟨rfl, rfl⟩) | (go_at_call 83; refine HMD.out.mono ?_; rintro e w1 ⟨rfl, rfl⟩))
    go_returns
    exact ⟨ret_ep (ep_no HB.out).1.symm (ep_no HB.out).2.symm HB.out.symm, by first | exact Below.refl _ _ | rfl | go_grown⟩
  cases hw : inB wi 0 1000
  · have HB : Hid (epB a d p wi r = false) := hid (by simp [epB, ha, hd, hp, hle, hw])
    have hle2 : d ≤ p := of_decide_eq_true hle
    clear hle
    go_enter Try.func56, Try.ntmps56
    go_wp2_with (first | (go_at_call 82; refine (l1Amt_any _ _).mono ?_; rintro e w1 ⟨rfl, rfl⟩) | (go_at_call 87; refine (l2Day_any _ _).mono ?_; rintro e w1 ⟨rfl, rfl⟩) | (go_at_call 67; refine (l1In_any _ _ _ _).mono ?_; rintro e w1 ⟨rfl, rfl⟩) | (go_at_call 83; refine HMD.out.mono ?_; rintro e w1 ⟨rfl, rfl⟩))
    go_returns
    exact ⟨ret_ep (ep_no HB.out).1.symm (ep_no HB.out).2.symm HB.out.symm, by first | exact Below.refl _ _ | rfl | go_grown⟩
  cases hr : inB r 0 100000
  · have HB : Hid (epB a d p wi r = false) := hid (by simp [epB, ha, hd, hp, hle, hw, hr])
    have hle2 : d ≤ p := of_decide_eq_true hle
    clear hle
    go_enter Try.func56, Try.ntmps56
    go_wp2_with (first | (go_at_call 82; refine (l1Amt_any _ _).mono ?_; rintro e w1 ⟨rfl, rfl⟩) | (go_at_call 87; refine (l2Day_any _ _).mono ?_; rintro e w1 ⟨rfl, rfl⟩) | (go_at_call 67; refine (l1In_any _ _ _ _).mono ?_; rintro e w1 ⟨rfl, rfl⟩) | (go_at_call 83; refine HMD.out.mono ?_; rintro e w1 ⟨rfl, rfl⟩))
    go_returns
    exact ⟨ret_ep (ep_no HB.out).1.symm (ep_no HB.out).2.symm HB.out.symm, by first | exact Below.refl _ _ | rfl | go_grown⟩
  have HB : Hid (epB a d p wi r = true) := hid (by simp [epB, ha, hd, hp, hle, hw, hr])
  have hle2 : d ≤ p := of_decide_eq_true hle
  clear hle
  have hd2 := inB_t hd
  have hp2 := inB_t hp
  have ha2 := inB_t ha
  have hmd := md_abs a r 100000 3
  have HMD : Hid (Calls Try.prog 83 #[.int .i64 a, .int .i64 r, .int .i64 100000, .int .i64 3] w fun e w' => e = .returned (.tuple #[.int .i64 (mdV a r 100000 3), .bool (mdB a r 100000 3)]) ∧ w' = w) := specMulDiv_any a r 100000 3 w
  obtain ⟨M, hM⟩ : ∃ M, mdV a r 100000 3 = M := ⟨_, rfl⟩
  have HM : Hid (mdV a r 100000 3 = M) := hM
  obtain ⟨MB, hMB⟩ : ∃ M, mdB a r 100000 3 = M := ⟨_, rfl⟩
  rw [hM, hMB] at HMD
  rw [hM] at hmd
  clear hM hMB
  by_cases hin : p - d ≤ wi
  · have HE : Hid (epP a d p wi r = a - M ∧ epQ a d p wi r = M) := hid (by have := ep_in HB.out hin; rw [HM.out] at this; exact this)
    go_enter Try.func56, Try.ntmps56
    go_wp2_with (first | (go_at_call 82; refine (l1Amt_any _ _).mono ?_; rintro e w1 ⟨rfl, rfl⟩) | (go_at_call 87; refine (l2Day_any _ _).mono ?_; rintro e w1 ⟨rfl, rfl⟩) | (go_at_call 67; refine (l1In_any _ _ _ _).mono ?_; rintro e w1 ⟨rfl, rfl⟩) | (go_at_call 83; refine HMD.out.mono ?_; rintro e w1 ⟨rfl, rfl⟩))
    go_returns
    exact ⟨ret_ep HE.out.1.symm HE.out.2.symm HB.out.symm, by first | exact b1 | exact Below.refl _ _ | rfl | go_grown⟩
  · have HE : Hid (epP a d p wi r = a ∧ epQ a d p wi r = 0) := hid (by have := ep_out HB.out hin; exact this)
    have hin2 : wi < p - d := by omega
    clear hin
    go_enter Try.func56, Try.ntmps56
    go_wp2_with (first | (go_at_call 82; refine (l1Amt_any _ _).mono ?_; rintro e w1 ⟨rfl, rfl⟩) | (go_at_call 87; refine (l2Day_any _ _).mono ?_; rintro e w1 ⟨rfl, rfl⟩) | (go_at_call 67; refine (l1In_any _ _ _ _).mono ?_; rintro e w1 ⟨rfl, rfl⟩) | (go_at_call 83; refine HMD.out.mono ?_; rintro e w1 ⟨rfl, rfl⟩))
    go_returns
    exact ⟨ret_ep HE.out.1.symm HE.out.2.symm HB.out.symm, by first | exact b1 | exact Below.refl _ _ | rfl | go_grown⟩
end Go.Proofs.Ytghphlnpginmhaa
