/- At every list of jobs and every list of slots the program's Lateness answers as the model's, and leaves both lists as they were; no condition beyond what the statement says. -/
import Derived.Test.YtogolmbgboihdaaRows
import Derived.WalkKit
import Derived.ProofKit
import Derived.OpenShut
import Derived.ShutString
import Derived.ChangeOld
import Derived.Below
import Derived.Handy
import Derived.Carry
import Derived.Lib.SmallJoins
import Derived.Deep.SlicePairs
import Derived.Test.YtogolmbgboihdaaGa
namespace Go.Proofs.Ytogolmbgboihdaa.fnExactLateness
open Go.ChangeShapes Go.WideShapes Go.ChangeAt Go.RowKit
set_option linter.unusedVariables false
set_option linter.unusedSimpArgs false

theorem own : ownKnob Try.prog.godebug = none := by kernel_rfl
theorem laidOut : laidOutB Try.prog = true := by kernel_rfl

set_option maxRecDepth 20000 in
set_option maxHeartbeats 4000000 in
theorem walk (aj : Option Addr) (jn jcap : Nat) (jc : Nat → JB) (ar : Option Addr) (nr rcap : Nat) (rc : Nat → SL5) (w : World) (hjn : jn ≤ maxLen) (hjc : ∀ j, (jc j).rn ≤ maxLen) (hjr : JBr w aj jn jc) (hnr : nr ≤ maxLen) (hrr : SLr w ar nr rc) :
    Calls Try.prog 10 #[.slice aj jn jcap, .slice ar nr rcap] w fun e w' => e = .returned (.bool true) ∧ Below w.heap.size w w' := by
  have HR0 : Hid (JBr w aj jn jc) := hjr
  have hL0 : (jn : Int) ≤ 9223372036854775807 := by have := hjn; unfold maxLen at this; omega
  have HJM : Hid (∀ j, ((jc j).rn : Int) ≤ 9223372036854775807) := fun j => by have := hjc j; unfold maxLen at this; omega
  have HR1 : Hid (SLr w ar nr rc) := hrr
  have hL1 : (nr : Int) ≤ 9223372036854775807 := by have := hnr; unfold maxLen at this; omega
  clear hjn hjr hnr hrr hjc
  have tk0 : True := trivial
  have tk1 : True := trivial
  go_enter Try.func10, Try.ntmps10
  go_wp2_with (first
      | (go_at_call 25; clear tk0; refine (szJBS_any _ _ _ jc _ _ (by omega) (by omega) hL0 HJM.out HR0.out).mono ?_; rintro e ws0 ⟨v0, rfl, hv0, b_⟩; have HS0 : Hid (Below w.heap.size w ws0) := hid (b_); clear b_; rcases hv0 with rfl | ⟨hv0a, hv0b, hb0, hq0⟩ <;> (try have nv0 : ¬ v0 < 0 := (by omega)) <;> (try have HJN : Hid (∀ j, j < jn → ((jc j).rn : Int) ≤ 1048576) := hq0) <;> (try clear hq0))
      | (go_at_call 44; clear tk1; refine (szSL5S_any _ _ _ _ _ (by omega) (by omega) hL1).mono ?_; rintro e ws1 ⟨v1, rfl, hv1, ew⟩; replace ew := ew.symm; subst ew; rcases hv1 with rfl | ⟨hv1a, hv1b, hb1⟩ <;> (try have nv1 : ¬ v1 < 0 := (by omega))))
  · go_returns
    exact ⟨rfl, by first | exact Below.refl _ _ | exact HS0.out | exact HS1.out⟩
  · go_returns
    exact ⟨rfl, by first | exact Below.refl _ _ | exact HS0.out | exact HS1.out⟩
  obtain ⟨LV, hLV⟩ : ∃ x, ltV jn jc nr rc = x := ⟨_, rfl⟩
  obtain ⟨EV, hEV⟩ : ∃ x, ltE jn jc nr rc = x := ⟨_, rfl⟩
  have HTV : Hid (ltV jn jc nr rc = LV ∧ ltE jn jc nr rc = EV) := ⟨hLV, hEV⟩
  clear hLV hEV
  have htv : (LV != LV) = false := by simp
  have hcv : (EV != EV) = false := by simp
  have tok0 : True := trivial
  have tok1 : True := trivial
  have tok2 : True := trivial
  have tok3 : True := trivial
  have tok4 : True := trivial
  have tok5 : True := trivial
  have tok6 : True := trivial
  have tok7 : True := trivial
  have tok8 : True := trivial
  have tok9 : True := trivial
  go_wp2_with (first
      | (go_at_call 28; clear tok0; refine (toJBS_any _ _ _ jc _ hb0 HJN.out (HR0.out.below HS0.out)).mono ?_; rintro e w101 ⟨rfl, ⟨bt_P0, i_⟩, b_⟩; have HB101 : Hid (Below w.heap.size w w101) := hid (bel_on HS0.out b_); have P0 := hid i_.row; clear i_ b_)
      | (go_at_call 46; clear tok1; refine (toSL5S_any _ _ _ rc _ hb1 (HR1.out.below HB101.out)).mono ?_; rintro e w102 ⟨rfl, i_, b_⟩; have HB102 : Hid (Below w.heap.size w w102) := hid (bel_on HB101.out b_); replace P0 := hid (P0.out.below b_); have P1 := hid i_.1; clear i_ b_)
      | (go_at_call 45; clear tok2; refine (specLate_eq _ _ _ jc _ _ _ rc LV EV _ hb0 hb1 HJN.out P0.out P1.out HTV.out.1 HTV.out.2).mono ?_; rintro e w103 ⟨rfl, b_⟩; have HB103 : Hid (Below w.heap.size w w103) := hid (bel_on HB102.out b_); replace P0 := hid (P0.out.below b_); replace P1 := hid (P1.out.below b_); clear b_)
      | (go_at_call 28; clear tok3; refine (toJBS_any _ _ _ jc _ hb0 HJN.out (HR0.out.below HB103.out)).mono ?_; rintro e w104 ⟨rfl, ⟨bt_Q0, i_⟩, b_⟩; have HB104 : Hid (Below w.heap.size w w104) := hid (bel_on HB103.out b_); replace P0 := hid (P0.out.below b_); replace P1 := hid (P1.out.below b_); have Q0 := hid i_.row; clear i_ b_)
      | (go_at_call 46; clear tok4; refine (toSL5S_any _ _ _ rc _ hb1 (HR1.out.below HB104.out)).mono ?_; rintro e w105 ⟨rfl, i_, b_⟩; have HB105 : Hid (Below w.heap.size w w105) := hid (bel_on HB104.out b_); replace P0 := hid (P0.out.below b_); replace P1 := hid (P1.out.below b_); replace Q0 := hid (Q0.out.below b_); have Q1 := hid i_.1; clear i_ b_)
      | (go_at_call 22; clear tok5; refine (implLate_eq _ _ _ jc _ _ _ rc LV EV _ hb0 hb1 HJN.out Q0.out Q1.out HTV.out.1 HTV.out.2).mono ?_; rintro e w106 ⟨rfl, b_⟩; have HB106 : Hid (Below w.heap.size w w106) := hid (bel_on HB105.out b_); replace P0 := hid (P0.out.below b_); replace P1 := hid (P1.out.below b_); replace Q0 := hid (Q0.out.below b_); replace Q1 := hid (Q1.out.below b_); clear b_)
      | (go_at_call 28; clear tok6; refine (toJBS_any _ _ _ jc _ hb0 HJN.out (HR0.out.below HB106.out)).mono ?_; rintro e w107 ⟨rfl, ⟨bt_R0, i_⟩, b_⟩; have HB107 : Hid (Below w.heap.size w w107) := hid (bel_on HB106.out b_); replace P0 := hid (P0.out.below b_); replace P1 := hid (P1.out.below b_); replace Q0 := hid (Q0.out.below b_); replace Q1 := hid (Q1.out.below b_); have R0 := hid i_.row; clear i_ b_)
      | (go_at_call 31; clear tok7; refine (eqJBS_same _ _ _ _ _ jc _ hb0 HJN.out Q0.out R0.out).mono ?_; rintro e w108 ⟨rfl, b_⟩; have HB108 : Hid (Below w.heap.size w w108) := hid (bel_on HB107.out b_); replace P0 := hid (P0.out.below b_); replace P1 := hid (P1.out.below b_); replace Q0 := hid (Q0.out.below b_); replace Q1 := hid (Q1.out.below b_); replace R0 := hid (R0.out.below b_); clear b_)
      | (go_at_call 46; clear tok8; refine (toSL5S_any _ _ _ rc _ hb1 (HR1.out.below HB108.out)).mono ?_; rintro e w109 ⟨rfl, i_, b_⟩; have HB109 : Hid (Below w.heap.size w w109) := hid (bel_on HB108.out b_); replace P0 := hid (P0.out.below b_); replace P1 := hid (P1.out.below b_); replace Q0 := hid (Q0.out.below b_); replace Q1 := hid (Q1.out.below b_); replace R0 := hid (R0.out.below b_); have R1 := hid i_.1; clear i_ b_)
      | (go_at_call 35; clear tok9; refine (eqSL5S_same _ _ _ _ _ rc _ hb1 Q1.out R1.out).mono ?_; rintro e w110 ⟨rfl, b_⟩; have HB110 : Hid (Below w.heap.size w w110) := hid (bel_on HB109.out b_); replace P0 := hid (P0.out.below b_); replace P1 := hid (P1.out.below b_); replace Q0 := hid (Q0.out.below b_); replace Q1 := hid (Q1.out.below b_); replace R0 := hid (R0.out.below b_); replace R1 := hid (R1.out.below b_); clear b_))
  go_returns
  exact ⟨rfl, HB110.out⟩

set_option maxRecDepth 100000 in
theorem lifted (os : Os) (started : os.Started) (H : Type) (enc : TypeId × Value → H) :
    ReturnsInHanded {} Try.checked os 10 .any (Rows.fnExactLatenessSpec.pre6 enc Try.prog Try.f10 Rows.fnExactLatenessRow.domain false) (Rows.fnExactLatenessSpec.post enc Try.prog Try.f10 false true false false) := by
  refine returnsInHanded_of_change (C := Try.checked) own started (by kernel_rfl) Try.func10
    (ChangeSpec.witness6 (enc := enc) (C := Try.checked) false ⟨#[], #[.slice none 0 0, .slice none 0 0], []⟩ 8 (by kernel_rfl) (by kernel_rfl) (by kernel_rfl) (by kernel_rfl)) ?_
  intro W base args ds gs before hval0 hW hcnd _
  have hval : ∀ (j : Nat) t v, Try.f10.params[j]? = some t → args[j]? = some v → Value.okWide Try.prog W .any base t v := hval0
  have hW' := hW
  obtain ⟨p, q, hA0, hV, rfl, hfz, hnd⟩ := hW
  have hA : DataW.TrodAll enc Try.prog W 0 (fun _ => true) true Try.f10.params.toList args.toList ds p := hA0
  rw [Try.params10] at hA hval
  obtain ⟨v0, vs0, d0, ds0, p0, q0, hargs, rfl, rfl, h0, r0⟩ := trodAll_cons hA
  obtain ⟨v1, vs1, d1, ds1, p1, q1, rfl, rfl, rfl, h1, r1⟩ := trodAll_cons r0
  obtain ⟨rfl, rfl, rfl⟩ := trodAll_nil r1
  obtain rfl : args = #[v0, v1] := by cases args; simp_all
  obtain ⟨rfl, rfl⟩ := trodVars_none hV
  have k0 := h0
  have lt0 : ∀ x ∈ p0, x.block < W.heap.size := by obtain ⟨m, hm⟩ := k0; exact DataW.trod_lt m _ _ _ hm
  have k1 := h1
  have lt1 : ∀ x ∈ p1, x.block < W.heap.size := by obtain ⟨m, hm⟩ := k1; exact DataW.trod_lt m _ _ _ hm
  obtain ⟨aj, jn, jcap, rfl⟩ := okWide_slice Try.underlying52 (hval 0 52 v0 rfl rfl)
  obtain ⟨jc, hjn, hjc0, hjr⟩ := JB_of Try.underlying52 Try.underlying102 (by kernel_rfl) ⟨rfl, rfl, rfl, rfl⟩ ⟨by kernel_rfl, by kernel_rfl, by kernel_rfl, by kernel_rfl⟩ Try.underlying3 Try.underlying3 Try.underlying3 Try.underlying100 Try.underlying143 (by kernel_rfl) ⟨rfl, rfl, rfl⟩ ⟨by kernel_rfl, by kernel_rfl, by kernel_rfl⟩ Try.underlying3 Try.underlying3 Try.underlying3 h0
  have hjc : ∀ j, (jc j).rn ≤ maxLen := hjc0
  obtain ⟨ar, nr, rcap, rfl⟩ := okWide_slice Try.underlying73 (hval 1 73 v1 rfl rfl)
  obtain ⟨rc, hnr, hrr⟩ := SL5_of Try.underlying73 Try.underlying117 (by kernel_rfl) ⟨rfl, rfl, rfl, rfl, rfl⟩ ⟨by kernel_rfl, by kernel_rfl, by kernel_rfl, by kernel_rfl, by kernel_rfl⟩ Try.underlying3 Try.underlying3 Try.underlying3 Try.underlying3 Try.underlying3 h1
  clear hA0 hval0
  refine (walk aj jn jcap jc ar nr rcap rc W hjn hjc hjr hnr hrr).mono fun e W' ⟨he, hg⟩ => ?_
  subst he
  exact ⟨_, rfl, _, _, _, [], _, [], hW', (trodAll_cons_mk (shut_bool Try.underlying4 _) trodAll_mk0), (trodAll_cons_mk (Below.trod laidOut (by kernel_rfl) (of_decide_eq_true (by kernel_rfl)) k0 hg lt0) (trodAll_cons_mk (Below.trod laidOut (by kernel_rfl) (of_decide_eq_true (by kernel_rfl)) k1 hg lt1) trodAll_mk0)), rfl, hg.frame _, fun h => by cases h⟩

theorem over : Rows.fnExactLatenessRow.holds Try.pinned (OpenSpec.ofChange Rows.fnExactLatenessSpec) :=
  OpenClaim.holds_of_wide 10 Try.f10 rfl rfl rfl rfl rfl rfl rfl ⟨rfl, rfl, rfl, rfl, rfl⟩ rfl rfl rfl rfl rfl (by kernel_rfl) Try.func10 (by kernel_rfl)
    (of_decide_eq_true (by kernel_rfl)) (by unfold Func.isWrapper; first | (rw [if_pos (by decide +kernel)]; kernel_rfl) | (rw [if_neg (by decide +kernel)]; exact ⟨rfl, rfl⟩))
    (fun os started H enc _ => lifted os started H enc)

end Go.Proofs.Ytogolmbgboihdaa.fnExactLateness

namespace Go.Proofs.Ytogolmbgboihdaa
theorem fnExactLateness_holds : Rows.FnExactLatenessSaid := fnExactLateness.over
#print axioms fnExactLateness_holds
end Go.Proofs.Ytogolmbgboihdaa
