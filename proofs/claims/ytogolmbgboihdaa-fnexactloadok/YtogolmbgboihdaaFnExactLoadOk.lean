/- At every list of machines and every list of jobs the program's LoadOk answers as the model's, and leaves both lists as they were; no condition beyond what the statement says. -/
import Derived.Test.YtogolmbgboihdaaRows
import Derived.WalkKit
import Derived.ProofKit
import Derived.OpenShut
import Derived.ShutString
import Derived.ChangeOld
import Derived.Below
import Derived.Handy
import Derived.Carry
import Derived.Lib.SmallJoins
import Derived.Deep.SlicePairs
import Derived.Test.YtogolmbgboihdaaFe
namespace Go.Proofs.Ytogolmbgboihdaa.fnExactLoadOk
open Go.ChangeShapes Go.WideShapes Go.ChangeAt Go.RowKit
set_option linter.unusedVariables false
set_option linter.unusedSimpArgs false

theorem own : ownKnob Try.prog.godebug = none := by kernel_rfl
theorem laidOut : laidOutB Try.prog = true := by kernel_rfl

set_option maxRecDepth 20000 in
set_option maxHeartbeats 4000000 in
theorem walk (ad : Option Addr) (len cap : Nat) (c : Nat → MA3) (aj : Option Addr) (jn jcap : Nat) (jc : Nat → JB) (w : World) (hl : len ≤ maxLen) (hr : MAr w ad len c) (hjn : jn ≤ maxLen) (hjc : ∀ j, (jc j).rn ≤ maxLen) (hjr : JBr w aj jn jc) :
    Calls Try.prog 6 #[.slice ad len cap, .slice aj jn jcap] w fun e w' => e = .returned (.bool true) ∧ Below w.heap.size w w' := by
  have HR0 : Hid (MAr w ad len c) := hr
  have hL0 : (len : Int) ≤ 9223372036854775807 := by have := hl; unfold maxLen at this; omega
  have HR1 : Hid (JBr w aj jn jc) := hjr
  have hL1 : (jn : Int) ≤ 9223372036854775807 := by have := hjn; unfold maxLen at this; omega
  have HJM : Hid (∀ j, ((jc j).rn : Int) ≤ 9223372036854775807) := fun j => by have := hjc j; unfold maxLen at this; omega
  clear hl hr hjn hjr hjc
  have tk0 : True := trivial
  have tk1 : True := trivial
  go_enter Try.func6, Try.ntmps6
  go_wp2_with (first
      | (go_at_call 24; clear tk0; refine (szMA3S_any _ _ _ _ _ (by omega) (by omega) hL0).mono ?_; rintro e ws0 ⟨v0, rfl, hv0, ew⟩; replace ew := ew.symm; subst ew; rcases hv0 with rfl | ⟨hv0a, hv0b, hb0⟩ <;> (try have nv0 : ¬ v0 < 0 := (by omega)))
      | (go_at_call 25; clear tk1; refine (szJBS_any _ _ _ jc _ _ (by omega) (by omega) hL1 HJM.out HR1.out).mono ?_; rintro e ws1 ⟨v1, rfl, hv1, b_⟩; have HS1 : Hid (Below w.heap.size w ws1) := hid (b_); clear b_; rcases hv1 with rfl | ⟨hv1a, hv1b, hb1, hq1⟩ <;> (try have nv1 : ¬ v1 < 0 := (by omega)) <;> (try have HJN : Hid (∀ j, j < jn → ((jc j).rn : Int) ≤ 1048576) := hq1) <;> (try clear hq1)))
  · go_returns
    exact ⟨rfl, by first | exact Below.refl _ _ | exact HS0.out | exact HS1.out⟩
  · go_returns
    exact ⟨rfl, by first | exact Below.refl _ _ | exact HS0.out | exact HS1.out⟩
  obtain ⟨TV, hTV⟩ : ∃ x, loB len c jn jc = x := ⟨_, rfl⟩
  have HTV : Hid (loB len c jn jc = TV) := hTV
  clear hTV
  have htv : (TV != TV) = false := by simp
  have tok0 : True := trivial
  have tok1 : True := trivial
  have tok2 : True := trivial
  have tok3 : True := trivial
  have tok4 : True := trivial
  have tok5 : True := trivial
  have tok6 : True := trivial
  have tok7 : True := trivial
  have tok8 : True := trivial
  have tok9 : True := trivial
  go_wp2_with (first
      | (go_at_call 27; clear tok0; refine (toMA3S_any _ _ _ c _ hb0 (HR0.out.below HS1.out)).mono ?_; rintro e w101 ⟨rfl, i_, b_⟩; have HB101 : Hid (Below w.heap.size w w101) := hid (bel_on HS1.out b_); have P0 := hid i_.1; clear i_ b_)
      | (go_at_call 28; clear tok1; refine (toJBS_any _ _ _ jc _ hb1 HJN.out (HR1.out.below HB101.out)).mono ?_; rintro e w102 ⟨rfl, ⟨bt_P1, i_⟩, b_⟩; have HB102 : Hid (Below w.heap.size w w102) := hid (bel_on HB101.out b_); replace P0 := hid (P0.out.below b_); have P1 := hid i_.row; clear i_ b_)
      | (go_at_call 26; clear tok2; refine (specLoadOk_eq _ _ _ c _ _ _ jc TV _ hb0 hb1 HJN.out P0.out P1.out HTV.out).mono ?_; rintro e w103 ⟨rfl, b_⟩; have HB103 : Hid (Below w.heap.size w w103) := hid (bel_on HB102.out b_); replace P0 := hid (P0.out.below b_); replace P1 := hid (P1.out.below b_); clear b_)
      | (go_at_call 27; clear tok3; refine (toMA3S_any _ _ _ c _ hb0 (HR0.out.below HB103.out)).mono ?_; rintro e w104 ⟨rfl, i_, b_⟩; have HB104 : Hid (Below w.heap.size w w104) := hid (bel_on HB103.out b_); replace P0 := hid (P0.out.below b_); replace P1 := hid (P1.out.below b_); have Q0 := hid i_.1; clear i_ b_)
      | (go_at_call 28; clear tok4; refine (toJBS_any _ _ _ jc _ hb1 HJN.out (HR1.out.below HB104.out)).mono ?_; rintro e w105 ⟨rfl, ⟨bt_Q1, i_⟩, b_⟩; have HB105 : Hid (Below w.heap.size w w105) := hid (bel_on HB104.out b_); replace P0 := hid (P0.out.below b_); replace P1 := hid (P1.out.below b_); replace Q0 := hid (Q0.out.below b_); have Q1 := hid i_.row; clear i_ b_)
      | (go_at_call 29; clear tok5; refine (implLoadOk_eq _ _ _ c _ _ _ jc TV _ hb0 hb1 HJN.out Q0.out Q1.out HTV.out).mono ?_; rintro e w106 ⟨rfl, b_⟩; have HB106 : Hid (Below w.heap.size w w106) := hid (bel_on HB105.out b_); replace P0 := hid (P0.out.below b_); replace P1 := hid (P1.out.below b_); replace Q0 := hid (Q0.out.below b_); replace Q1 := hid (Q1.out.below b_); clear b_)
      | (go_at_call 27; clear tok6; refine (toMA3S_any _ _ _ c _ hb0 (HR0.out.below HB106.out)).mono ?_; rintro e w107 ⟨rfl, i_, b_⟩; have HB107 : Hid (Below w.heap.size w w107) := hid (bel_on HB106.out b_); replace P0 := hid (P0.out.below b_); replace P1 := hid (P1.out.below b_); replace Q0 := hid (Q0.out.below b_); replace Q1 := hid (Q1.out.below b_); have R0 := hid i_.1; clear i_ b_)
      | (go_at_call 30; clear tok7; refine (eqMA3S_same _ _ _ _ _ c _ hb0 Q0.out R0.out).mono ?_; rintro e w108 ⟨rfl, b_⟩; have HB108 : Hid (Below w.heap.size w w108) := hid (bel_on HB107.out b_); replace P0 := hid (P0.out.below b_); replace P1 := hid (P1.out.below b_); replace Q0 := hid (Q0.out.below b_); replace Q1 := hid (Q1.out.below b_); replace R0 := hid (R0.out.below b_); clear b_)
      | (go_at_call 28; clear tok8; refine (toJBS_any _ _ _ jc _ hb1 HJN.out (HR1.out.below HB108.out)).mono ?_; rintro e w109 ⟨rfl, ⟨bt_R1, i_⟩, b_⟩; have HB109 : Hid (Below w.heap.size w w109) := hid (bel_on HB108.out b_); replace P0 := hid (P0.out.below b_); replace P1 := hid (P1.out.below b_); replace Q0 := hid (Q0.out.below b_); replace Q1 := hid (Q1.out.below b_); replace R0 := hid (R0.out.below b_); have R1 := hid i_.row; clear i_ b_)
      | (go_at_call 31; clear tok9; refine (eqJBS_same _ _ _ _ _ jc _ hb1 HJN.out Q1.out R1.out).mono ?_; rintro e w110 ⟨rfl, b_⟩; have HB110 : Hid (Below w.heap.size w w110) := hid (bel_on HB109.out b_); replace P0 := hid (P0.out.below b_); replace P1 := hid (P1.out.below b_); replace Q0 := hid (Q0.out.below b_); replace Q1 := hid (Q1.out.below b_); replace R0 := hid (R0.out.below b_); replace R1 := hid (R1.out.below b_); clear b_))
  go_returns
  exact ⟨rfl, HB110.out⟩

set_option maxRecDepth 100000 in
theorem lifted (os : Os) (started : os.Started) (H : Type) (enc : TypeId × Value → H) :
    ReturnsInHanded {} Try.checked os 6 .any (Rows.fnExactLoadOkSpec.pre6 enc Try.prog Try.f6 Rows.fnExactLoadOkRow.domain false) (Rows.fnExactLoadOkSpec.post enc Try.prog Try.f6 false true false false) := by
  refine returnsInHanded_of_change (C := Try.checked) own started (by kernel_rfl) Try.func6
    (ChangeSpec.witness6 (enc := enc) (C := Try.checked) false ⟨#[], #[.slice none 0 0, .slice none 0 0], []⟩ 8 (by kernel_rfl) (by kernel_rfl) (by kernel_rfl) (by kernel_rfl)) ?_
  intro W base args ds gs before hval0 hW hcnd _
  have hval : ∀ (j : Nat) t v, Try.f6.params[j]? = some t → args[j]? = some v → Value.okWide Try.prog W .any base t v := hval0
  have hW' := hW
  obtain ⟨p, q, hA0, hV, rfl, hfz, hnd⟩ := hW
  have hA : DataW.TrodAll enc Try.prog W 0 (fun _ => true) true Try.f6.params.toList args.toList ds p := hA0
  rw [Try.params6] at hA hval
  obtain ⟨v0, vs0, d0, ds0, p0, q0, hargs, rfl, rfl, h0, r0⟩ := trodAll_cons hA
  obtain ⟨v1, vs1, d1, ds1, p1, q1, rfl, rfl, rfl, h1, r1⟩ := trodAll_cons r0
  obtain ⟨rfl, rfl, rfl⟩ := trodAll_nil r1
  obtain rfl : args = #[v0, v1] := by cases args; simp_all
  obtain ⟨rfl, rfl⟩ := trodVars_none hV
  have k0 := h0
  have lt0 : ∀ x ∈ p0, x.block < W.heap.size := by obtain ⟨m, hm⟩ := k0; exact DataW.trod_lt m _ _ _ hm
  have k1 := h1
  have lt1 : ∀ x ∈ p1, x.block < W.heap.size := by obtain ⟨m, hm⟩ := k1; exact DataW.trod_lt m _ _ _ hm
  obtain ⟨ad, len, cap, rfl⟩ := okWide_slice Try.underlying51 (hval 0 51 v0 rfl rfl)
  obtain ⟨c, hl, hr⟩ := MA3_of Try.underlying51 Try.underlying61 (by kernel_rfl) ⟨rfl, rfl, rfl⟩ ⟨by kernel_rfl, by kernel_rfl, by kernel_rfl⟩ Try.underlying3 Try.underlying3 Try.underlying3 h0
  obtain ⟨aj, jn, jcap, rfl⟩ := okWide_slice Try.underlying52 (hval 1 52 v1 rfl rfl)
  obtain ⟨jc, hjn, hjc0, hjr⟩ := JB_of Try.underlying52 Try.underlying102 (by kernel_rfl) ⟨rfl, rfl, rfl, rfl⟩ ⟨by kernel_rfl, by kernel_rfl, by kernel_rfl, by kernel_rfl⟩ Try.underlying3 Try.underlying3 Try.underlying3 Try.underlying100 Try.underlying143 (by kernel_rfl) ⟨rfl, rfl, rfl⟩ ⟨by kernel_rfl, by kernel_rfl, by kernel_rfl⟩ Try.underlying3 Try.underlying3 Try.underlying3 h1
  have hjc : ∀ j, (jc j).rn ≤ maxLen := hjc0
  clear hA0 hval0
  refine (walk ad len cap c aj jn jcap jc W hl hr hjn hjc hjr).mono fun e W' ⟨he, hg⟩ => ?_
  subst he
  exact ⟨_, rfl, _, _, _, [], _, [], hW', (trodAll_cons_mk (shut_bool Try.underlying4 _) trodAll_mk0), (trodAll_cons_mk (Below.trod laidOut (by kernel_rfl) (of_decide_eq_true (by kernel_rfl)) k0 hg lt0) (trodAll_cons_mk (Below.trod laidOut (by kernel_rfl) (of_decide_eq_true (by kernel_rfl)) k1 hg lt1) trodAll_mk0)), rfl, hg.frame _, fun h => by cases h⟩

theorem over : Rows.fnExactLoadOkRow.holds Try.pinned (OpenSpec.ofChange Rows.fnExactLoadOkSpec) :=
  OpenClaim.holds_of_wide 6 Try.f6 rfl rfl rfl rfl rfl rfl rfl ⟨rfl, rfl, rfl, rfl, rfl⟩ rfl rfl rfl rfl rfl (by kernel_rfl) Try.func6 (by kernel_rfl)
    (of_decide_eq_true (by kernel_rfl)) (by unfold Func.isWrapper; first | (rw [if_pos (by decide +kernel)]; kernel_rfl) | (rw [if_neg (by decide +kernel)]; exact ⟨rfl, rfl⟩))
    (fun os started H enc _ => lifted os started H enc)

end Go.Proofs.Ytogolmbgboihdaa.fnExactLoadOk

namespace Go.Proofs.Ytogolmbgboihdaa
theorem fnExactLoadOk_holds : Rows.FnExactLoadOkSaid := fnExactLoadOk.over
#print axioms fnExactLoadOk_holds
end Go.Proofs.Ytogolmbgboihdaa
