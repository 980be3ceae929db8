/- FnExactBest: at every argument Best of the program answers as the specification. -/
import Derived.Test.YtogolmbgboihdaaRows
import Derived.WalkKit
import Derived.ProofKit
import Derived.OpenShut
import Derived.ShutString
import Derived.ChangeOld
import Derived.Below
import Derived.Handy
import Derived.Carry
import Derived.Lib.SmallJoins
import Derived.Deep.SlicePairs
import Derived.Test.YtogolmbgboihdaaBd
namespace Go.Proofs.Ytogolmbgboihdaa.fnExactBest
open Go.ChangeShapes Go.WideShapes Go.ChangeAt Go.RowKit
set_option linter.unusedVariables false
set_option linter.unusedSimpArgs false

theorem own : ownKnob Try.prog.godebug = none := by kernel_rfl
theorem laidOut : laidOutB Try.prog = true := by kernel_rfl

set_option maxRecDepth 20000 in
set_option maxHeartbeats 4000000 in
theorem walk (ad : Option Addr) (len cap : Nat) (c : Nat → MA3) (aj : Option Addr) (jn jcap : Nat) (jc : Nat → JB) (w : World) (hl : len ≤ maxLen) (hr : MAr w ad len c) (hjn : jn ≤ maxLen) (hjc : ∀ j, (jc j).rn ≤ maxLen) (hjr : JBr w aj jn jc) :
    Calls Try.prog 11 #[.slice ad len cap, .slice aj jn jcap] w fun e w' => e = .returned (.bool true) ∧ Below w.heap.size w w' := by
  have HR0 : Hid (MAr w ad len c) := hr
  have hl0 : (len : Int) ≤ 9223372036854775807 := by have := hl; unfold maxLen at this; omega
  have HR1 : Hid (JBr w aj jn jc) := hjr
  have hl1 : (jn : Int) ≤ 9223372036854775807 := by have := hjn; unfold maxLen at this; omega
  have HJM : Hid (∀ j, ((jc j).rn : Int) ≤ 9223372036854775807) := fun j => by have := hjc j; unfold maxLen at this; omega
  clear hjc
  clear hr hl hjr hjn
  have tk0 : True := trivial
  have tk1 : True := trivial
  go_enter Try.func11, Try.ntmps11
  go_wp2_with (first
      | (go_at_call 24; clear tk0; refine (szMA3S_any _ _ _ _ _ (by omega) (by omega) hl0).mono ?_; rintro e wz ⟨v0, rfl, hv0, ew⟩; replace ew := ew.symm; subst ew; (rcases hv0 with rfl | ⟨hv0, hvv0, hb0⟩) <;> (try have hvn0 : ¬ v0 < 0 := (by omega)))
      | (go_at_call 25; clear tk1; refine (szJBS_any _ _ _ jc _ _ (by omega) (by omega) hl1 HJM.out HR1.out).mono ?_; rintro e w1 ⟨v1, rfl, hv1, b1⟩; have HS0 : Hid (Below w.heap.size w w1) := hid b1; clear b1; (rcases hv1 with rfl | ⟨hv1, hvv1, hb1, hq1⟩) <;> (try have hvn1 : ¬ v1 < 0 := (by omega)) <;> (try have HJN : Hid (∀ j, j < jn → ((jc j).rn : Int) ≤ 1048576) := hid hq1) <;> (try clear hq1)))
  · go_returns
    exact ⟨rfl, by first | exact Below.refl _ _ | assumption | (exact HS0.out) | (exact HS1.out)⟩
  · go_returns
    exact ⟨rfl, by first | exact Below.refl _ _ | assumption | (exact HS0.out) | (exact HS1.out)⟩
  obtain ⟨M, hM⟩ : ∃ M, beM len c jn jc = M := ⟨_, rfl⟩
  obtain ⟨TV, hTV⟩ : ∃ x, beV len c jn jc = x := ⟨_, rfl⟩
  obtain ⟨F, hF⟩ : ∃ F, beF len c jn jc = F := ⟨_, rfl⟩
  have hM1 : (M : Int) ≤ 1048576 := by
    rw [← hM]; exact be_bd hb1
  have htv : (TV != TV) = false := by simp
  have HSP : Hid (∀ (a1_ : Option Addr) (k1_ : Nat) (a2_ : Option Addr) (k2_ : Nat) (W : World), MAr W a1_ len c → JBr W a2_ jn jc → Calls Try.prog 20 #[.slice a1_ len k1_, .slice a2_ jn k2_] W fun e w' => ∃ ad cap, e = .returned (.tuple #[.slice ad M cap, .int .i64 TV]) ∧ OwnI w' W.heap.size ad M F ∧ Below W.heap.size W w') := fun a1_ k1_ a2_ k2_ W g1 g2 => by
    have := specBest_any a1_ len k1_ c a2_ jn k2_ jc W hb0 hb1 HJN.out g1 g2
    rw [hM, hTV, hF] at this; exact this
  have HIM : Hid (∀ (a1_ : Option Addr) (k1_ : Nat) (a2_ : Option Addr) (k2_ : Nat) (W : World), MAr W a1_ len c → JBr W a2_ jn jc → Calls Try.prog 21 #[.slice a1_ len k1_, .slice a2_ jn k2_] W fun e w' => ∃ ad cap, e = .returned (.tuple #[.slice ad M cap, .int .i64 TV]) ∧ OwnI w' W.heap.size ad M F ∧ Below W.heap.size W w') := fun a1_ k1_ a2_ k2_ W g1 g2 => by
    have := implBest_any a1_ len k1_ c a2_ jn k2_ jc W hb0 hb1 HJN.out g1 g2
    rw [hM, hTV, hF] at this; exact this
  clear hM hF hTV
  have tok0 : True := trivial
  have tok1 : True := trivial
  have tok2 : True := trivial
  have tok3 : True := trivial
  have tok4 : True := trivial
  have tok5 : True := trivial
  have tok6 : True := trivial
  have tok7 : True := trivial
  have tok8 : True := trivial
  have tok9 : True := trivial
  have tok10 : True := trivial
  have tok11 : True := trivial
  have tok12 : True := trivial
  have tok13 : True := trivial
  have tok14 : True := trivial
  have tok15 : True := trivial
  have tok16 : True := trivial
  have tok17 : True := trivial
  have tok18 : True := trivial
  have tok19 : True := trivial
  have tok20 : True := trivial
  go_wp2_with (first
      | (go_at_call 27; clear tok0; refine (toMA3S_any _ _ _ c _ hb0 (HR0.out.below HS0.out)).mono ?_; rintro e w101 ⟨rfl, i_w101, b_w101⟩; have HI_s_0 : Hid (AMA3 w101 w1.heap.size len c) := hid i_w101; have HLT_s_0 := hid HI_s_0.out.lt; have HB_w101 : Hid (Below w.heap.size w w101) := hid (bel_on HS0.out b_w101); clear i_w101 b_w101)
      | (go_at_call 28; clear tok1; refine (toJBS_any _ _ _ jc _ hb1 HJN.out (HR1.out.below HB_w101.out)).mono ?_; rintro e w102 ⟨rfl, ⟨bt_w102, i_w102⟩, b_w102⟩; have HI_s_1 : Hid (AJB w102 w101.heap.size w102.heap.size jn jc) := hid ⟨bt_w102, i_w102, fun j hj => (i_w102.t j hj).lt, i_w102.lt⟩; have HLT_s_1 := hid i_w102.lt; have HB_w102 : Hid (Below w.heap.size w w102) := hid (bel_on HB_w101.out b_w102); replace HI_s_0 := hid (HI_s_0.out.below b_w102); clear i_w102 b_w102)
      | (go_at_call 20; clear tok2; refine (HSP.out _ _ _ _ _ HI_s_0.out.1 HI_s_1.out.row).mono ?_; rintro e w103 ⟨ado, capo, rfl, o_s, b_s⟩; have HO : Hid (OwnMI w103 w.heap.size w103.heap.size ado M F) := hid ((ownMI_of o_s).lower HB_w102.out.size); have HB_w103 : Hid (Below w.heap.size w w103) := hid (bel_on HB_w102.out b_s); clear o_s b_s)
      | (go_at_call 27; clear tok3; refine (toMA3S_any _ _ _ c _ hb0 (HR0.out.below HB_w103.out)).mono ?_; rintro e w104 ⟨rfl, i_w104, b_w104⟩; have HI_x_0 : Hid (AMA3 w104 w103.heap.size len c) := hid i_w104; have HLT_x_0 := hid HI_x_0.out.lt; have HB_w104 : Hid (Below w.heap.size w w104) := hid (bel_on HB_w103.out b_w104); replace HO := hid (HO.out.below b_w104); clear i_w104 b_w104)
      | (go_at_call 28; clear tok4; refine (toJBS_any _ _ _ jc _ hb1 HJN.out (HR1.out.below HB_w104.out)).mono ?_; rintro e w105 ⟨rfl, ⟨bt_w105, i_w105⟩, b_w105⟩; have HI_x_1 : Hid (AJB w105 w104.heap.size w105.heap.size jn jc) := hid ⟨bt_w105, i_w105, fun j hj => (i_w105.t j hj).lt, i_w105.lt⟩; have HLT_x_1 := hid i_w105.lt; have HB_w105 : Hid (Below w.heap.size w w105) := hid (bel_on HB_w104.out b_w105); replace HI_x_0 := hid (HI_x_0.out.below b_w105); replace HO := hid (HO.out.below b_w105); clear i_w105 b_w105)
      | (go_at_call 21; clear tok5; have HLX : Hid (w.heap.size ≤ w103.heap.size ∧ w103.heap.size ≤ w103.heap.size ∧ w103.heap.size < w104.heap.size ∧ w104.heap.size < w105.heap.size) := hid ⟨HB_w103.out.size, Nat.le_refl _, HLT_x_0.out, HLT_x_1.out⟩; refine (HIM.out _ _ _ _ _ HI_x_0.out.1 HI_x_1.out.row).mono ?_; rintro e w106 ⟨adg, capg, rfl, o_g, b_g⟩; have HU : Hid (BU0 w M F ado adg (w103.heap.size) (w105.heap.size) w106.heap.size (w103.heap.size) len c (w104.heap.size) jn jc w106) := hid ⟨bel_on HB_w105.out b_g, HO.out.below b_g, ownMI_of o_g, HI_x_0.out.below b_g, HI_x_1.out.below b_g, HLX.out⟩; clear o_g b_g)
      | (go_at_call 36; clear tok6; refine (eqIntS_same _ _ _ _ _ F _ hM1 HU.out.g.row HU.out.o.row).mono ?_; rintro e w107 ⟨rfl, b_w107⟩; replace HU := hid (HU.out.below b_w107); clear b_w107)
      | (go_at_call 27; clear tok7; refine (toMA3S_any _ _ _ c _ hb0 (HR0.out.below HU.out.bl)).mono ?_; rintro e w108 ⟨rfl, i_w108, b_w108⟩; replace HU := hid (HU.out.below b_w108); have HJ0 := hid i_w108.1; clear i_w108 b_w108)
      | (go_at_call 30; clear tok8; refine (eqMA3S_same _ _ _ _ _ c _ hb0 HU.out.r0.1 HJ0.out).mono ?_; rintro e w109 ⟨rfl, b_w109⟩; replace HU := hid (HU.out.below b_w109); clear b_w109)
      | (go_at_call 28; clear tok9; refine (toJBS_any _ _ _ jc _ hb1 HJN.out (HR1.out.below HU.out.bl)).mono ?_; rintro e w110 ⟨rfl, ⟨bt_w110, i_w110⟩, b_w110⟩; replace HU := hid (HU.out.below b_w110); have HJ1 := hid i_w110.row; clear i_w110 b_w110)
      | (go_at_call 31; clear tok10; refine (eqJBS_same _ _ _ _ _ jc _ hb1 HJN.out HU.out.r1.row HJ1.out).mono ?_; rintro e w111 ⟨rfl, b_w111⟩; replace HU := hid (HU.out.below b_w111); clear b_w111)
      | (go_at_call 37; clear tok11; obtain ⟨_, cx, hcx, hsx⟩ := HU.out.r0; refine (markMA3S_is _ _ _ _ cx _ hb0 (by omega) (by omega) hcx (by omega)).mono ?_; rintro e w112 ⟨rfl, _, _, kk, b_w112⟩; have HU1 := hid (HU.out.marked kk b_w112); clear hcx hsx kk b_w112)
      | (go_at_call 38; clear tok12; obtain ⟨bt, hO, hbt, _⟩ := HU1.out.r1; refine (markJBS_any _ _ _ jc bt _ _ _ _ hb1 HJN.out (by omega) (by omega) hO (Nat.le_refl _) (.inr ⟨hbt, by have := HU1.out.l; omega⟩)).mono ?_; rintro e w113 ⟨vk1, rfl, hvk1, kk, b_w113⟩; have HU2 := hid (HU1.out.marked kk b_w113); clear hO hbt kk b_w113; have hkk : ¬ (vk1) < 0 := (by omega))
      | (go_at_call 36; clear tok13; refine (eqIntS_same _ _ _ _ _ F _ hM1 HU2.out.g.row HU2.out.o.row).mono ?_; rintro e w114 ⟨rfl, b_w114⟩; replace HU2 := hid (HU2.out.below b_w114); clear b_w114)
      | (go_at_call 39; clear tok14; refine (markMI _ _ _ _ _ F _ hM1 HU2.out.g).mono ?_; rintro e w115 ⟨rfl, r_w115, kk, b_w115⟩; have HZ := hid (HU2.out.marked r_w115 kk b_w115); clear r_w115 kk b_w115)
      | (go_at_call 43; clear tok15; refine (heldI_is _ _ _ 1 _ hM1 (by omega) (by omega) HZ.out.h).mono ?_; rintro e w116 ⟨rfl, ew⟩; replace ew := ew.symm; subst ew)
      | (go_at_call 27; clear tok16; refine (toMA3S_any _ _ _ c _ hb0 (HR0.out.below HZ.out.bl)).mono ?_; rintro e w117 ⟨rfl, i_w117, b_w117⟩; replace HZ := hid (HZ.out.below b_w117); have HY0 := hid i_w117.1; clear i_w117 b_w117)
      | (go_at_call 28; clear tok17; refine (toJBS_any _ _ _ jc _ hb1 HJN.out (HR1.out.below HZ.out.bl)).mono ?_; rintro e w118 ⟨rfl, ⟨bt_w118, i_w118⟩, b_w118⟩; replace HZ := hid (HZ.out.below b_w118); replace HY0 := hid (HY0.out.below b_w118); have HY1 := hid i_w118.row; clear i_w118 b_w118)
      | (go_at_call 21; clear tok18; refine (HIM.out _ _ _ _ _ HY0.out HY1.out).mono ?_; rintro e w119 ⟨adh, caph, rfl, o_h, b_h⟩; have HE := hid o_h.row; replace HZ := hid (HZ.out.below b_h); clear o_h b_h)
      | (go_at_call 36; clear tok19; refine (eqIntS_same _ _ _ _ _ F _ hM1 HE.out HZ.out.o.row).mono ?_; rintro e w120 ⟨rfl, b_w120⟩; replace HZ := hid (HZ.out.below b_w120); clear b_w120)
      | (go_at_call 43; clear tok20; refine (heldI_is _ _ _ 1 _ hM1 (by omega) (by omega) HZ.out.h).mono ?_; rintro e w121 ⟨rfl, ew⟩; replace ew := ew.symm; subst ew))
  go_returns
  exact ⟨rfl, HZ.out.bl⟩

set_option maxRecDepth 100000 in
theorem lifted (os : Os) (started : os.Started) (H : Type) (enc : TypeId × Value → H) :
    ReturnsInHanded {} Try.checked os 11 .any (Rows.fnExactBestSpec.pre6 enc Try.prog Try.f11 Rows.fnExactBestRow.domain false) (Rows.fnExactBestSpec.post enc Try.prog Try.f11 false true false false) := by
  refine returnsInHanded_of_change (C := Try.checked) own started (by kernel_rfl) Try.func11
    (ChangeSpec.witness6 (enc := enc) (C := Try.checked) false ⟨#[], #[.slice none 0 0, .slice none 0 0], []⟩ 8 (by kernel_rfl) (by kernel_rfl) (by kernel_rfl) (by kernel_rfl)) ?_
  intro W base args ds gs before hval0 hW hcnd _
  have hval : ∀ (j : Nat) t v, Try.f11.params[j]? = some t → args[j]? = some v → Value.okWide Try.prog W .any base t v := hval0
  have hW' := hW
  obtain ⟨p, q, hA0, hV, rfl, hfz, hnd⟩ := hW
  have hA : DataW.TrodAll enc Try.prog W 0 (fun _ => true) true Try.f11.params.toList args.toList ds p := hA0
  rw [Try.params11] at hA hval
  obtain ⟨v0, vs0, d0, ds0, p0, q0, hargs, rfl, rfl, h0, r0⟩ := trodAll_cons hA
  obtain ⟨v1, vs1, d1, ds1, p1, q1, rfl, rfl, rfl, h1, r1⟩ := trodAll_cons r0
  obtain ⟨rfl, rfl, rfl⟩ := trodAll_nil r1
  obtain rfl : args = #[v0, v1] := by cases args; simp_all
  obtain ⟨rfl, rfl⟩ := trodVars_none hV
  have k0 := h0
  have lt0 : ∀ x ∈ p0, x.block < W.heap.size := by obtain ⟨m, hm⟩ := k0; exact DataW.trod_lt m _ _ _ hm
  have k1 := h1
  have lt1 : ∀ x ∈ p1, x.block < W.heap.size := by obtain ⟨m, hm⟩ := k1; exact DataW.trod_lt m _ _ _ hm
  obtain ⟨ad, len, cap, rfl⟩ := okWide_slice Try.underlying51 (hval 0 51 v0 rfl rfl)
  obtain ⟨c, hl, hr⟩ := MA3_of Try.underlying51 Try.underlying61 (by kernel_rfl) ⟨rfl, rfl, rfl⟩ ⟨by kernel_rfl, by kernel_rfl, by kernel_rfl⟩ Try.underlying3 Try.underlying3 Try.underlying3 h0
  obtain ⟨aj, jn, jcap, rfl⟩ := okWide_slice Try.underlying52 (hval 1 52 v1 rfl rfl)
  obtain ⟨jc, hjn, hjc0, hjr⟩ := JB_of Try.underlying52 Try.underlying102 (by kernel_rfl) ⟨rfl, rfl, rfl, rfl⟩ ⟨by kernel_rfl, by kernel_rfl, by kernel_rfl, by kernel_rfl⟩ Try.underlying3 Try.underlying3 Try.underlying3 Try.underlying100 Try.underlying143 (by kernel_rfl) ⟨rfl, rfl, rfl⟩ ⟨by kernel_rfl, by kernel_rfl, by kernel_rfl⟩ Try.underlying3 Try.underlying3 Try.underlying3 h1
  have hjc : ∀ j, (jc j).rn ≤ maxLen := hjc0
  clear hA0 hval0
  refine (walk ad len cap c aj jn jcap jc W hl hr hjn hjc hjr).mono fun e W' ⟨he, hg⟩ => ?_
  subst he
  exact ⟨_, rfl, _, _, _, [], _, [], hW', (trodAll_cons_mk (shut_bool Try.underlying4 _) trodAll_mk0), (trodAll_cons_mk (Below.trod laidOut (by kernel_rfl) (of_decide_eq_true (by kernel_rfl)) k0 hg lt0) (trodAll_cons_mk (Below.trod laidOut (by kernel_rfl) (of_decide_eq_true (by kernel_rfl)) k1 hg lt1) trodAll_mk0)), rfl, hg.frame _, fun h => by cases h⟩

theorem over : Rows.fnExactBestRow.holds Try.pinned (OpenSpec.ofChange Rows.fnExactBestSpec) :=
  OpenClaim.holds_of_wide 11 Try.f11 rfl rfl rfl rfl rfl rfl rfl ⟨rfl, rfl, rfl, rfl, rfl⟩ rfl rfl rfl rfl rfl (by kernel_rfl) Try.func11 (by kernel_rfl)
    (of_decide_eq_true (by kernel_rfl)) (by unfold Func.isWrapper; first | (rw [if_pos (by decide +kernel)]; kernel_rfl) | (rw [if_neg (by decide +kernel)]; exact ⟨rfl, rfl⟩))
    (fun os started H enc _ => lifted os started H enc)

end Go.Proofs.Ytogolmbgboihdaa.fnExactBest

namespace Go.Proofs.Ytogolmbgboihdaa
theorem fnExactBest_holds : Rows.FnExactBestSaid := fnExactBest.over
#print axioms fnExactBest_holds
end Go.Proofs.Ytogolmbgboihdaa
