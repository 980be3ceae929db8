/- FnExactLoad: at every argument Load of the program answers as the specification. -/
import Derived.Test.YtogolmbgboihdaaRows
import Derived.WalkKit
import Derived.ProofKit
import Derived.OpenShut
import Derived.ShutString
import Derived.ChangeOld
import Derived.Below
import Derived.Handy
import Derived.Carry
import Derived.Lib.SmallJoins
import Derived.Deep.SlicePairs
import Derived.Test.YtogolmbgboihdaaLj
import Derived.Test.YtogolmbgboihdaaIo
namespace Go.Proofs.Ytogolmbgboihdaa.fnExactLoad
open Go.ChangeShapes Go.WideShapes Go.ChangeAt Go.RowKit
set_option linter.unusedVariables false
set_option linter.unusedSimpArgs false

theorem own : ownKnob Try.prog.godebug = none := by kernel_rfl
theorem laidOut : laidOutB Try.prog = true := by kernel_rfl

set_option maxRecDepth 20000 in
set_option maxHeartbeats 4000000 in
theorem walk (ad : Option Addr) (len cap : Nat) (c : Nat → MA3) (aj : Option Addr) (jn jcap : Nat) (jc : Nat → JB) (ai : Option Addr) (leni capi : Nat) (z : Nat → Int) (w : World) (hl : len ≤ maxLen) (hr : MAr w ad len c) (hjn : jn ≤ maxLen) (hjc : ∀ j, (jc j).rn ≤ maxLen) (hjr : JBr w aj jn jc) (hli : leni ≤ maxLen) (hri : IR w ai leni z) :
    Calls Try.prog 8 #[.slice ad len cap, .slice aj jn jcap, .slice ai leni capi] w fun e w' => e = .returned (.bool true) ∧ Below w.heap.size w w' := by
  have HR0 : Hid (MAr w ad len c) := hr
  have hl0 : (len : Int) ≤ 9223372036854775807 := by have := hl; unfold maxLen at this; omega
  have HR1 : Hid (JBr w aj jn jc) := hjr
  have hl1 : (jn : Int) ≤ 9223372036854775807 := by have := hjn; unfold maxLen at this; omega
  have HR2 : Hid (IR w ai leni z) := hri
  have hl2 : (leni : Int) ≤ 9223372036854775807 := by have := hli; unfold maxLen at this; omega
  have HJM : Hid (∀ j, ((jc j).rn : Int) ≤ 9223372036854775807) := fun j => by have := hjc j; unfold maxLen at this; omega
  clear hjc
  clear hr hl hjr hjn hri hli
  by_cases hL : (1048576 : Int) < (leni : Int)
  · go_enter Try.func8, Try.ntmps8
    go_wp2
    go_returns
    exact ⟨rfl, Below.refl _ _⟩
  have hb2 : (leni : Int) ≤ 1048576 := by omega
  have tk0 : True := trivial
  have tk1 : True := trivial
  go_enter Try.func8, Try.ntmps8
  go_wp2_with (first
      | (go_at_call 24; clear tk0; refine (szMA3S_any _ _ _ _ _ (by omega) (by omega) hl0).mono ?_; rintro e wz ⟨v0, rfl, hv0, ew⟩; replace ew := ew.symm; subst ew; (rcases hv0 with rfl | ⟨hv0, hvv0, hb0⟩) <;> (try have hvn0 : ¬ v0 < 0 := (by omega)))
      | (go_at_call 25; clear tk1; refine (szJBS_any _ _ _ jc _ _ (by omega) (by omega) hl1 HJM.out HR1.out).mono ?_; rintro e w1 ⟨v1, rfl, hv1, b1⟩; have HS0 : Hid (Below w.heap.size w w1) := hid b1; clear b1; (rcases hv1 with rfl | ⟨hv1, hvv1, hb1, hq1⟩) <;> (try have hvn1 : ¬ v1 < 0 := (by omega)) <;> (try have HJN : Hid (∀ j, j < jn → ((jc j).rn : Int) ≤ 1048576) := hid hq1) <;> (try clear hq1)))
  · go_returns
    exact ⟨rfl, by first | exact Below.refl _ _ | assumption | (exact HS0.out) | (exact HS1.out)⟩
  · go_returns
    exact ⟨rfl, by first | exact Below.refl _ _ | assumption | (exact HS0.out) | (exact HS1.out)⟩
  obtain ⟨M, hM⟩ : ∃ M, ldM len c jn jc leni z = M := ⟨_, rfl⟩
  obtain ⟨TV, hTV⟩ : ∃ x, ldB len c jn jc leni z = x := ⟨_, rfl⟩
  obtain ⟨F, hF⟩ : ∃ F, sN c jc z jn = F := ⟨_, rfl⟩
  have hM1 : (M : Int) ≤ 1048576 := by
    rw [← hM]; exact ldM_bd
  have htv : (TV != TV) = false := by simp
  have HSP : Hid (∀ (a1_ : Option Addr) (k1_ : Nat) (a2_ : Option Addr) (k2_ : Nat) (a3_ : Option Addr) (k3_ : Nat) (W : World), MAr W a1_ len c → JBr W a2_ jn jc → IR W a3_ leni z → leni ≤ k3_ → Calls Try.prog 14 #[.slice a1_ len k1_, .slice a2_ jn k2_, .slice a3_ leni k3_] W fun e w' => ∃ ad cap, e = .returned (.tuple #[.slice ad M cap, .bool TV]) ∧ OwnSL5 w' W.heap.size ad M F ∧ Below W.heap.size W w') := fun a1_ k1_ a2_ k2_ a3_ k3_ W g1 g2 g3 g4 => by
    have := specLoad_any a1_ len k1_ c a2_ jn k2_ jc a3_ leni k3_ z W hb0 hb1 HJN.out hb2 g4 g1 g2 g3
    rw [hM, hTV, hF] at this; exact this
  have HIM : Hid (∀ (a1_ : Option Addr) (k1_ : Nat) (a2_ : Option Addr) (k2_ : Nat) (a3_ : Option Addr) (k3_ : Nat) (W : World), MAr W a1_ len c → JBr W a2_ jn jc → IR W a3_ leni z → leni ≤ k3_ → Calls Try.prog 15 #[.slice a1_ len k1_, .slice a2_ jn k2_, .slice a3_ leni k3_] W fun e w' => ∃ ad cap, e = .returned (.tuple #[.slice ad M cap, .bool TV]) ∧ OwnSL5 w' W.heap.size ad M F ∧ Below W.heap.size W w') := fun a1_ k1_ a2_ k2_ a3_ k3_ W g1 g2 g3 g4 => by
    have := implLoad_any a1_ len k1_ c a2_ jn k2_ jc a3_ leni k3_ z W hb0 hb1 HJN.out hb2 g1 g2 g3
    rw [hM, hTV, hF] at this; exact this
  clear hM hF hTV
  have tok0 : True := trivial
  have tok1 : True := trivial
  have tok2 : True := trivial
  have tok3 : True := trivial
  have tok4 : True := trivial
  have tok5 : True := trivial
  have tok6 : True := trivial
  have tok7 : True := trivial
  have tok8 : True := trivial
  have tok9 : True := trivial
  have tok10 : True := trivial
  have tok11 : True := trivial
  have tok12 : True := trivial
  have tok13 : True := trivial
  have tok14 : True := trivial
  have tok15 : True := trivial
  have tok16 : True := trivial
  have tok17 : True := trivial
  have tok18 : True := trivial
  have tok19 : True := trivial
  have tok20 : True := trivial
  have tok21 : True := trivial
  have tok22 : True := trivial
  have tok23 : True := trivial
  have tok24 : True := trivial
  have tok25 : True := trivial
  have tok26 : True := trivial
  go_wp2_with (first
      | (go_at_call 27; clear tok0; refine (toMA3S_any _ _ _ c _ hb0 (HR0.out.below HS0.out)).mono ?_; rintro e w101 ⟨rfl, i_w101, b_w101⟩; have HI_s_0 : Hid (AMA3 w101 w1.heap.size len c) := hid i_w101; have HLT_s_0 := hid HI_s_0.out.lt; have HB_w101 : Hid (Below w.heap.size w w101) := hid (bel_on HS0.out b_w101); clear i_w101 b_w101)
      | (go_at_call 28; clear tok1; refine (toJBS_any _ _ _ jc _ hb1 HJN.out (HR1.out.below HB_w101.out)).mono ?_; rintro e w102 ⟨rfl, ⟨bt_w102, i_w102⟩, b_w102⟩; have HI_s_1 : Hid (AJB w102 w101.heap.size w102.heap.size jn jc) := hid ⟨bt_w102, i_w102, fun j hj => (i_w102.t j hj).lt, i_w102.lt⟩; have HLT_s_1 := hid i_w102.lt; have HB_w102 : Hid (Below w.heap.size w w102) := hid (bel_on HB_w101.out b_w102); replace HI_s_0 := hid (HI_s_0.out.below b_w102); clear i_w102 b_w102)
      | (go_at_call 34; clear tok2; refine (toIntS_any _ _ _ z _ hb2 (HR2.out.below HB_w102.out)).mono ?_; rintro e w103 ⟨rfl, i_w103, b_w103⟩; have HI_s_2 : Hid (AI w103 w102.heap.size leni z) := hid i_w103; have HLT_s_2 := hid HI_s_2.out.lt; have HB_w103 : Hid (Below w.heap.size w w103) := hid (bel_on HB_w102.out b_w103); replace HI_s_0 := hid (HI_s_0.out.below b_w103); replace HI_s_1 := hid (HI_s_1.out.below b_w103); clear i_w103 b_w103)
      | (go_at_call 14; clear tok3; refine (HSP.out _ _ _ _ _ _ _ HI_s_0.out.1 HI_s_1.out.row HI_s_2.out.1 (Nat.le_refl _)).mono ?_; rintro e w104 ⟨ado, capo, rfl, o_s, b_s⟩; have HO : Hid (OwnM w104 w.heap.size w104.heap.size ado M F) := hid ((ownM_of o_s).lower HB_w103.out.size); have HB_w104 : Hid (Below w.heap.size w w104) := hid (bel_on HB_w103.out b_s); clear o_s b_s)
      | (go_at_call 27; clear tok4; refine (toMA3S_any _ _ _ c _ hb0 (HR0.out.below HB_w104.out)).mono ?_; rintro e w105 ⟨rfl, i_w105, b_w105⟩; have HI_x_0 : Hid (AMA3 w105 w104.heap.size len c) := hid i_w105; have HLT_x_0 := hid HI_x_0.out.lt; have HB_w105 : Hid (Below w.heap.size w w105) := hid (bel_on HB_w104.out b_w105); replace HO := hid (HO.out.below b_w105); clear i_w105 b_w105)
      | (go_at_call 28; clear tok5; refine (toJBS_any _ _ _ jc _ hb1 HJN.out (HR1.out.below HB_w105.out)).mono ?_; rintro e w106 ⟨rfl, ⟨bt_w106, i_w106⟩, b_w106⟩; have HI_x_1 : Hid (AJB w106 w105.heap.size w106.heap.size jn jc) := hid ⟨bt_w106, i_w106, fun j hj => (i_w106.t j hj).lt, i_w106.lt⟩; have HLT_x_1 := hid i_w106.lt; have HB_w106 : Hid (Below w.heap.size w w106) := hid (bel_on HB_w105.out b_w106); replace HI_x_0 := hid (HI_x_0.out.below b_w106); replace HO := hid (HO.out.below b_w106); clear i_w106 b_w106)
      | (go_at_call 34; clear tok6; refine (toIntS_any _ _ _ z _ hb2 (HR2.out.below HB_w106.out)).mono ?_; rintro e w107 ⟨rfl, i_w107, b_w107⟩; have HI_x_2 : Hid (AI w107 w106.heap.size leni z) := hid i_w107; have HLT_x_2 := hid HI_x_2.out.lt; have HB_w107 : Hid (Below w.heap.size w w107) := hid (bel_on HB_w106.out b_w107); replace HI_x_0 := hid (HI_x_0.out.below b_w107); replace HI_x_1 := hid (HI_x_1.out.below b_w107); replace HO := hid (HO.out.below b_w107); clear i_w107 b_w107)
      | (go_at_call 15; clear tok7; have HLX : Hid (w.heap.size ≤ w104.heap.size ∧ w104.heap.size ≤ w104.heap.size ∧ w104.heap.size < w105.heap.size ∧ w105.heap.size < w106.heap.size ∧ w106.heap.size < w107.heap.size) := hid ⟨HB_w104.out.size, Nat.le_refl _, HLT_x_0.out, HLT_x_1.out, HLT_x_2.out⟩; refine (HIM.out _ _ _ _ _ _ _ HI_x_0.out.1 HI_x_1.out.row HI_x_2.out.1 (Nat.le_refl _)).mono ?_; rintro e w108 ⟨adg, capg, rfl, o_g, b_g⟩; have HU : Hid (LU0 w M F ado adg (w104.heap.size) (w107.heap.size) w108.heap.size (w104.heap.size) len c (w105.heap.size) jn jc (w106.heap.size) leni z w108) := hid ⟨bel_on HB_w107.out b_g, HO.out.below b_g, ownM_of o_g, HI_x_0.out.below b_g, HI_x_1.out.below b_g, HI_x_2.out.below b_g, HLX.out⟩; clear o_g b_g)
      | (go_at_call 35; clear tok8; refine (eqSL5S_same _ _ _ _ _ F _ hM1 HU.out.g.row HU.out.o.row).mono ?_; rintro e w109 ⟨rfl, b_w109⟩; replace HU := hid (HU.out.below b_w109); clear b_w109)
      | (go_at_call 27; clear tok9; refine (toMA3S_any _ _ _ c _ hb0 (HR0.out.below HU.out.bl)).mono ?_; rintro e w110 ⟨rfl, i_w110, b_w110⟩; replace HU := hid (HU.out.below b_w110); have HJ0 := hid i_w110.1; clear i_w110 b_w110)
      | (go_at_call 30; clear tok10; refine (eqMA3S_same _ _ _ _ _ c _ hb0 HU.out.r0.1 HJ0.out).mono ?_; rintro e w111 ⟨rfl, b_w111⟩; replace HU := hid (HU.out.below b_w111); clear b_w111)
      | (go_at_call 28; clear tok11; refine (toJBS_any _ _ _ jc _ hb1 HJN.out (HR1.out.below HU.out.bl)).mono ?_; rintro e w112 ⟨rfl, ⟨bt_w112, i_w112⟩, b_w112⟩; replace HU := hid (HU.out.below b_w112); have HJ1 := hid i_w112.row; clear i_w112 b_w112)
      | (go_at_call 31; clear tok12; refine (eqJBS_same _ _ _ _ _ jc _ hb1 HJN.out HU.out.r1.row HJ1.out).mono ?_; rintro e w113 ⟨rfl, b_w113⟩; replace HU := hid (HU.out.below b_w113); clear b_w113)
      | (go_at_call 34; clear tok13; refine (toIntS_any _ _ _ z _ hb2 (HR2.out.below HU.out.bl)).mono ?_; rintro e w114 ⟨rfl, i_w114, b_w114⟩; replace HU := hid (HU.out.below b_w114); have HJ2 := hid i_w114.1; clear i_w114 b_w114)
      | (go_at_call 36; clear tok14; refine (eqIntS_same _ _ _ _ _ z _ hb2 HU.out.r2.1 HJ2.out).mono ?_; rintro e w115 ⟨rfl, b_w115⟩; replace HU := hid (HU.out.below b_w115); clear b_w115)
      | (go_at_call 37; clear tok15; obtain ⟨_, cx, hcx, hsx⟩ := HU.out.r0; refine (markMA3S_is _ _ _ _ cx _ hb0 (by omega) (by omega) hcx (by omega)).mono ?_; rintro e w116 ⟨rfl, _, _, kk, b_w116⟩; have HU1 := hid (HU.out.marked kk b_w116); clear hcx hsx kk b_w116)
      | (go_at_call 38; clear tok16; obtain ⟨bt, hO, hbt, _⟩ := HU1.out.r1; refine (markJBS_any _ _ _ jc bt _ _ _ _ hb1 HJN.out (by omega) (by omega) hO (Nat.le_refl _) (.inr ⟨hbt, by have := HU1.out.l; omega⟩)).mono ?_; rintro e w117 ⟨vk1, rfl, hvk1, kk, b_w117⟩; have HU2 := hid (HU1.out.marked kk b_w117); clear hO hbt kk b_w117)
      | (go_at_call 39; clear tok17; obtain ⟨_, cx, hcx, hsx⟩ := HU2.out.r2; refine (markI_is _ _ _ _ cx _ hb2 (by omega) (by omega) hcx (by omega)).mono ?_; rintro e w118 ⟨rfl, _, kk, b_w118⟩; have HU3 := hid (HU2.out.marked kk b_w118); clear hcx hsx kk b_w118; have hkk : ¬ (vk1 + (leni : Int)) < 0 := (by omega))
      | (go_at_call 35; clear tok18; refine (eqSL5S_same _ _ _ _ _ F _ hM1 HU3.out.g.row HU3.out.o.row).mono ?_; rintro e w119 ⟨rfl, b_w119⟩; replace HU3 := hid (HU3.out.below b_w119); clear b_w119)
      | (go_at_call 40; clear tok19; refine (markM _ _ _ _ _ F _ hM1 HU3.out.g).mono ?_; rintro e w120 ⟨rfl, r_w120, kk, b_w120⟩; have HZ := hid (HU3.out.marked r_w120 kk b_w120); clear r_w120 kk b_w120)
      | (go_at_call 41; clear tok20; refine (heldSL5S_is _ _ _ 1 _ hM1 (by omega) (by omega) HZ.out.h).mono ?_; rintro e w121 ⟨rfl, ew⟩; replace ew := ew.symm; subst ew)
      | (go_at_call 27; clear tok21; refine (toMA3S_any _ _ _ c _ hb0 (HR0.out.below HZ.out.bl)).mono ?_; rintro e w122 ⟨rfl, i_w122, b_w122⟩; replace HZ := hid (HZ.out.below b_w122); have HY0 := hid i_w122.1; clear i_w122 b_w122)
      | (go_at_call 28; clear tok22; refine (toJBS_any _ _ _ jc _ hb1 HJN.out (HR1.out.below HZ.out.bl)).mono ?_; rintro e w123 ⟨rfl, ⟨bt_w123, i_w123⟩, b_w123⟩; replace HZ := hid (HZ.out.below b_w123); replace HY0 := hid (HY0.out.below b_w123); have HY1 := hid i_w123.row; clear i_w123 b_w123)
      | (go_at_call 34; clear tok23; refine (toIntS_any _ _ _ z _ hb2 (HR2.out.below HZ.out.bl)).mono ?_; rintro e w124 ⟨rfl, i_w124, b_w124⟩; replace HZ := hid (HZ.out.below b_w124); replace HY0 := hid (HY0.out.below b_w124); replace HY1 := hid (HY1.out.below b_w124); have HY2 := hid i_w124.1; clear i_w124 b_w124)
      | (go_at_call 15; clear tok24; refine (HIM.out _ _ _ _ _ _ _ HY0.out HY1.out HY2.out (Nat.le_refl _)).mono ?_; rintro e w125 ⟨adh, caph, rfl, o_h, b_h⟩; have HE := hid o_h.row; replace HZ := hid (HZ.out.below b_h); clear o_h b_h)
      | (go_at_call 35; clear tok25; refine (eqSL5S_same _ _ _ _ _ F _ hM1 HE.out HZ.out.o.row).mono ?_; rintro e w126 ⟨rfl, b_w126⟩; replace HZ := hid (HZ.out.below b_w126); clear b_w126)
      | (go_at_call 41; clear tok26; refine (heldSL5S_is _ _ _ 1 _ hM1 (by omega) (by omega) HZ.out.h).mono ?_; rintro e w127 ⟨rfl, ew⟩; replace ew := ew.symm; subst ew))
  go_returns
  exact ⟨rfl, HZ.out.bl⟩

set_option maxRecDepth 100000 in
theorem lifted (os : Os) (started : os.Started) (H : Type) (enc : TypeId × Value → H) :
    ReturnsInHanded {} Try.checked os 8 .any (Rows.fnExactLoadSpec.pre6 enc Try.prog Try.f8 Rows.fnExactLoadRow.domain false) (Rows.fnExactLoadSpec.post enc Try.prog Try.f8 false true false false) := by
  refine returnsInHanded_of_change (C := Try.checked) own started (by kernel_rfl) Try.func8
    (ChangeSpec.witness6 (enc := enc) (C := Try.checked) false ⟨#[], #[.slice none 0 0, .slice none 0 0, .slice none 0 0], []⟩ 8 (by kernel_rfl) (by kernel_rfl) (by kernel_rfl) (by kernel_rfl)) ?_
  intro W base args ds gs before hval0 hW hcnd _
  have hval : ∀ (j : Nat) t v, Try.f8.params[j]? = some t → args[j]? = some v → Value.okWide Try.prog W .any base t v := hval0
  have hW' := hW
  obtain ⟨p, q, hA0, hV, rfl, hfz, hnd⟩ := hW
  have hA : DataW.TrodAll enc Try.prog W 0 (fun _ => true) true Try.f8.params.toList args.toList ds p := hA0
  rw [Try.params8] at hA hval
  obtain ⟨v0, vs0, d0, ds0, p0, q0, hargs, rfl, rfl, h0, r0⟩ := trodAll_cons hA
  obtain ⟨v1, vs1, d1, ds1, p1, q1, rfl, rfl, rfl, h1, r1⟩ := trodAll_cons r0
  obtain ⟨v2, vs2, d2, ds2, p2, q2, rfl, rfl, rfl, h2, r2⟩ := trodAll_cons r1
  obtain ⟨rfl, rfl, rfl⟩ := trodAll_nil r2
  obtain rfl : args = #[v0, v1, v2] := by cases args; simp_all
  obtain ⟨rfl, rfl⟩ := trodVars_none hV
  have k0 := h0
  have lt0 : ∀ x ∈ p0, x.block < W.heap.size := by obtain ⟨m, hm⟩ := k0; exact DataW.trod_lt m _ _ _ hm
  have k1 := h1
  have lt1 : ∀ x ∈ p1, x.block < W.heap.size := by obtain ⟨m, hm⟩ := k1; exact DataW.trod_lt m _ _ _ hm
  have k2 := h2
  have lt2 : ∀ x ∈ p2, x.block < W.heap.size := by obtain ⟨m, hm⟩ := k2; exact DataW.trod_lt m _ _ _ hm
  obtain ⟨ad, len, cap, rfl⟩ := okWide_slice Try.underlying51 (hval 0 51 v0 rfl rfl)
  obtain ⟨c, hl, hr⟩ := MA3_of Try.underlying51 Try.underlying61 (by kernel_rfl) ⟨rfl, rfl, rfl⟩ ⟨by kernel_rfl, by kernel_rfl, by kernel_rfl⟩ Try.underlying3 Try.underlying3 Try.underlying3 h0
  obtain ⟨aj, jn, jcap, rfl⟩ := okWide_slice Try.underlying52 (hval 1 52 v1 rfl rfl)
  obtain ⟨jc, hjn, hjc0, hjr⟩ := JB_of Try.underlying52 Try.underlying102 (by kernel_rfl) ⟨rfl, rfl, rfl, rfl⟩ ⟨by kernel_rfl, by kernel_rfl, by kernel_rfl, by kernel_rfl⟩ Try.underlying3 Try.underlying3 Try.underlying3 Try.underlying100 Try.underlying143 (by kernel_rfl) ⟨rfl, rfl, rfl⟩ ⟨by kernel_rfl, by kernel_rfl, by kernel_rfl⟩ Try.underlying3 Try.underlying3 Try.underlying3 h1
  have hjc : ∀ j, (jc j).rn ≤ maxLen := hjc0
  obtain ⟨ai, leni, capi, rfl⟩ := okWide_slice Try.underlying26 (hval 2 26 v2 rfl rfl)
  obtain ⟨z, hli, hri⟩ := ints_of Try.underlying26 Try.underlying3 (by kernel_rfl) h2
  clear hA0 hval0
  refine (walk ad len cap c aj jn jcap jc ai leni capi z W hl hr hjn hjc hjr hli hri).mono fun e W' ⟨he, hg⟩ => ?_
  subst he
  exact ⟨_, rfl, _, _, _, [], _, [], hW', (trodAll_cons_mk (shut_bool Try.underlying4 _) trodAll_mk0), (trodAll_cons_mk (Below.trod laidOut (by kernel_rfl) (of_decide_eq_true (by kernel_rfl)) k0 hg lt0) (trodAll_cons_mk (Below.trod laidOut (by kernel_rfl) (of_decide_eq_true (by kernel_rfl)) k1 hg lt1) (trodAll_cons_mk (Below.trod laidOut (by kernel_rfl) (of_decide_eq_true (by kernel_rfl)) k2 hg lt2) trodAll_mk0))), rfl, hg.frame _, fun h => by cases h⟩

theorem over : Rows.fnExactLoadRow.holds Try.pinned (OpenSpec.ofChange Rows.fnExactLoadSpec) :=
  OpenClaim.holds_of_wide 8 Try.f8 rfl rfl rfl rfl rfl rfl rfl ⟨rfl, rfl, rfl, rfl, rfl⟩ rfl rfl rfl rfl rfl (by kernel_rfl) Try.func8 (by kernel_rfl)
    (of_decide_eq_true (by kernel_rfl)) (by unfold Func.isWrapper; first | (rw [if_pos (by decide +kernel)]; kernel_rfl) | (rw [if_neg (by decide +kernel)]; exact ⟨rfl, rfl⟩))
    (fun os started H enc _ => lifted os started H enc)

end Go.Proofs.Ytogolmbgboihdaa.fnExactLoad

namespace Go.Proofs.Ytogolmbgboihdaa
theorem fnExactLoad_holds : Rows.FnExactLoadSaid := fnExactLoad.over
#print axioms fnExactLoad_holds
end Go.Proofs.Ytogolmbgboihdaa
