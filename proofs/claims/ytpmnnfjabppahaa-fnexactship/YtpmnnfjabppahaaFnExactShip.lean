/- At every stock and every list of picks, Ship of the program answers as the model does; it leaves both as they were, and its answer owns its memory. -/
import Derived.Test.YtpmnnfjabppahaaRows
import Derived.WalkKit
import Derived.ProofKit
import Derived.OpenShut
import Derived.ShutString
import Derived.ChangeOld
import Derived.Below
import Derived.Handy
import Derived.Carry
import Derived.Lib.SmallJoins
import Derived.Deep.SlicePairs
import Derived.Test.YtpmnnfjabppahaaSf
namespace Go.Proofs.Ytpmnnfjabppahaa.fnExactShip
open Go.ChangeShapes Go.WideShapes Go.ChangeAt Go.RowKit
set_option linter.unusedVariables false
set_option linter.unusedSimpArgs false

theorem own : ownKnob Try.prog.godebug = none := by kernel_rfl
theorem laidOut : laidOutB Try.prog = true := by kernel_rfl

set_option maxRecDepth 20000 in
set_option maxHeartbeats 4000000 in
theorem walk (ad : Option Addr) (len cap : Nat) (c : Nat → CE6) (ar : Option Addr) (nr rcap : Nat) (rc : Nat → PK2) (w : World) (hl : len ≤ maxLen) (hc : CZ c) (hr : CEr w ad len c) (hnr : nr ≤ maxLen) (hrr : PKr w ar nr rc) :
    Calls Try.prog 12 #[.slice ad len cap, .slice ar nr rcap] w fun e w' => e = .returned (.bool true) ∧ Below w.heap.size w w' := by
  have HR0 : Hid (CEr w ad len c) := hr
  have hl0 : (len : Int) ≤ 9223372036854775807 := by have := hl; unfold maxLen at this; omega
  have HR1 : Hid (PKr w ar nr rc) := hrr
  have hl1 : (nr : Int) ≤ 9223372036854775807 := by have := hnr; unfold maxLen at this; omega
  have hc2 : Hid (∀ j, ((c j).item.size : Int) ≤ 9223372036854775807 ∧ ((c j).place.size : Int) ≤ 9223372036854775807 ∧ ((c j).lot.size : Int) ≤ 9223372036854775807) := fun j => by have := hc j; unfold maxLen at this; omega
  have HC : Hid (CZ c) := hc
  clear hc
  clear hr hl hrr hnr
  have tk0 : True := trivial
  have tk1 : True := trivial
  go_enter Try.func12, Try.ntmps12
  go_wp2_with (first
      | (go_at_call 34; clear tk0; refine (szCE6S_any _ _ _ c _ _ (by omega) (by omega) hl0 hc2.out HR0.out).mono ?_; rintro e w1 ⟨v0, rfl, hv0, b1⟩; have HS0 : Hid (Below w.heap.size w w1) := hid b1; clear b1; rcases hv0 with rfl | ⟨hv0, hvv0, hb0, _⟩)
      | (go_at_call 47; clear tk1; refine (szPK2S_any _ _ _ _ _ (by omega) (by omega) hl1).mono ?_; rintro e wz ⟨v1, rfl, hv1, ew⟩; replace ew := ew.symm; subst ew; rcases hv1 with rfl | ⟨hv1, hvv1, hb1⟩))
  · go_returns
    exact ⟨rfl, by first | exact Below.refl _ _ | assumption | (exact HS0.out) | (exact HS1.out)⟩
  · go_returns
    exact ⟨rfl, by first | exact Below.refl _ _ | assumption | (exact HS0.out) | (exact HS1.out)⟩
  have hvn0 : ¬ v0 < 0 := by omega
  have hvn1 : ¬ v1 < 0 := by omega
  obtain ⟨M, hM⟩ : ∃ M, eaM len c = M := ⟨_, rfl⟩
  obtain ⟨F, hF⟩ : ∃ F, eaC true len c nr rc = F := ⟨_, rfl⟩
  obtain ⟨TV, hTV⟩ : ∃ TV, eaV true len c nr rc = TV := ⟨_, rfl⟩
  have hM1 : (M : Int) ≤ 1048576 := by rw [← hM]; unfold eaM; split <;> omega
  have HSP : Hid (∀ (a1 : Option Addr) (k1 : Nat) (a2 : Option Addr) (k2 : Nat) (W : World), (∃ x, a1 = some x) → CEr W a1 len c → PKr W a2 nr rc → Calls Try.prog 27 #[.slice a1 len k1, .slice a2 nr k2] W fun e w' => ∃ ad cap, e = .returned (.tuple #[.slice ad M cap, .int .i64 TV]) ∧ OwnCE6 w' W.heap.size ad M F ∧ Below W.heap.size W w') := fun a1 k1 a2 k2 W hx g1 g2 => by
    obtain ⟨x, rfl⟩ := hx
    have := specShip_any x len k1 c a2 nr k2 rc W hb0 hb1 g1 HC.out g2
    rw [hM, hTV, hF] at this; exact this
  have HIM : Hid (∀ (a1 : Option Addr) (k1 : Nat) (a2 : Option Addr) (k2 : Nat) (W : World), (∃ x, a1 = some x) → CEr W a1 len c → PKr W a2 nr rc → Calls Try.prog 24 #[.slice a1 len k1, .slice a2 nr k2] W fun e w' => ∃ ad cap, e = .returned (.tuple #[.slice ad M cap, .int .i64 TV]) ∧ OwnCE6 w' W.heap.size ad M F ∧ Below W.heap.size W w') := fun a1 k1 a2 k2 W hx g1 g2 => by
    obtain ⟨x, rfl⟩ := hx
    have := implShip_any x len k1 c a2 nr k2 rc W hb0 hb1 g1 HC.out g2
    rw [hM, hTV, hF] at this; exact this
  have htv : (TV != TV) = false := by simp
  clear hM hF hTV
  have tok0 : True := trivial
  have tok1 : True := trivial
  have tok2 : True := trivial
  have tok3 : True := trivial
  have tok4 : True := trivial
  have tok5 : True := trivial
  have tok6 : True := trivial
  have tok7 : True := trivial
  have tok8 : True := trivial
  have tok9 : True := trivial
  have tok10 : True := trivial
  have tok11 : True := trivial
  have tok12 : True := trivial
  have tok13 : True := trivial
  have tok14 : True := trivial
  have tok15 : True := trivial
  have tok16 : True := trivial
  have tok17 : True := trivial
  have tok18 : True := trivial
  have tok19 : True := trivial
  have tok20 : True := trivial
  have hkk : ¬ (1 + 6 * (len : Int) + 2 * (nr : Int)) < 0 := by omega
  go_wp2_with (first
      | (go_at_call 36; clear tok0; refine (toCE6S_any _ _ _ c _ hb0 (HR0.out.below HS0.out)).mono ?_; rintro e w101 ⟨rfl, i_w101, b_w101⟩; have HI_s_0 : Hid (ACE6 w101 w1.heap.size len c) := hid i_w101; have HLT_s_0 := hid HI_s_0.out.lt; have HB_w101 : Hid (Below w.heap.size w w101) := hid (bel_on HS0.out b_w101); clear i_w101 b_w101)
      | (go_at_call 49; clear tok1; refine (toPK2S_any _ _ _ rc _ hb1 (HR1.out.below HB_w101.out)).mono ?_; rintro e w102 ⟨rfl, i_w102, b_w102⟩; have HI_s_1 : Hid (APK2 w102 w101.heap.size nr rc) := hid i_w102; have HLT_s_1 := hid HI_s_1.out.lt; have HB_w102 : Hid (Below w.heap.size w w102) := hid (bel_on HB_w101.out b_w102); replace HI_s_0 := hid (HI_s_0.out.below b_w102); clear i_w102 b_w102)
      | (go_at_call 27; clear tok2; refine (HSP.out _ _ _ _ _ ⟨_, rfl⟩ HI_s_0.out.1 HI_s_1.out.1).mono ?_; rintro e w103 ⟨ado, capo, rfl, o_s, b_s⟩; have HO : Hid (OwnM w103 w.heap.size w103.heap.size ado M F) := hid ((ownM_of o_s).lower HB_w102.out.size); have HB_w103 : Hid (Below w.heap.size w w103) := hid (bel_on HB_w102.out b_s); clear o_s b_s)
      | (go_at_call 36; clear tok3; refine (toCE6S_any _ _ _ c _ hb0 (HR0.out.below HB_w103.out)).mono ?_; rintro e w104 ⟨rfl, i_w104, b_w104⟩; have HI_x_0 : Hid (ACE6 w104 w103.heap.size len c) := hid i_w104; have HLT_x_0 := hid HI_x_0.out.lt; have HB_w104 : Hid (Below w.heap.size w w104) := hid (bel_on HB_w103.out b_w104); replace HO := hid (HO.out.below b_w104); clear i_w104 b_w104)
      | (go_at_call 49; clear tok4; refine (toPK2S_any _ _ _ rc _ hb1 (HR1.out.below HB_w104.out)).mono ?_; rintro e w105 ⟨rfl, i_w105, b_w105⟩; have HI_x_1 : Hid (APK2 w105 w104.heap.size nr rc) := hid i_w105; have HLT_x_1 := hid HI_x_1.out.lt; have HB_w105 : Hid (Below w.heap.size w w105) := hid (bel_on HB_w104.out b_w105); replace HI_x_0 := hid (HI_x_0.out.below b_w105); replace HO := hid (HO.out.below b_w105); clear i_w105 b_w105)
      | (go_at_call 24; clear tok5; have HLX : Hid (w.heap.size ≤ w103.heap.size ∧ w103.heap.size ≤ w103.heap.size ∧ w103.heap.size < w104.heap.size ∧ w104.heap.size < w105.heap.size) := hid ⟨HB_w103.out.size, Nat.le_refl _, HLT_x_0.out, HLT_x_1.out⟩; refine (HIM.out _ _ _ _ _ ⟨_, rfl⟩ HI_x_0.out.1 HI_x_1.out.1).mono ?_; rintro e w106 ⟨adg, capg, rfl, o_g, b_g⟩; have HU : Hid (KS0 w M F ado adg (w103.heap.size) (w105.heap.size) w106.heap.size (w103.heap.size) len c (w104.heap.size) nr rc w106) := hid ⟨bel_on HB_w105.out b_g, HO.out.below b_g, ownM_of o_g, HI_x_0.out.below b_g, HI_x_1.out.below b_g, HLX.out⟩; clear o_g b_g)
      | (go_at_call 37; clear tok6; refine (eqCE6S_same _ _ _ _ _ F _ hM1 HU.out.g.row HU.out.o.row).mono ?_; rintro e w107 ⟨rfl, b_w107⟩; replace HU := hid (HU.out.below b_w107); clear b_w107)
      | (go_at_call 36; clear tok7; refine (toCE6S_any _ _ _ c _ hb0 (HR0.out.below HU.out.bl)).mono ?_; rintro e w108 ⟨rfl, i_w108, b_w108⟩; replace HU := hid (HU.out.below b_w108); have HJ0 := hid i_w108.1; clear i_w108 b_w108)
      | (go_at_call 37; clear tok8; refine (eqCE6S_same _ _ _ _ _ c _ hb0 HU.out.r0.1 HJ0.out).mono ?_; rintro e w109 ⟨rfl, b_w109⟩; replace HU := hid (HU.out.below b_w109); clear b_w109)
      | (go_at_call 49; clear tok9; refine (toPK2S_any _ _ _ rc _ hb1 (HR1.out.below HU.out.bl)).mono ?_; rintro e w110 ⟨rfl, i_w110, b_w110⟩; replace HU := hid (HU.out.below b_w110); have HJ1 := hid i_w110.1; clear i_w110 b_w110)
      | (go_at_call 44; clear tok10; refine (eqPK2S_same _ _ _ _ _ rc _ hb1 HU.out.r1.1 HJ1.out).mono ?_; rintro e w111 ⟨rfl, b_w111⟩; replace HU := hid (HU.out.below b_w111); clear b_w111)
      | (go_at_call 38; clear tok11; obtain ⟨_, cx, hcx, hsx⟩ := HU.out.r0; refine (markCE6S_is _ _ _ _ cx _ hb0 (by omega) (by omega) hcx (by omega)).mono ?_; rintro e w112 ⟨rfl, _, _, kk, b_w112⟩; have HU1 := hid (HU.out.marked kk b_w112); clear hcx hsx kk b_w112)
      | (go_at_call 45; clear tok12; obtain ⟨_, cx, hcx, hsx⟩ := HU1.out.r1; refine (markPK2S_is _ _ _ _ cx _ hb1 (by omega) (by omega) hcx (by omega)).mono ?_; rintro e w113 ⟨rfl, _, _, kk, b_w113⟩; have HU2 := hid (HU1.out.marked kk b_w113); clear hcx hsx kk b_w113)
      | (go_at_call 37; clear tok13; refine (eqCE6S_same _ _ _ _ _ F _ hM1 HU2.out.g.row HU2.out.o.row).mono ?_; rintro e w114 ⟨rfl, b_w114⟩; replace HU2 := hid (HU2.out.below b_w114); clear b_w114)
      | (go_at_call 38; clear tok14; refine (markM _ _ _ _ _ F _ hM1 HU2.out.g).mono ?_; rintro e w115 ⟨rfl, r_w115, kk, b_w115⟩; have HZ := hid (HU2.out.marked r_w115 kk b_w115); clear r_w115 kk b_w115)
      | (go_at_call 39; clear tok15; refine (heldCE6S_is _ _ _ 1 _ hM1 (by omega) (by omega) HZ.out.h).mono ?_; rintro e w116 ⟨rfl, b_w116⟩; replace HZ := hid (HZ.out.below b_w116); clear b_w116)
      | (go_at_call 36; clear tok16; refine (toCE6S_any _ _ _ c _ hb0 (HR0.out.below HZ.out.bl)).mono ?_; rintro e w117 ⟨rfl, i_w117, b_w117⟩; replace HZ := hid (HZ.out.below b_w117); have HY0 := hid i_w117.1; clear i_w117 b_w117)
      | (go_at_call 49; clear tok17; refine (toPK2S_any _ _ _ rc _ hb1 (HR1.out.below HZ.out.bl)).mono ?_; rintro e w118 ⟨rfl, i_w118, b_w118⟩; replace HZ := hid (HZ.out.below b_w118); replace HY0 := hid (HY0.out.below b_w118); have HY1 := hid i_w118.1; clear i_w118 b_w118)
      | (go_at_call 24; clear tok18; refine (HIM.out _ _ _ _ _ ⟨_, rfl⟩ HY0.out HY1.out).mono ?_; rintro e w119 ⟨adh, caph, rfl, o_h, b_h⟩; have HE := hid o_h.row; replace HZ := hid (HZ.out.below b_h); clear o_h b_h)
      | (go_at_call 37; clear tok19; refine (eqCE6S_same _ _ _ _ _ F _ hM1 HE.out HZ.out.o.row).mono ?_; rintro e w120 ⟨rfl, b_w120⟩; replace HZ := hid (HZ.out.below b_w120); clear b_w120)
      | (go_at_call 39; clear tok20; refine (heldCE6S_is _ _ _ 1 _ hM1 (by omega) (by omega) HZ.out.h).mono ?_; rintro e w121 ⟨rfl, b_w121⟩; replace HZ := hid (HZ.out.below b_w121); clear b_w121))
  go_returns
  exact ⟨rfl, HZ.out.bl⟩

set_option maxRecDepth 100000 in
theorem lifted (os : Os) (started : os.Started) (H : Type) (enc : TypeId × Value → H) :
    ReturnsInHanded {} Try.checked os 12 .any (Rows.fnExactShipSpec.pre6 enc Try.prog Try.f12 Rows.fnExactShipRow.domain false) (Rows.fnExactShipSpec.post enc Try.prog Try.f12 false true false false) := by
  refine returnsInHanded_of_change (C := Try.checked) own started (by kernel_rfl) Try.func12
    (ChangeSpec.witness6 (enc := enc) (C := Try.checked) false ⟨#[], #[.slice none 0 0, .slice none 0 0], []⟩ 8 (by kernel_rfl) (by kernel_rfl) (by kernel_rfl) (by kernel_rfl)) ?_
  intro W base args ds gs before hval0 hW hcnd _
  have hval : ∀ (j : Nat) t v, Try.f12.params[j]? = some t → args[j]? = some v → Value.okWide Try.prog W .any base t v := hval0
  have hW' := hW
  obtain ⟨p, q, hA0, hV, rfl, hfz, hnd⟩ := hW
  have hA : DataW.TrodAll enc Try.prog W 0 (fun _ => true) true Try.f12.params.toList args.toList ds p := hA0
  rw [Try.params12] at hA hval
  obtain ⟨v0, vs0, d0, ds0, p0, q0, hargs, rfl, rfl, h0, r0⟩ := trodAll_cons hA
  obtain ⟨v1, vs1, d1, ds1, p1, q1, rfl, rfl, rfl, h1, r1⟩ := trodAll_cons r0
  obtain ⟨rfl, rfl, rfl⟩ := trodAll_nil r1
  obtain rfl : args = #[v0, v1] := by cases args; simp_all
  obtain ⟨rfl, rfl⟩ := trodVars_none hV
  have k0 := h0
  have lt0 : ∀ x ∈ p0, x.block < W.heap.size := by obtain ⟨m, hm⟩ := k0; exact DataW.trod_lt m _ _ _ hm
  have k1 := h1
  have lt1 : ∀ x ∈ p1, x.block < W.heap.size := by obtain ⟨m, hm⟩ := k1; exact DataW.trod_lt m _ _ _ hm
  obtain ⟨ad, len, cap, rfl⟩ := okWide_slice Try.underlying56 (hval 0 56 v0 rfl rfl)
  obtain ⟨c, hl, hc0, hc1, hc2, hr⟩ := CE6_of Try.underlying56 Try.underlying63 (by kernel_rfl) ⟨rfl, rfl, rfl, rfl, rfl, rfl⟩ ⟨by kernel_rfl, by kernel_rfl, by kernel_rfl, by kernel_rfl, by kernel_rfl, by kernel_rfl⟩ Try.underlying9 Try.underlying9 Try.underlying9 Try.underlying3 Try.underlying3 Try.underlying3 h0
  have hc : CZ c := fun j => ⟨hc0 j, hc1 j, hc2 j⟩
  obtain ⟨ar, nr, rcap, rfl⟩ := okWide_slice Try.underlying71 (hval 1 71 v1 rfl rfl)
  obtain ⟨rc, hnr, hrr⟩ := PK2_of Try.underlying71 Try.underlying132 (by kernel_rfl) ⟨rfl, rfl⟩ ⟨by kernel_rfl, by kernel_rfl⟩ Try.underlying3 Try.underlying3 h1
  clear hA0 hval0
  refine (walk ad len cap c ar nr rcap rc W hl hc hr hnr hrr).mono fun e W' ⟨he, hg⟩ => ?_
  subst he
  exact ⟨_, rfl, _, _, _, [], _, [], hW', (trodAll_cons_mk (shut_bool Try.underlying4 _) trodAll_mk0), (trodAll_cons_mk (Below.trod laidOut (by kernel_rfl) (of_decide_eq_true (by kernel_rfl)) k0 hg lt0) (trodAll_cons_mk (Below.trod laidOut (by kernel_rfl) (of_decide_eq_true (by kernel_rfl)) k1 hg lt1) trodAll_mk0)), rfl, hg.frame _, fun h => by cases h⟩

theorem over : Rows.fnExactShipRow.holds Try.pinned (OpenSpec.ofChange Rows.fnExactShipSpec) :=
  OpenClaim.holds_of_wide 12 Try.f12 rfl rfl rfl rfl rfl rfl rfl ⟨rfl, rfl, rfl, rfl, rfl⟩ rfl rfl rfl rfl rfl (by kernel_rfl) Try.func12 (by kernel_rfl)
    (of_decide_eq_true (by kernel_rfl)) (by unfold Func.isWrapper; first | (rw [if_pos (by decide +kernel)]; kernel_rfl) | (rw [if_neg (by decide +kernel)]; exact ⟨rfl, rfl⟩))
    (fun os started H enc _ => lifted os started H enc)

end Go.Proofs.Ytpmnnfjabppahaa.fnExactShip

namespace Go.Proofs.Ytpmnnfjabppahaa
theorem fnExactShip_holds : Rows.FnExactShipSaid := fnExactShip.over
#print axioms fnExactShip_holds
end Go.Proofs.Ytpmnnfjabppahaa
