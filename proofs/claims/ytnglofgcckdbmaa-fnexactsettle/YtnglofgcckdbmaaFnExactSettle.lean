/- At every two lists of open items the law FnExactSettle answers true: impl.Settle tells the pairs that spec.Settle tells, writes into neither list, and its answer owns its memory. No condition. -/
import Derived.Test.YtnglofgcckdbmaaRows
import Derived.WalkKit
import Derived.ProofKit
import Derived.OpenShut
import Derived.ShutString
import Derived.ChangeOld
import Derived.Below
import Derived.Handy
import Derived.Carry
import Derived.Lib.SmallJoins
import Derived.Deep.SlicePairs
import Derived.Test.YtnglofgcckdbmaaUg
namespace Go.Proofs.Ytnglofgcckdbmaa.fnExactSettle
open Go.ChangeShapes Go.WideShapes Go.ChangeAt Go.RowKit
set_option linter.unusedVariables false
set_option linter.unusedSimpArgs false

theorem own : ownKnob Try.prog.godebug = none := by kernel_rfl
theorem laidOut : laidOutB Try.prog = true := by kernel_rfl

set_option maxRecDepth 20000 in
set_option maxHeartbeats 4000000 in
theorem walk (ad : Option Addr) (len cap : Nat) (c : Nat → OI2) (ar : Option Addr) (nr rcap : Nat) (rc : Nat → OI2) (w : World) (hl : len ≤ maxLen) (hr : OIr w ad len c) (hnr : nr ≤ maxLen) (hrr : OIr w ar nr rc) :
    Calls Try.prog 8 #[.slice ad len cap, .slice ar nr rcap] w fun e w' => e = .returned (.bool true) ∧ Below w.heap.size w w' := by
  have HR1 : Hid (OIr w ad len c) := hr
  have HR2 : Hid (OIr w ar nr rc) := hrr
  have hl2 : (len : Int) ≤ 9223372036854775807 := by unfold maxLen at hl; omega
  have hn2 : (nr : Int) ≤ 9223372036854775807 := by unfold maxLen at hnr; omega
  clear hr hrr hl hnr
  have tok0 : True := trivial
  go_enter Try.func8, Try.ntmps8
  go_wp2_with (first
    | (go_at_call 37; clear tok0; refine (szOI2S_any _ _ _ _ _ (by omega) (by omega) hl2).mono ?_; rintro e w1 ⟨v, rfl, hv, ew⟩; replace ew := ew.symm; subst ew; rcases hv with rfl | ⟨hv, hv1, hlb⟩)
    | (go_at_call 37; refine (szOI2S_any _ _ _ _ _ hv hv1 hn2).mono ?_; rintro e w1 ⟨u, rfl, hu, ew⟩; replace ew := ew.symm; subst ew; rcases hu with rfl | ⟨hu, hu1, hnb⟩))
  · go_returns
    exact ⟨rfl, Below.refl _ _⟩
  · go_returns
    exact ⟨rfl, Below.refl _ _⟩
  obtain ⟨M, hM⟩ : ∃ M, seM c rc len nr = M := ⟨_, rfl⟩
  obtain ⟨F, hF⟩ : ∃ F, paF c rc len nr = F := ⟨_, rfl⟩
  have hM1 : (M : Int) ≤ 1048576 := by
    rw [← hM]
    by_cases ho : opB len c = true ∧ opB nr rc = true
    · by_cases hx : ∃ M, isM c rc len nr M
      · obtain ⟨M', hM'⟩ := hx
        rw [seM_is c rc len nr ho hM']
        have := runs_le c rc len nr hM'.1
        have := (opB_amt ho.1).1
        have := (opB_amt ho.2).1
        omega
      · unfold seM; rw [if_pos ho, dif_neg hx]; omega
    · rw [seM_no c rc len nr ho]; omega
  have HSP : Hid (∀ (a1 : Option Addr) (k1 : Nat) (a2 : Option Addr) (k2 : Nat) (W : World), OIr W a1 len c → OIr W a2 nr rc → Calls Try.prog 35 #[.slice a1 len k1, .slice a2 nr k2] W fun e w' => ∃ ad cap, e = .returned (.slice ad M cap) ∧ OwnPA3 w' W.heap.size ad M F ∧ Below W.heap.size W w') := fun a1 k1 a2 k2 W g1 g2 => by
    have := specSettle_any a1 a2 len nr k1 k2 c rc W hlb hnb g1 g2
    unfold SeR at this; rw [hM, hF] at this; exact this
  have HIM : Hid (∀ (a1 : Option Addr) (k1 : Nat) (a2 : Option Addr) (k2 : Nat) (W : World), OIr W a1 len c → OIr W a2 nr rc → Calls Try.prog 33 #[.slice a1 len k1, .slice a2 nr k2] W fun e w' => ∃ ad cap, e = .returned (.slice ad M cap) ∧ OwnPA3 w' W.heap.size ad M F ∧ Below W.heap.size W w') := fun a1 k1 a2 k2 W g1 g2 => by
    have := implSettle_any a1 a2 len nr k1 k2 c rc W hlb hnb g1 g2
    unfold SeR at this; rw [hM, hF] at this; exact this
  clear hM hF
  have hv3 : ¬ v < 0 := by omega
  have hu3 : ¬ u < 0 := by omega
  have tok1 : True := trivial
  have tok2 : True := trivial
  have tok3 : True := trivial
  have tok4 : True := trivial
  have tok5 : True := trivial
  have tok6 : True := trivial
  have tok7 : True := trivial
  have tok8 : True := trivial
  have tok9 : True := trivial
  have tokA : True := trivial
  have tokB : True := trivial
  have tokC : True := trivial
  have tokD : True := trivial
  have tokE : True := trivial
  have tokF : True := trivial
  have tokG : True := trivial
  have hkk : ¬ (1 + 2 * (len : Int) + 2 * (nr : Int)) < 0 := by omega
  go_wp2_with (first
    | (go_at_call 38; clear tok1; refine (toOI2S_any _ _ _ c _ hlb HR1.out).mono ?_; rintro e w2 ⟨rfl, o2, b2⟩; have HX2 := hid o2.1; have HB2 : Hid (Below w.heap.size w w2) := b2; clear o2 b2)
    | (go_at_call 38; clear tok2; refine (toOI2S_any _ _ _ rc _ hnb (HR2.out.below HB2.out)).mono ?_; rintro e w3 ⟨rfl, o3, b3⟩; have HY3 := hid o3.1; have HX3 := hid (HX2.out.below b3); have HB3 := hid (bel_on HB2.out b3); clear o3 b3)
    | (go_at_call 35; refine (HSP.out _ _ _ _ _ HX3.out HY3.out).mono ?_; rintro e w4 ⟨ado, capo, rfl, o4, b4⟩; have HO4 : Hid (OwnM w4 w.heap.size w4.heap.size ado M F) := hid ((ownM_of o4).lower HB3.out.size); have HB4 := hid (bel_on HB3.out b4); clear o4 b4)
    | (go_at_call 38; clear tok3; refine (toOI2S_any _ _ _ c _ hlb (HR1.out.below HB4.out)).mono ?_; rintro e w5 ⟨rfl, o5, b5⟩; have HX5 : Hid (AOI2 w5 w4.heap.size len c) := hid o5; have HO5 := hid (HO4.out.below b5); have HB5 := hid (bel_on HB4.out b5); clear o5 b5)
    | (go_at_call 38; clear tok4; refine (toOI2S_any _ _ _ rc _ hnb (HR2.out.below HB5.out)).mono ?_; rintro e w6 ⟨rfl, o6, b6⟩; have HY6 : Hid (AOI2 w6 w5.heap.size nr rc) := hid o6; have HX6 := hid (HX5.out.below b6); have HO6 := hid (HO5.out.below b6); have HB6 := hid (bel_on HB5.out b6); clear o6 b6)
    | (go_at_call 33; clear tok5; refine (HIM.out _ _ _ _ _ HX6.out.1 HY6.out.1).mono ?_; rintro e w7 ⟨adg, capg, rfl, o7, b7⟩; have HU7 : Hid (LeU w M F ado adg w4.heap.size w6.heap.size w7.heap.size w4.heap.size len c w5.heap.size nr rc w7) := hid ⟨bel_on HB6.out b7, HO6.out.below b7, HX6.out.below b7, HY6.out.below b7, ownM_of o7, HB4.out.size, Nat.le_refl _, HX5.out.lt, HY6.out.lt⟩; clear o7 b7)
    | (go_at_call 28; clear tok6; refine (eqPA3S_same _ _ _ _ _ F _ hM1 HU7.out.g.row HU7.out.o.row).mono ?_; rintro e w8 ⟨rfl, b8⟩; have HU8 := hid (HU7.out.below b8); clear b8)
    | (go_at_call 38; clear tok7; refine (toOI2S_any _ _ _ c _ hlb (HR1.out.below HU8.out.bl)).mono ?_; rintro e w9 ⟨rfl, o9, b9⟩; have HU9 := hid (HU8.out.below b9); have HI9 := hid o9.1; clear o9 b9)
    | (go_at_call 39; clear tok8; refine (eqOI2S_same _ _ _ _ _ c _ hlb HU9.out.x.1 HI9.out).mono ?_; rintro e w10 ⟨rfl, b10⟩; have HU10 := hid (HU9.out.below b10); clear b10)
    | (go_at_call 38; clear tok9; refine (toOI2S_any _ _ _ rc _ hnb (HR2.out.below HU10.out.bl)).mono ?_; rintro e w11 ⟨rfl, o11, b11⟩; have HU11 := hid (HU10.out.below b11); have HI11 := hid o11.1; clear o11 b11)
    | (go_at_call 39; clear tokA; refine (eqOI2S_same _ _ _ _ _ rc _ hnb HU11.out.y.1 HI11.out).mono ?_; rintro e w12 ⟨rfl, b12⟩; have HU12 := hid (HU11.out.below b12); clear b12)
    | (go_at_call 40; clear tokB; obtain ⟨_, cx, hcx, hsx⟩ := HU12.out.x; refine (markOI2S_is w4.heap.size len _ 1 cx w12 hlb (by omega) (by omega) hcx (by omega)).mono ?_; rintro e w13 ⟨rfl, _, _, kk, b13⟩; have HV13 := hid (HU12.out.marked kk b13); clear hcx hsx kk b13)
    | (go_at_call 40; clear tokC; obtain ⟨_, cy, hcy, hsy⟩ := HV13.out.y; refine (markOI2S_is w5.heap.size nr _ _ cy w13 hnb (by omega) (by omega) hcy (by omega)).mono ?_; rintro e w14 ⟨rfl, _, _, kk, b14⟩; have HW14 := hid (HV13.out.marked kk b14); clear hcy hsy kk b14)
    | (go_at_call 28; clear tokD; refine (eqPA3S_same _ _ _ _ _ F _ hM1 HW14.out.g.row HW14.out.o.row).mono ?_; rintro e w15 ⟨rfl, b15⟩; have HW15 := hid (HW14.out.below b15); clear b15)
    | (go_at_call 31; refine (markM _ _ _ _ _ F _ hM1 HW15.out.g).mono ?_; rintro e w16 ⟨rfl, r16, kk, b16⟩; have HZ16 := hid (HW15.out.marked r16 kk b16); clear r16 kk b16)
    | (go_at_call 32; clear tokE; refine (heldPA3S_is _ _ _ 1 _ hM1 (by omega) (by omega) HZ16.out.h).mono ?_; rintro e wh ⟨rfl, ew⟩; replace ew := ew.symm; subst ew)
    | (go_at_call 38; clear tokF; refine (toOI2S_any _ _ _ c _ hlb (HR1.out.below HZ16.out.bl)).mono ?_; rintro e w17 ⟨rfl, o17, b17⟩; have HZ17 := hid (HZ16.out.below b17); have HX17 := hid o17.1; clear o17 b17)
    | (go_at_call 38; clear tokG; refine (toOI2S_any _ _ _ rc _ hnb (HR2.out.below HZ17.out.bl)).mono ?_; rintro e w18 ⟨rfl, o18, b18⟩; have HZ18 := hid (HZ17.out.below b18); have HX18 := hid (HX17.out.below b18); have HY18 := hid o18.1; clear o18 b18)
    | (go_at_call 33; refine (HIM.out _ _ _ _ _ HX18.out HY18.out).mono ?_; rintro e w19 ⟨adh, caph, rfl, o19, b19⟩; have HE19 := hid o19.row; have HZ19 := hid (HZ18.out.below b19); clear o19 b19)
    | (go_at_call 28; refine (eqPA3S_same _ _ _ _ _ F _ hM1 HE19.out HZ19.out.o.row).mono ?_; rintro e w20 ⟨rfl, b20⟩; have HZ20 := hid (HZ19.out.below b20); clear b20)
    | (go_at_call 32; refine (heldPA3S_is _ _ _ 1 _ hM1 (by omega) (by omega) HZ20.out.h).mono ?_; rintro e wh ⟨rfl, ew⟩; replace ew := ew.symm; subst ew))
  go_returns
  exact ⟨rfl, HZ20.out.bl⟩

set_option maxRecDepth 100000 in
theorem lifted (os : Os) (started : os.Started) (H : Type) (enc : TypeId × Value → H) :
    ReturnsInHanded {} Try.checked os 8 .any (Rows.fnExactSettleSpec.pre6 enc Try.prog Try.f8 Rows.fnExactSettleRow.domain false) (Rows.fnExactSettleSpec.post enc Try.prog Try.f8 false true false false) := by
  refine returnsInHanded_of_change (C := Try.checked) own started (by kernel_rfl) Try.func8
    (ChangeSpec.witness6 (enc := enc) (C := Try.checked) false ⟨#[], #[.slice none 0 0, .slice none 0 0], []⟩ 8 (by kernel_rfl) (by kernel_rfl) (by kernel_rfl) (by kernel_rfl)) ?_
  intro W base args ds gs before hval0 hW hcnd _
  have hval : ∀ (j : Nat) t v, Try.f8.params[j]? = some t → args[j]? = some v → Value.okWide Try.prog W .any base t v := hval0
  have hW' := hW
  obtain ⟨p, q, hA0, hV, rfl, hfz, hnd⟩ := hW
  have hA : DataW.TrodAll enc Try.prog W 0 (fun _ => true) true Try.f8.params.toList args.toList ds p := hA0
  rw [Try.params8] at hA hval
  obtain ⟨v0, vs0, d0, ds0, p0, q0, hargs, rfl, rfl, h0, r0⟩ := trodAll_cons hA
  obtain ⟨v1, vs1, d1, ds1, p1, q1, rfl, rfl, rfl, h1, r1⟩ := trodAll_cons r0
  obtain ⟨rfl, rfl, rfl⟩ := trodAll_nil r1
  obtain rfl : args = #[v0, v1] := by cases args; simp_all
  obtain ⟨rfl, rfl⟩ := trodVars_none hV
  have k0 := h0
  have lt0 : ∀ x ∈ p0, x.block < W.heap.size := by obtain ⟨m, hm⟩ := k0; exact DataW.trod_lt m _ _ _ hm
  have k1 := h1
  have lt1 : ∀ x ∈ p1, x.block < W.heap.size := by obtain ⟨m, hm⟩ := k1; exact DataW.trod_lt m _ _ _ hm
  obtain ⟨ad, len, cap, rfl⟩ := okWide_slice Try.underlying65 (hval 0 65 v0 rfl rfl)
  obtain ⟨c, hl, hr⟩ := OI2_of Try.underlying65 Try.underlying118 (by kernel_rfl) ⟨rfl, rfl⟩ ⟨by kernel_rfl, by kernel_rfl⟩ Try.underlying3 Try.underlying3 h0
  obtain ⟨ar, nr, rcap, rfl⟩ := okWide_slice Try.underlying65 (hval 1 65 v1 rfl rfl)
  obtain ⟨rc, hnr, hrr⟩ := OI2_of Try.underlying65 Try.underlying118 (by kernel_rfl) ⟨rfl, rfl⟩ ⟨by kernel_rfl, by kernel_rfl⟩ Try.underlying3 Try.underlying3 h1
  clear hA0 hval0
  refine (walk ad len cap c ar nr rcap rc W hl hr hnr hrr).mono fun e W' ⟨he, hg⟩ => ?_
  subst he
  exact ⟨_, rfl, _, _, _, [], _, [], hW', (trodAll_cons_mk (shut_bool Try.underlying4 _) trodAll_mk0), (trodAll_cons_mk (Below.trod laidOut (by kernel_rfl) (of_decide_eq_true (by kernel_rfl)) k0 hg lt0) (trodAll_cons_mk (Below.trod laidOut (by kernel_rfl) (of_decide_eq_true (by kernel_rfl)) k1 hg lt1) trodAll_mk0)), rfl, hg.frame _, fun h => by cases h⟩

theorem over : Rows.fnExactSettleRow.holds Try.pinned (OpenSpec.ofChange Rows.fnExactSettleSpec) :=
  OpenClaim.holds_of_wide 8 Try.f8 rfl rfl rfl rfl rfl rfl rfl ⟨rfl, rfl, rfl, rfl, rfl⟩ rfl rfl rfl rfl rfl (by kernel_rfl) Try.func8 (by kernel_rfl)
    (of_decide_eq_true (by kernel_rfl)) (by unfold Func.isWrapper; first | (rw [if_pos (by decide +kernel)]; kernel_rfl) | (rw [if_neg (by decide +kernel)]; exact ⟨rfl, rfl⟩))
    (fun os started H enc _ => lifted os started H enc)

end Go.Proofs.Ytnglofgcckdbmaa.fnExactSettle

namespace Go.Proofs.Ytnglofgcckdbmaa
theorem fnExactSettle_holds : Rows.FnExactSettleSaid := fnExactSettle.over
#print axioms fnExactSettle_holds
end Go.Proofs.Ytnglofgcckdbmaa
