/- Output answers as the specification does at every list of items, item, quantity and day; it writes into no argument, keeps nothing of one, and owns what it answers. -/
import Derived.Test.YtmbdeafpfdeigaaRows
import Derived.WalkKit
import Derived.ProofKit
import Derived.OpenShut
import Derived.ShutString
import Derived.ChangeOld
import Derived.Below
import Derived.Handy
import Derived.Carry
import Derived.Lib.SmallJoins
import Derived.Deep.SlicePairs
import Derived.Test.YtmbdeafpfdeigaaJi
import Derived.Test.YtmbdeafpfdeigaaKn
namespace Go.Proofs.Ytmbdeafpfdeigaa.fnExactOutput
open Go.ChangeShapes Go.WideShapes Go.ChangeAt Go.RowKit
set_option linter.unusedVariables false
set_option linter.unusedSimpArgs false

theorem own : ownKnob Try.prog.godebug = none := by kernel_rfl
theorem laidOut : laidOutB Try.prog = true := by kernel_rfl

set_option maxRecDepth 20000 in
set_option maxHeartbeats 4000000 in
theorem walk (ad : Option Addr) (len cap : Nat) (c : Nat → IT) (a1 : Int) (a2 : Int) (a3 : Int) (w : World) (hl : len ≤ maxLen) (hc : ∀ j, (c j).parn ≤ maxLen ∧ (c j).alsn ≤ maxLen ∧ (c j).name.size ≤ maxLen) (hr : ITr w ad len c) :
    Calls Try.prog 11 #[.slice ad len cap, .int .i64 a1, .int .i64 a2, .int .i64 a3] w fun e w' => e = .returned (.bool true) ∧ Below w.heap.size w w' := by
  have HR0 : Hid (ITr w ad len c) := hr
  have hl0 : (len : Int) ≤ 9223372036854775807 := by have := hl; unfold maxLen at this; omega
  have hc2 : Hid (∀ j, ((c j).parn : Int) ≤ 9223372036854775807 ∧ ((c j).alsn : Int) ≤ 9223372036854775807) := fun j => by have := hc j; unfold maxLen at this; omega
  have hc3 : Hid (∀ j, ((c j).name.size : Int) ≤ 9223372036854775807) := fun j => by have := hc j; unfold maxLen at this; omega
  have HC : Hid (∀ j, (c j).name.size ≤ maxLen) := fun j => (hc j).2.2
  clear hc
  clear hr hl
  have tk0 : True := trivial
  go_enter Try.func11, Try.ntmps11
  go_wp2_with (first
      | (go_at_call 36; clear tk0; refine (szITS_any _ _ _ c _ _ (by omega) (by omega) hl0 hc2.out hc3.out HR0.out).mono ?_; rintro e w1 ⟨v0, rfl, hv0, b1⟩; have HS0 : Hid (Below w.heap.size w w1) := hid b1; clear b1; (rcases hv0 with rfl | ⟨hv0, hvv0, hb0, hvp⟩) <;> (try have HIZ : Hid (IZ len c) := hid (fun j hj => ⟨HC.out j, hvp j hj⟩)) <;> (try have HPB : Hid (∀ j, j < len → ((c j).parn : Int) ≤ 1048576 ∧ ((c j).alsn : Int) ≤ 1048576) := hid hvp) <;> (try clear hvp)))
  · go_returns
    exact ⟨rfl, by first | exact Below.refl _ _ | assumption | (exact HS0.out) | (exact HS1.out)⟩
  have hvn0 : ¬ v0 < 0 := by omega
  obtain ⟨M, hM⟩ : ∃ M, rkM ouB len c a1 a2 a3 = M := ⟨_, rfl⟩
  obtain ⟨TV, hTV⟩ : ∃ TV, rkB ouB len c a1 a2 a3 = TV := ⟨_, rfl⟩
  obtain ⟨F, hF⟩ : ∃ F, ouF len c a3 a1.toNat a2 = F := ⟨_, rfl⟩
  have hM1 : (M : Int) ≤ 1048576 := by rw [← hM]; unfold rkM; split <;> omega
  have HSP : Hid (∀ (ax : Option Addr) (kx : Nat) (W : World), ITr W ax len c → Calls Try.prog 44 #[.slice ax len kx, .int .i64 a1, .int .i64 a2, .int .i64 a3] W fun e w' => ∃ ad cap, e = .returned (.tuple #[.slice ad M cap, .bool TV]) ∧ OwnI w' W.heap.size ad M F ∧ Below W.heap.size W w') := fun ax kx W g1 => by
    have := specOutput_any ax len kx c a1 a2 a3 W hb0 HIZ.out g1
    rw [hM, hTV, hF] at this; exact this
  have HIM : Hid (∀ (ax : Option Addr) (kx : Nat) (W : World), ITr W ax len c → Calls Try.prog 45 #[.slice ax len kx, .int .i64 a1, .int .i64 a2, .int .i64 a3] W fun e w' => ∃ ad cap, e = .returned (.tuple #[.slice ad M cap, .bool TV]) ∧ OwnI w' W.heap.size ad M F ∧ Below W.heap.size W w') := fun ax kx W g1 => by
    have := implOutput_any ax len kx c a1 a2 a3 W hb0 HIZ.out g1
    rw [hM, hTV, hF] at this; exact this
  have htv : (TV != TV) = false := by simp
  clear hM hF hTV
  have tok0 : True := trivial
  have tok1 : True := trivial
  have tok2 : True := trivial
  have tok3 : True := trivial
  have tok4 : True := trivial
  have tok5 : True := trivial
  have tok6 : True := trivial
  have tok7 : True := trivial
  have tok8 : True := trivial
  have tok9 : True := trivial
  have tok10 : True := trivial
  have tok11 : True := trivial
  have tok12 : True := trivial
  have tok13 : True := trivial
  have tok14 : True := trivial
  go_wp2_with (first
      | (go_at_call 37; clear tok0; refine (toITA_any _ _ _ c _ hb0 HPB.out (HR0.out.below HS0.out)).mono ?_; rintro e w101 ⟨rfl, i_w101, b_w101⟩; have HI_s_0 : Hid (AIT w101 w1.heap.size len c) := hid i_w101; have HLT_s_0 := hid HI_s_0.out.lt; have HB_w101 : Hid (Below w.heap.size w w101) := hid (bel_on HS0.out b_w101); clear i_w101 b_w101)
      | (go_at_call 44; clear tok1; refine (HSP.out _ _ _ HI_s_0.out.1).mono ?_; rintro e w102 ⟨ado, capo, rfl, o_s, b_s⟩; have HO : Hid (OwnMI w102 w.heap.size w102.heap.size ado M F) := hid ((ownMI_of o_s).lower HB_w101.out.size); have HB_w102 : Hid (Below w.heap.size w w102) := hid (bel_on HB_w101.out b_s); clear o_s b_s)
      | (go_at_call 37; clear tok2; refine (toITA_any _ _ _ c _ hb0 HPB.out (HR0.out.below HB_w102.out)).mono ?_; rintro e w103 ⟨rfl, i_w103, b_w103⟩; have HI_x_0 : Hid (AIT w103 w102.heap.size len c) := hid i_w103; have HLT_x_0 := hid HI_x_0.out.lt; have HB_w103 : Hid (Below w.heap.size w w103) := hid (bel_on HB_w102.out b_w103); replace HO := hid (HO.out.below b_w103); clear i_w103 b_w103)
      | (go_at_call 45; clear tok3; have HLX : Hid (w.heap.size ≤ w102.heap.size ∧ w102.heap.size ≤ w102.heap.size ∧ w102.heap.size < w103.heap.size) := hid ⟨HB_w102.out.size, Nat.le_refl _, HLT_x_0.out⟩; refine (HIM.out _ _ _ HI_x_0.out.1).mono ?_; rintro e w104 ⟨adg, capg, rfl, o_g, b_g⟩; have HU : Hid (KU0 w M F ado adg (w102.heap.size) (w103.heap.size) w104.heap.size (w102.heap.size) len c w104) := hid ⟨bel_on HB_w103.out b_g, HO.out.below b_g, ownMI_of o_g, HI_x_0.out.bd.below b_g, HLX.out⟩; clear o_g b_g)
      | (go_at_call 40; clear tok4; refine (eqIntS_same _ _ _ _ _ F _ hM1 HU.out.g.row HU.out.o.row).mono ?_; rintro e w105 ⟨rfl, b_w105⟩; replace HU := hid (HU.out.below b_w105); clear b_w105)
      | (go_at_call 37; clear tok5; refine (toITA_any _ _ _ c _ hb0 HPB.out (HR0.out.below HU.out.bl)).mono ?_; rintro e w106 ⟨rfl, i_w106, b_w106⟩; replace HU := hid (HU.out.below b_w106); have HJ0 := hid i_w106.1; clear i_w106 b_w106)
      | (go_at_call 39; clear tok6; refine (eqITS_same _ _ _ _ _ c _ hb0 HPB.out HU.out.r0.1 HJ0.out).mono ?_; rintro e w107 ⟨rfl, b_w107⟩; replace HU := hid (HU.out.below b_w107); clear b_w107)
      | (go_at_call 41; clear tok7; obtain ⟨_, bt, bw, hO, hbw⟩ := HU.out.r0; refine (markITS_any _ _ _ c bt bw w102.heap.size w103.heap.size 1 _ hb0 HPB.out (by omega) (by omega) hO (Nat.le_refl _) (.inr ⟨hbw, HU.out.l.2.2⟩)).mono ?_; rintro e w108 ⟨vk, rfl, hvk, kk, b_w108⟩; have hkk : ¬ vk < 0 := (by omega); have HU1 := hid (HU.out.marked kk b_w108); clear hO hbw kk b_w108)
      | (go_at_call 40; clear tok8; refine (eqIntS_same _ _ _ _ _ F _ hM1 HU1.out.g.row HU1.out.o.row).mono ?_; rintro e w109 ⟨rfl, b_w109⟩; replace HU1 := hid (HU1.out.below b_w109); clear b_w109)
      | (go_at_call 42; clear tok9; refine (markMI _ _ _ _ _ F _ hM1 HU1.out.g).mono ?_; rintro e w110 ⟨rfl, r_w110, kk, b_w110⟩; have HZ := hid (HU1.out.marked r_w110 kk b_w110); clear r_w110 kk b_w110)
      | (go_at_call 43; clear tok10; refine (heldI_is _ _ _ 1 _ hM1 (by omega) (by omega) HZ.out.h).mono ?_; rintro e w111 ⟨rfl, ew⟩; replace ew := ew.symm; subst ew)
      | (go_at_call 37; clear tok11; refine (toITA_any _ _ _ c _ hb0 HPB.out (HR0.out.below HZ.out.bl)).mono ?_; rintro e w112 ⟨rfl, i_w112, b_w112⟩; replace HZ := hid (HZ.out.below b_w112); have HY0 := hid i_w112.1; clear i_w112 b_w112)
      | (go_at_call 45; clear tok12; refine (HIM.out _ _ _ HY0.out).mono ?_; rintro e w113 ⟨adh, caph, rfl, o_h, b_h⟩; have HE := hid o_h.row; replace HZ := hid (HZ.out.below b_h); clear o_h b_h)
      | (go_at_call 40; clear tok13; refine (eqIntS_same _ _ _ _ _ F _ hM1 HE.out HZ.out.o.row).mono ?_; rintro e w114 ⟨rfl, b_w114⟩; replace HZ := hid (HZ.out.below b_w114); clear b_w114)
      | (go_at_call 43; clear tok14; refine (heldI_is _ _ _ 1 _ hM1 (by omega) (by omega) HZ.out.h).mono ?_; rintro e w115 ⟨rfl, ew⟩; replace ew := ew.symm; subst ew))
  go_returns
  exact ⟨rfl, HZ.out.bl⟩

set_option maxRecDepth 100000 in
theorem lifted (os : Os) (started : os.Started) (H : Type) (enc : TypeId × Value → H) :
    ReturnsInHanded {} Try.checked os 11 .any (Rows.fnExactOutputSpec.pre6 enc Try.prog Try.f11 Rows.fnExactOutputRow.domain false) (Rows.fnExactOutputSpec.post enc Try.prog Try.f11 false true false false) := by
  refine returnsInHanded_of_change (C := Try.checked) own started (by kernel_rfl) Try.func11
    (ChangeSpec.witness6 (enc := enc) (C := Try.checked) false ⟨#[], #[.slice none 0 0, .int .i64 0, .int .i64 0, .int .i64 0], []⟩ 8 (by kernel_rfl) (by kernel_rfl) (by kernel_rfl) (by kernel_rfl)) ?_
  intro W base args ds gs before hval0 hW hcnd _
  have hval : ∀ (j : Nat) t v, Try.f11.params[j]? = some t → args[j]? = some v → Value.okWide Try.prog W .any base t v := hval0
  have hW' := hW
  obtain ⟨p, q, hA0, hV, rfl, hfz, hnd⟩ := hW
  have hA : DataW.TrodAll enc Try.prog W 0 (fun _ => true) true Try.f11.params.toList args.toList ds p := hA0
  rw [Try.params11] at hA hval
  obtain ⟨v0, vs0, d0, ds0, p0, q0, hargs, rfl, rfl, h0, r0⟩ := trodAll_cons hA
  obtain ⟨v1, vs1, d1, ds1, p1, q1, rfl, rfl, rfl, h1, r1⟩ := trodAll_cons r0
  obtain ⟨v2, vs2, d2, ds2, p2, q2, rfl, rfl, rfl, h2, r2⟩ := trodAll_cons r1
  obtain ⟨v3, vs3, d3, ds3, p3, q3, rfl, rfl, rfl, h3, r3⟩ := trodAll_cons r2
  obtain ⟨rfl, rfl, rfl⟩ := trodAll_nil r3
  obtain rfl : args = #[v0, v1, v2, v3] := by cases args; simp_all
  obtain ⟨rfl, rfl⟩ := trodVars_none hV
  have k0 := h0
  have lt0 : ∀ x ∈ p0, x.block < W.heap.size := by obtain ⟨m, hm⟩ := k0; exact DataW.trod_lt m _ _ _ hm
  have k1 := h1
  have lt1 : ∀ x ∈ p1, x.block < W.heap.size := by obtain ⟨m, hm⟩ := k1; exact DataW.trod_lt m _ _ _ hm
  have k2 := h2
  have lt2 : ∀ x ∈ p2, x.block < W.heap.size := by obtain ⟨m, hm⟩ := k2; exact DataW.trod_lt m _ _ _ hm
  have k3 := h3
  have lt3 : ∀ x ∈ p3, x.block < W.heap.size := by obtain ⟨m, hm⟩ := k3; exact DataW.trod_lt m _ _ _ hm
  obtain ⟨ad, len, cap, rfl⟩ := okWide_slice Try.underlying52 (hval 0 52 v0 rfl rfl)
  obtain ⟨c, hl, hc, hr⟩ := IT_of Try.underlying52 Try.underlying101 (by kernel_rfl) ⟨rfl, rfl, rfl, rfl, rfl⟩ ⟨by kernel_rfl, by kernel_rfl, by kernel_rfl, by kernel_rfl, by kernel_rfl⟩ Try.underlying9 Try.underlying3 Try.underlying4 Try.underlying99 Try.underlying99 Try.underlying141 (by kernel_rfl) ⟨rfl, rfl, rfl, rfl, rfl, rfl⟩ ⟨by kernel_rfl, by kernel_rfl, by kernel_rfl, by kernel_rfl, by kernel_rfl, by kernel_rfl⟩ Try.underlying3 Try.underlying3 Try.underlying3 Try.underlying3 Try.underlying3 Try.underlying3 h0
  obtain ⟨a1, rfl, rfl, rfl, w1⟩ := open_int Try.underlying3 (hval 1 3 v1 rfl rfl) h1
  obtain ⟨a2, rfl, rfl, rfl, w2⟩ := open_int Try.underlying3 (hval 2 3 v2 rfl rfl) h2
  obtain ⟨a3, rfl, rfl, rfl, w3⟩ := open_int Try.underlying3 (hval 3 3 v3 rfl rfl) h3
  clear hA0 hval0
  refine (walk ad len cap c a1 a2 a3 W hl hc hr).mono fun e W' ⟨he, hg⟩ => ?_
  subst he
  exact ⟨_, rfl, _, _, _, [], _, [], hW', (trodAll_cons_mk (shut_bool Try.underlying4 _) trodAll_mk0), (trodAll_cons_mk (Below.trod laidOut (by kernel_rfl) (of_decide_eq_true (by kernel_rfl)) k0 hg lt0) (trodAll_cons_mk (Below.trod laidOut (by kernel_rfl) (of_decide_eq_true (by kernel_rfl)) k1 hg lt1) (trodAll_cons_mk (Below.trod laidOut (by kernel_rfl) (of_decide_eq_true (by kernel_rfl)) k2 hg lt2) (trodAll_cons_mk (Below.trod laidOut (by kernel_rfl) (of_decide_eq_true (by kernel_rfl)) k3 hg lt3) trodAll_mk0)))), rfl, hg.frame _, fun h => by cases h⟩

theorem over : Rows.fnExactOutputRow.holds Try.pinned (OpenSpec.ofChange Rows.fnExactOutputSpec) :=
  OpenClaim.holds_of_wide 11 Try.f11 rfl rfl rfl rfl rfl rfl rfl ⟨rfl, rfl, rfl, rfl, rfl⟩ rfl rfl rfl rfl rfl (by kernel_rfl) Try.func11 (by kernel_rfl)
    (of_decide_eq_true (by kernel_rfl)) (by unfold Func.isWrapper; first | (rw [if_pos (by decide +kernel)]; kernel_rfl) | (rw [if_neg (by decide +kernel)]; exact ⟨rfl, rfl⟩))
    (fun os started H enc _ => lifted os started H enc)

end Go.Proofs.Ytmbdeafpfdeigaa.fnExactOutput

namespace Go.Proofs.Ytmbdeafpfdeigaa
theorem fnExactOutput_holds : Rows.FnExactOutputSaid := fnExactOutput.over
#print axioms fnExactOutput_holds
end Go.Proofs.Ytmbdeafpfdeigaa
