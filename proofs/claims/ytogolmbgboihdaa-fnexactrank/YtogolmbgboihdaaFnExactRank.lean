/- At every list of jobs and every rule the program's Rank answers as the model's, in memory of its own, and leaves the jobs as they were; no condition beyond what the statement says. -/
import Derived.Test.YtogolmbgboihdaaRows
import Derived.WalkKit
import Derived.ProofKit
import Derived.OpenShut
import Derived.ShutString
import Derived.ChangeOld
import Derived.Below
import Derived.Handy
import Derived.Carry
import Derived.Lib.SmallJoins
import Derived.Deep.SlicePairs
import Derived.Test.YtogolmbgboihdaaRd
namespace Go.Proofs.Ytogolmbgboihdaa.fnExactRank
open Go.ChangeShapes Go.WideShapes Go.ChangeAt Go.RowKit
set_option linter.unusedVariables false
set_option linter.unusedSimpArgs false

theorem own : ownKnob Try.prog.godebug = none := by kernel_rfl
theorem laidOut : laidOutB Try.prog = true := by kernel_rfl

set_option maxRecDepth 20000 in
set_option maxHeartbeats 4000000 in
theorem walk (aj : Option Addr) (jn jcap : Nat) (jc : Nat → JB) (a1 : Int) (w : World) (hjn : jn ≤ maxLen) (hjc : ∀ j, (jc j).rn ≤ maxLen) (hjr : JBr w aj jn jc) :
    Calls Try.prog 9 #[.slice aj jn jcap, .int .i64 a1] w fun e w' => e = .returned (.bool true) ∧ Below w.heap.size w w' := by
  have HR0 : Hid (JBr w aj jn jc) := hjr
  have hl0 : (jn : Int) ≤ 9223372036854775807 := by have := hjn; unfold maxLen at this; omega
  have HJM : Hid (∀ j, ((jc j).rn : Int) ≤ 9223372036854775807) := fun j => by have := hjc j; unfold maxLen at this; omega
  clear hjc
  clear hjr hjn
  have tk0 : True := trivial
  go_enter Try.func9, Try.ntmps9
  go_wp2_with (first
      | (go_at_call 25; clear tk0; refine (szJBS_any _ _ _ jc _ _ (by omega) (by omega) hl0 HJM.out HR0.out).mono ?_; rintro e w1 ⟨v0, rfl, hv0, b1⟩; have HS0 : Hid (Below w.heap.size w w1) := hid b1; clear b1; (rcases hv0 with rfl | ⟨hv0, hvv0, hb0, hq0⟩) <;> (try have hvn0 : ¬ v0 < 0 := (by omega)) <;> (try have HJN : Hid (∀ j, j < jn → ((jc j).rn : Int) ≤ 1048576) := hid hq0) <;> (try clear hq0)))
  · go_returns
    exact ⟨rfl, by first | exact Below.refl _ _ | assumption | (exact HS0.out) | (exact HS1.out)⟩
  obtain ⟨M, hM⟩ : ∃ M, rkM jc a1 jn = M := ⟨_, rfl⟩
  obtain ⟨F, hF⟩ : ∃ F, rkF jc a1 jn = F := ⟨_, rfl⟩
  have hM1 : (M : Int) ≤ 1048576 := by
    rw [← hM]; unfold rkM; split <;> omega
  have HSP : Hid (∀ (ax : Option Addr) (kx : Nat) (W : World), JBr W ax jn jc → Calls Try.prog 42 #[.slice ax jn kx, .int .i64 a1] W fun e w' => ∃ ad cap, e = .returned (.slice ad M cap) ∧ OwnI w' W.heap.size ad M F ∧ Below W.heap.size W w') := fun ax kx W g1 => by
    have := specRank_any ax jn kx jc a1 W hb0 HJN.out g1
    rw [hM, hF] at this; exact this
  have HIM : Hid (∀ (ax : Option Addr) (kx : Nat) (W : World), JBr W ax jn jc → Calls Try.prog 23 #[.slice ax jn kx, .int .i64 a1] W fun e w' => ∃ ad cap, e = .returned (.slice ad M cap) ∧ OwnI w' W.heap.size ad M F ∧ Below W.heap.size W w') := fun ax kx W g1 => by
    have := implRank_any ax jn kx jc a1 W hb0 HJN.out g1
    rw [hM, hF] at this; exact this
  clear hM hF
  have tok0 : True := trivial
  have tok1 : True := trivial
  have tok2 : True := trivial
  have tok3 : True := trivial
  have tok4 : True := trivial
  have tok5 : True := trivial
  have tok6 : True := trivial
  have tok7 : True := trivial
  have tok8 : True := trivial
  have tok9 : True := trivial
  have tok10 : True := trivial
  have tok11 : True := trivial
  have tok12 : True := trivial
  have tok13 : True := trivial
  have tok14 : True := trivial
  go_wp2_with (first
      | (go_at_call 28; clear tok0; refine (toJBS_any _ _ _ jc _ hb0 HJN.out (HR0.out.below HS0.out)).mono ?_; rintro e w101 ⟨rfl, ⟨bt_w101, i_w101⟩, b_w101⟩; have HI_s_0 : Hid (AJB w101 w1.heap.size w101.heap.size jn jc) := hid ⟨bt_w101, i_w101, fun j hj => (i_w101.t j hj).lt, i_w101.lt⟩; have HLT_s_0 := hid i_w101.lt; have HB_w101 : Hid (Below w.heap.size w w101) := hid (bel_on HS0.out b_w101); clear i_w101 b_w101)
      | (go_at_call 42; clear tok1; refine (HSP.out _ _ _ HI_s_0.out.row).mono ?_; rintro e w102 ⟨ado, capo, rfl, o_s, b_s⟩; have HO : Hid (OwnMI w102 w.heap.size w102.heap.size ado M F) := hid ((ownMI_of o_s).lower HB_w101.out.size); have HB_w102 : Hid (Below w.heap.size w w102) := hid (bel_on HB_w101.out b_s); clear o_s b_s)
      | (go_at_call 28; clear tok2; refine (toJBS_any _ _ _ jc _ hb0 HJN.out (HR0.out.below HB_w102.out)).mono ?_; rintro e w103 ⟨rfl, ⟨bt_w103, i_w103⟩, b_w103⟩; have HI_x_0 : Hid (AJB w103 w102.heap.size w103.heap.size jn jc) := hid ⟨bt_w103, i_w103, fun j hj => (i_w103.t j hj).lt, i_w103.lt⟩; have HLT_x_0 := hid i_w103.lt; have HB_w103 : Hid (Below w.heap.size w w103) := hid (bel_on HB_w102.out b_w103); replace HO := hid (HO.out.below b_w103); clear i_w103 b_w103)
      | (go_at_call 23; clear tok3; have HLX : Hid (w.heap.size ≤ w102.heap.size ∧ w102.heap.size ≤ w102.heap.size ∧ w102.heap.size < w103.heap.size) := hid ⟨HB_w102.out.size, Nat.le_refl _, HLT_x_0.out⟩; refine (HIM.out _ _ _ HI_x_0.out.row).mono ?_; rintro e w104 ⟨adg, capg, rfl, o_g, b_g⟩; have HU : Hid (RU0 w M F ado adg (w102.heap.size) (w103.heap.size) w104.heap.size (w102.heap.size) jn jc w104) := hid ⟨bel_on HB_w103.out b_g, HO.out.below b_g, ownMI_of o_g, HI_x_0.out.below b_g, HLX.out⟩; clear o_g b_g)
      | (go_at_call 36; clear tok4; refine (eqIntS_same _ _ _ _ _ F _ hM1 HU.out.g.row HU.out.o.row).mono ?_; rintro e w105 ⟨rfl, b_w105⟩; replace HU := hid (HU.out.below b_w105); clear b_w105)
      | (go_at_call 28; clear tok5; refine (toJBS_any _ _ _ jc _ hb0 HJN.out (HR0.out.below HU.out.bl)).mono ?_; rintro e w106 ⟨rfl, ⟨bt_w106, i_w106⟩, b_w106⟩; replace HU := hid (HU.out.below b_w106); have HJ0 := hid i_w106.row; clear i_w106 b_w106)
      | (go_at_call 31; clear tok6; refine (eqJBS_same _ _ _ _ _ jc _ hb0 HJN.out HU.out.r0.row HJ0.out).mono ?_; rintro e w107 ⟨rfl, b_w107⟩; replace HU := hid (HU.out.below b_w107); clear b_w107)
      | (go_at_call 38; clear tok7; obtain ⟨bt, hO, hbt, _⟩ := HU.out.r0; refine (markJBS_any _ _ _ jc bt _ _ _ _ hb0 HJN.out (by omega) (by omega) hO (Nat.le_refl _) (.inr ⟨hbt, by have := HU.out.l; omega⟩)).mono ?_; rintro e w108 ⟨vk0, rfl, hvk0, kk, b_w108⟩; have HU1 := hid (HU.out.marked kk b_w108); clear hO hbt kk b_w108; have hkk : ¬ (vk0) < 0 := (by omega))
      | (go_at_call 36; clear tok8; refine (eqIntS_same _ _ _ _ _ F _ hM1 HU1.out.g.row HU1.out.o.row).mono ?_; rintro e w109 ⟨rfl, b_w109⟩; replace HU1 := hid (HU1.out.below b_w109); clear b_w109)
      | (go_at_call 39; clear tok9; refine (markMI _ _ _ _ _ F _ hM1 HU1.out.g).mono ?_; rintro e w110 ⟨rfl, r_w110, kk, b_w110⟩; have HZ := hid (HU1.out.marked r_w110 kk b_w110); clear r_w110 kk b_w110)
      | (go_at_call 43; clear tok10; refine (heldI_is _ _ _ 1 _ hM1 (by omega) (by omega) HZ.out.h).mono ?_; rintro e w111 ⟨rfl, ew⟩; replace ew := ew.symm; subst ew)
      | (go_at_call 28; clear tok11; refine (toJBS_any _ _ _ jc _ hb0 HJN.out (HR0.out.below HZ.out.bl)).mono ?_; rintro e w112 ⟨rfl, ⟨bt_w112, i_w112⟩, b_w112⟩; replace HZ := hid (HZ.out.below b_w112); have HY0 := hid i_w112.row; clear i_w112 b_w112)
      | (go_at_call 23; clear tok12; refine (HIM.out _ _ _ HY0.out).mono ?_; rintro e w113 ⟨adh, caph, rfl, o_h, b_h⟩; have HE := hid o_h.row; replace HZ := hid (HZ.out.below b_h); clear o_h b_h)
      | (go_at_call 36; clear tok13; refine (eqIntS_same _ _ _ _ _ F _ hM1 HE.out HZ.out.o.row).mono ?_; rintro e w114 ⟨rfl, b_w114⟩; replace HZ := hid (HZ.out.below b_w114); clear b_w114)
      | (go_at_call 43; clear tok14; refine (heldI_is _ _ _ 1 _ hM1 (by omega) (by omega) HZ.out.h).mono ?_; rintro e w115 ⟨rfl, ew⟩; replace ew := ew.symm; subst ew))
  go_returns
  exact ⟨rfl, HZ.out.bl⟩

set_option maxRecDepth 100000 in
theorem lifted (os : Os) (started : os.Started) (H : Type) (enc : TypeId × Value → H) :
    ReturnsInHanded {} Try.checked os 9 .any (Rows.fnExactRankSpec.pre6 enc Try.prog Try.f9 Rows.fnExactRankRow.domain false) (Rows.fnExactRankSpec.post enc Try.prog Try.f9 false true false false) := by
  refine returnsInHanded_of_change (C := Try.checked) own started (by kernel_rfl) Try.func9
    (ChangeSpec.witness6 (enc := enc) (C := Try.checked) false ⟨#[], #[.slice none 0 0, .int .i64 0], []⟩ 8 (by kernel_rfl) (by kernel_rfl) (by kernel_rfl) (by kernel_rfl)) ?_
  intro W base args ds gs before hval0 hW hcnd _
  have hval : ∀ (j : Nat) t v, Try.f9.params[j]? = some t → args[j]? = some v → Value.okWide Try.prog W .any base t v := hval0
  have hW' := hW
  obtain ⟨p, q, hA0, hV, rfl, hfz, hnd⟩ := hW
  have hA : DataW.TrodAll enc Try.prog W 0 (fun _ => true) true Try.f9.params.toList args.toList ds p := hA0
  rw [Try.params9] at hA hval
  obtain ⟨v0, vs0, d0, ds0, p0, q0, hargs, rfl, rfl, h0, r0⟩ := trodAll_cons hA
  obtain ⟨v1, vs1, d1, ds1, p1, q1, rfl, rfl, rfl, h1, r1⟩ := trodAll_cons r0
  obtain ⟨rfl, rfl, rfl⟩ := trodAll_nil r1
  obtain rfl : args = #[v0, v1] := by cases args; simp_all
  obtain ⟨rfl, rfl⟩ := trodVars_none hV
  have k0 := h0
  have lt0 : ∀ x ∈ p0, x.block < W.heap.size := by obtain ⟨m, hm⟩ := k0; exact DataW.trod_lt m _ _ _ hm
  have k1 := h1
  have lt1 : ∀ x ∈ p1, x.block < W.heap.size := by obtain ⟨m, hm⟩ := k1; exact DataW.trod_lt m _ _ _ hm
  obtain ⟨aj, jn, jcap, rfl⟩ := okWide_slice Try.underlying52 (hval 0 52 v0 rfl rfl)
  obtain ⟨jc, hjn, hjc0, hjr⟩ := JB_of Try.underlying52 Try.underlying102 (by kernel_rfl) ⟨rfl, rfl, rfl, rfl⟩ ⟨by kernel_rfl, by kernel_rfl, by kernel_rfl, by kernel_rfl⟩ Try.underlying3 Try.underlying3 Try.underlying3 Try.underlying100 Try.underlying143 (by kernel_rfl) ⟨rfl, rfl, rfl⟩ ⟨by kernel_rfl, by kernel_rfl, by kernel_rfl⟩ Try.underlying3 Try.underlying3 Try.underlying3 h0
  have hjc : ∀ j, (jc j).rn ≤ maxLen := hjc0
  obtain ⟨a1, rfl, rfl, rfl, w1⟩ := open_int Try.underlying3 (hval 1 3 v1 rfl rfl) h1
  clear hA0 hval0
  refine (walk aj jn jcap jc a1 W hjn hjc hjr).mono fun e W' ⟨he, hg⟩ => ?_
  subst he
  exact ⟨_, rfl, _, _, _, [], _, [], hW', (trodAll_cons_mk (shut_bool Try.underlying4 _) trodAll_mk0), (trodAll_cons_mk (Below.trod laidOut (by kernel_rfl) (of_decide_eq_true (by kernel_rfl)) k0 hg lt0) (trodAll_cons_mk (Below.trod laidOut (by kernel_rfl) (of_decide_eq_true (by kernel_rfl)) k1 hg lt1) trodAll_mk0)), rfl, hg.frame _, fun h => by cases h⟩

theorem over : Rows.fnExactRankRow.holds Try.pinned (OpenSpec.ofChange Rows.fnExactRankSpec) :=
  OpenClaim.holds_of_wide 9 Try.f9 rfl rfl rfl rfl rfl rfl rfl ⟨rfl, rfl, rfl, rfl, rfl⟩ rfl rfl rfl rfl rfl (by kernel_rfl) Try.func9 (by kernel_rfl)
    (of_decide_eq_true (by kernel_rfl)) (by unfold Func.isWrapper; first | (rw [if_pos (by decide +kernel)]; kernel_rfl) | (rw [if_neg (by decide +kernel)]; exact ⟨rfl, rfl⟩))
    (fun os started H enc _ => lifted os started H enc)

end Go.Proofs.Ytogolmbgboihdaa.fnExactRank

namespace Go.Proofs.Ytogolmbgboihdaa
theorem fnExactRank_holds : Rows.FnExactRankSaid := fnExactRank.over
#print axioms fnExactRank_holds
end Go.Proofs.Ytogolmbgboihdaa
