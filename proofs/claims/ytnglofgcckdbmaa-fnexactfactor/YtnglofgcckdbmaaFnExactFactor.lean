/- At every argument Factor of the program answers as the model's Factor and leaves its argument; nothing older is written. -/
import Derived.Test.YtnglofgcckdbmaaRows
import Derived.WalkKit
import Derived.ProofKit
import Derived.OpenShut
import Derived.ShutString
import Derived.ChangeOld
import Derived.Below
import Derived.Handy
import Derived.Carry
import Derived.Lib.SmallJoins
import Derived.Deep.SlicePairs
import Derived.Test.YtnglofgcckdbmaaFb
namespace Go.Proofs.Ytnglofgcckdbmaa.fnExactFactor
open Go.ChangeShapes Go.WideShapes Go.ChangeAt Go.RowKit
set_option linter.unusedVariables false
set_option linter.unusedSimpArgs false

theorem own : ownKnob Try.prog.godebug = none := by kernel_rfl
theorem laidOut : laidOutB Try.prog = true := by kernel_rfl

set_option maxRecDepth 20000 in
set_option maxHeartbeats 4000000 in
theorem walk (ad : Option Addr) (len cap : Nat) (c : Nat → OI2) (a1 : Int) (a2 : Int) (a3 : Int) (w : World) (hl : len ≤ maxLen) (hr : OIr w ad len c) :
    Calls Try.prog 10 #[.slice ad len cap, .int .i64 a1, .int .i64 a2, .int .i64 a3] w fun e w' => e = .returned (.bool true) ∧ Below w.heap.size w w' := by
  have HR : Hid (OIr w ad len c) := hr
  have hl2 : (len : Int) ≤ 9223372036854775807 := by unfold maxLen at hl; omega
  clear hr
  have tok1 : True := trivial
  have tok2 : True := trivial
  go_enter Try.func10, Try.ntmps10
  go_wp2_with (first
    | (go_at_call 37; refine (szOI2S_any _ _ _ _ _ (by omega) (by omega) hl2).mono ?_; rintro e w1 ⟨v, rfl, hv, ew⟩; replace ew := ew.symm; subst ew; rcases hv with rfl | ⟨hv, hv1, hb⟩)
    | (go_at_call 38; clear tok1; refine (toOI2S_any _ _ _ c _ hb HR.out).mono ?_; rintro e w2 ⟨rfl, ⟨i2, _⟩, b2⟩)
    | (go_at_call 43; refine (specFactor_any _ _ _ c _ _ _ _ hb i2).mono ?_; rintro e w3 ⟨rfl, b3⟩; replace b3 := bel_on b2 b3)
    | (go_at_call 38; clear tok2; refine (toOI2S_any _ _ _ c _ hb (HR.out.below b3)).mono ?_; rintro e w4 ⟨rfl, ⟨i4, _⟩, b4⟩; replace b4 := bel_on b3 b4)
    | (go_at_call 41; refine (implFactor_any _ _ _ c _ _ _ _ hb i4).mono ?_; rintro e w5 ⟨rfl, b5⟩; have i5 := i4.below b5; replace b5 := bel_on b4 b5)
    | (go_at_call 38; refine (toOI2S_any _ _ _ c _ hb (HR.out.below b5)).mono ?_; rintro e w6 ⟨rfl, ⟨i6, _⟩, b6⟩; have j6 := i5.below b6; replace b6 := bel_on b5 b6)
    | (go_at_call 39; refine (eqOI2S_same _ _ _ _ _ c _ hb j6 i6).mono ?_; rintro e w7 ⟨rfl, b7⟩; replace b7 := bel_on b6 b7))
  · go_returns
    exact ⟨rfl, Below.refl _ _⟩
  · go_returns
    exact ⟨rfl, b7⟩

set_option maxRecDepth 100000 in
theorem lifted (os : Os) (started : os.Started) (H : Type) (enc : TypeId × Value → H) :
    ReturnsInHanded {} Try.checked os 10 .any (Rows.fnExactFactorSpec.pre6 enc Try.prog Try.f10 Rows.fnExactFactorRow.domain false) (Rows.fnExactFactorSpec.post enc Try.prog Try.f10 false true false false) := by
  refine returnsInHanded_of_change (C := Try.checked) own started (by kernel_rfl) Try.func10
    (ChangeSpec.witness6 (enc := enc) (C := Try.checked) false ⟨#[], #[.slice none 0 0, .int .i64 0, .int .i64 0, .int .i64 0], []⟩ 8 (by kernel_rfl) (by kernel_rfl) (by kernel_rfl) (by kernel_rfl)) ?_
  intro W base args ds gs before hval0 hW hcnd _
  have hval : ∀ (j : Nat) t v, Try.f10.params[j]? = some t → args[j]? = some v → Value.okWide Try.prog W .any base t v := hval0
  have hW' := hW
  obtain ⟨p, q, hA0, hV, rfl, hfz, hnd⟩ := hW
  have hA : DataW.TrodAll enc Try.prog W 0 (fun _ => true) true Try.f10.params.toList args.toList ds p := hA0
  rw [Try.params10] at hA hval
  obtain ⟨v0, vs0, d0, ds0, p0, q0, hargs, rfl, rfl, h0, r0⟩ := trodAll_cons hA
  obtain ⟨v1, vs1, d1, ds1, p1, q1, rfl, rfl, rfl, h1, r1⟩ := trodAll_cons r0
  obtain ⟨v2, vs2, d2, ds2, p2, q2, rfl, rfl, rfl, h2, r2⟩ := trodAll_cons r1
  obtain ⟨v3, vs3, d3, ds3, p3, q3, rfl, rfl, rfl, h3, r3⟩ := trodAll_cons r2
  obtain ⟨rfl, rfl, rfl⟩ := trodAll_nil r3
  obtain rfl : args = #[v0, v1, v2, v3] := by cases args; simp_all
  obtain ⟨rfl, rfl⟩ := trodVars_none hV
  have k0 := h0
  have lt0 : ∀ x ∈ p0, x.block < W.heap.size := by obtain ⟨m, hm⟩ := k0; exact DataW.trod_lt m _ _ _ hm
  have k1 := h1
  have lt1 : ∀ x ∈ p1, x.block < W.heap.size := by obtain ⟨m, hm⟩ := k1; exact DataW.trod_lt m _ _ _ hm
  have k2 := h2
  have lt2 : ∀ x ∈ p2, x.block < W.heap.size := by obtain ⟨m, hm⟩ := k2; exact DataW.trod_lt m _ _ _ hm
  have k3 := h3
  have lt3 : ∀ x ∈ p3, x.block < W.heap.size := by obtain ⟨m, hm⟩ := k3; exact DataW.trod_lt m _ _ _ hm
  obtain ⟨ad, len, cap, rfl⟩ := okWide_slice Try.underlying65 (hval 0 65 v0 rfl rfl)
  obtain ⟨c, hl, hr⟩ := OI2_of Try.underlying65 Try.underlying118 (by kernel_rfl) ⟨rfl, rfl⟩ ⟨by kernel_rfl, by kernel_rfl⟩ Try.underlying3 Try.underlying3 h0
  obtain ⟨a1, rfl, rfl, rfl, w1⟩ := open_int Try.underlying3 (hval 1 3 v1 rfl rfl) h1
  obtain ⟨a2, rfl, rfl, rfl, w2⟩ := open_int Try.underlying3 (hval 2 3 v2 rfl rfl) h2
  obtain ⟨a3, rfl, rfl, rfl, w3⟩ := open_int Try.underlying3 (hval 3 3 v3 rfl rfl) h3
  clear hA0 hval0
  refine (walk ad len cap c a1 a2 a3 W hl hr).mono fun e W' ⟨he, hg⟩ => ?_
  subst he
  exact ⟨_, rfl, _, _, _, [], _, [], hW', (trodAll_cons_mk (shut_bool Try.underlying4 _) trodAll_mk0), (trodAll_cons_mk (Below.trod laidOut (by kernel_rfl) (of_decide_eq_true (by kernel_rfl)) k0 hg lt0) (trodAll_cons_mk (Below.trod laidOut (by kernel_rfl) (of_decide_eq_true (by kernel_rfl)) k1 hg lt1) (trodAll_cons_mk (Below.trod laidOut (by kernel_rfl) (of_decide_eq_true (by kernel_rfl)) k2 hg lt2) (trodAll_cons_mk (Below.trod laidOut (by kernel_rfl) (of_decide_eq_true (by kernel_rfl)) k3 hg lt3) trodAll_mk0)))), rfl, hg.frame _, fun h => by cases h⟩

theorem over : Rows.fnExactFactorRow.holds Try.pinned (OpenSpec.ofChange Rows.fnExactFactorSpec) :=
  OpenClaim.holds_of_wide 10 Try.f10 rfl rfl rfl rfl rfl rfl rfl ⟨rfl, rfl, rfl, rfl, rfl⟩ rfl rfl rfl rfl rfl (by kernel_rfl) Try.func10 (by kernel_rfl)
    (of_decide_eq_true (by kernel_rfl)) (by unfold Func.isWrapper; first | (rw [if_pos (by decide +kernel)]; kernel_rfl) | (rw [if_neg (by decide +kernel)]; exact ⟨rfl, rfl⟩))
    (fun os started H enc _ => lifted os started H enc)

end Go.Proofs.Ytnglofgcckdbmaa.fnExactFactor

namespace Go.Proofs.Ytnglofgcckdbmaa
theorem fnExactFactor_holds : Rows.FnExactFactorSaid := fnExactFactor.over
#print axioms fnExactFactor_holds
end Go.Proofs.Ytnglofgcckdbmaa
