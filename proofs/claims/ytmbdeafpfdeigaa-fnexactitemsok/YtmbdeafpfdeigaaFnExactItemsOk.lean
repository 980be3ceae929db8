/- At every list of items that can be read, ItemsOk of the program answers as the model's and leaves the items as they were; no condition. -/
import Derived.Test.YtmbdeafpfdeigaaRows
import Derived.WalkKit
import Derived.ProofKit
import Derived.OpenShut
import Derived.ShutString
import Derived.ChangeOld
import Derived.Below
import Derived.Handy
import Derived.Carry
import Derived.Lib.SmallJoins
import Derived.Deep.SlicePairs
import Derived.Test.YtmbdeafpfdeigaaJh
namespace Go.Proofs.Ytmbdeafpfdeigaa.fnExactItemsOk
open Go.ChangeShapes Go.WideShapes Go.ChangeAt Go.RowKit
set_option linter.unusedVariables false
set_option linter.unusedSimpArgs false

theorem own : ownKnob Try.prog.godebug = none := by kernel_rfl
theorem laidOut : laidOutB Try.prog = true := by kernel_rfl

set_option maxRecDepth 20000 in
set_option maxHeartbeats 4000000 in
theorem walk (ad : Option Addr) (len cap : Nat) (c : Nat → IT) (w : World) (hl : len ≤ maxLen) (hc : ∀ j, (c j).parn ≤ maxLen ∧ (c j).alsn ≤ maxLen ∧ (c j).name.size ≤ maxLen) (hr : ITr w ad len c) :
    Calls Try.prog 8 #[.slice ad len cap] w fun e w' => e = .returned (.bool true) ∧ Below w.heap.size w w' := by
  have HR : Hid (ITr w ad len c) := hr
  have hl2 : (len : Int) ≤ 9223372036854775807 := by unfold maxLen at hl; omega
  have hc2 : Hid (∀ j, ((c j).parn : Int) ≤ 9223372036854775807 ∧ ((c j).alsn : Int) ≤ 9223372036854775807) := fun j => by have := hc j; unfold maxLen at this; omega
  have hc3 : Hid (∀ j, ((c j).name.size : Int) ≤ 9223372036854775807) := fun j => by have := hc j; unfold maxLen at this; omega
  have HC : Hid (∀ j, (c j).name.size ≤ maxLen) := fun j => (hc j).2.2
  clear hr hc
  have tok1 : True := trivial
  have tok2 : True := trivial
  go_enter Try.func8, Try.ntmps8
  go_wp2_with (first
    | (go_at_call 36; refine (szITS_any _ _ _ c _ _ (by omega) (by omega) hl2 hc2.out hc3.out HR.out).mono ?_; rintro e w1 ⟨v, rfl, hv, b1⟩; rcases hv with rfl | ⟨hv, hv1, hb, hv2⟩ <;> (try have HIZ : Hid (IZ len c) := hid (fun j hj => ⟨HC.out j, hv2 j hj⟩)) <;> (try have HPB : Hid (∀ j, j < len → ((c j).parn : Int) ≤ 1048576 ∧ ((c j).alsn : Int) ≤ 1048576) := hid hv2) <;> (try clear hv2))
    | (go_at_call 37; clear tok1; refine (toITS_any _ _ _ c _ hb HPB.out (HR.out.below b1)).mono ?_; rintro e w2 ⟨rfl, ⟨_, _, i2⟩, b2⟩; replace b2 := bel_on b1 b2)
    | (go_at_call 31; refine (specItems_any _ _ _ c _ hb HIZ.out i2.row).mono ?_; rintro e w3 ⟨rfl, b3⟩; replace b3 := bel_on b2 b3)
    | (go_at_call 37; clear tok2; refine (toITS_any _ _ _ c _ hb HPB.out (HR.out.below b3)).mono ?_; rintro e w4 ⟨rfl, ⟨_, _, i4⟩, b4⟩; replace b4 := bel_on b3 b4)
    | (go_at_call 38; refine (implItems_any _ _ _ c _ hb HIZ.out i4.row).mono ?_; rintro e w5 ⟨rfl, b5⟩; have i5 := i4.row.below b5; replace b5 := bel_on b4 b5)
    | (go_at_call 37; refine (toITS_any _ _ _ c _ hb HPB.out (HR.out.below b5)).mono ?_; rintro e w6 ⟨rfl, ⟨_, _, i6⟩, b6⟩; have j6 := i5.below b6; replace b6 := bel_on b5 b6)
    | (go_at_call 39; refine (eqITS_same _ _ _ _ _ c _ hb HPB.out j6 i6.row).mono ?_; rintro e w7 ⟨rfl, b7⟩; replace b7 := bel_on b6 b7))
  · go_returns
    exact ⟨rfl, b1⟩
  · go_returns
    exact ⟨rfl, b7⟩

set_option maxRecDepth 100000 in
theorem lifted (os : Os) (started : os.Started) (H : Type) (enc : TypeId × Value → H) :
    ReturnsInHanded {} Try.checked os 8 .any (Rows.fnExactItemsOkSpec.pre6 enc Try.prog Try.f8 Rows.fnExactItemsOkRow.domain false) (Rows.fnExactItemsOkSpec.post enc Try.prog Try.f8 false true false false) := by
  refine returnsInHanded_of_change (C := Try.checked) own started (by kernel_rfl) Try.func8
    (ChangeSpec.witness6 (enc := enc) (C := Try.checked) false ⟨#[], #[.slice none 0 0], []⟩ 8 (by kernel_rfl) (by kernel_rfl) (by kernel_rfl) (by kernel_rfl)) ?_
  intro W base args ds gs before hval0 hW hcnd _
  have hval : ∀ (j : Nat) t v, Try.f8.params[j]? = some t → args[j]? = some v → Value.okWide Try.prog W .any base t v := hval0
  have hW' := hW
  obtain ⟨p, q, hA0, hV, rfl, hfz, hnd⟩ := hW
  have hA : DataW.TrodAll enc Try.prog W 0 (fun _ => true) true Try.f8.params.toList args.toList ds p := hA0
  rw [Try.params8] at hA hval
  obtain ⟨v0, vs0, d0, ds0, p0, q0, hargs, rfl, rfl, h0, r0⟩ := trodAll_cons hA
  obtain ⟨rfl, rfl, rfl⟩ := trodAll_nil r0
  obtain rfl : args = #[v0] := by cases args; simp_all
  obtain ⟨rfl, rfl⟩ := trodVars_none hV
  have k0 := h0
  have lt0 : ∀ x ∈ p0, x.block < W.heap.size := by obtain ⟨m, hm⟩ := k0; exact DataW.trod_lt m _ _ _ hm
  obtain ⟨ad, len, cap, rfl⟩ := okWide_slice Try.underlying52 (hval 0 52 v0 rfl rfl)
  obtain ⟨c, hl, hc, hr⟩ := IT_of Try.underlying52 Try.underlying101 (by kernel_rfl) ⟨rfl, rfl, rfl, rfl, rfl⟩ ⟨by kernel_rfl, by kernel_rfl, by kernel_rfl, by kernel_rfl, by kernel_rfl⟩ Try.underlying9 Try.underlying3 Try.underlying4 Try.underlying99 Try.underlying99 Try.underlying141 (by kernel_rfl) ⟨rfl, rfl, rfl, rfl, rfl, rfl⟩ ⟨by kernel_rfl, by kernel_rfl, by kernel_rfl, by kernel_rfl, by kernel_rfl, by kernel_rfl⟩ Try.underlying3 Try.underlying3 Try.underlying3 Try.underlying3 Try.underlying3 Try.underlying3 h0
  clear hA0 hval0
  refine (walk ad len cap c W hl hc hr).mono fun e W' ⟨he, hg⟩ => ?_
  subst he
  exact ⟨_, rfl, _, _, _, [], _, [], hW', (trodAll_cons_mk (shut_bool Try.underlying4 _) trodAll_mk0), (trodAll_cons_mk (Below.trod laidOut (by kernel_rfl) (of_decide_eq_true (by kernel_rfl)) k0 hg lt0) trodAll_mk0), rfl, hg.frame _, fun h => by cases h⟩

theorem over : Rows.fnExactItemsOkRow.holds Try.pinned (OpenSpec.ofChange Rows.fnExactItemsOkSpec) :=
  OpenClaim.holds_of_wide 8 Try.f8 rfl rfl rfl rfl rfl rfl rfl ⟨rfl, rfl, rfl, rfl, rfl⟩ rfl rfl rfl rfl rfl (by kernel_rfl) Try.func8 (by kernel_rfl)
    (of_decide_eq_true (by kernel_rfl)) (by unfold Func.isWrapper; first | (rw [if_pos (by decide +kernel)]; kernel_rfl) | (rw [if_neg (by decide +kernel)]; exact ⟨rfl, rfl⟩))
    (fun os started H enc _ => lifted os started H enc)

end Go.Proofs.Ytmbdeafpfdeigaa.fnExactItemsOk

namespace Go.Proofs.Ytmbdeafpfdeigaa
theorem fnExactItemsOk_holds : Rows.FnExactItemsOkSaid := fnExactItemsOk.over
#print axioms fnExactItemsOk_holds
end Go.Proofs.Ytmbdeafpfdeigaa
