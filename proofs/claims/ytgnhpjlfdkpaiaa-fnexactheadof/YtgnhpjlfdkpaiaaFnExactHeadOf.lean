/- FnExactHeadOf: at every list of entries that the size test lets through, the program's HeadOf answers as the model's, and leaves what it was handed. No conditions. -/
import Derived.Test.YtgnhpjlfdkpaiaaRows
import Derived.WalkKit
import Derived.ProofKit
import Derived.OpenShut
import Derived.ShutString
import Derived.ChangeOld
import Derived.Below
import Derived.Handy
import Derived.Carry
import Derived.Lib.SmallJoins
import Derived.Deep.SlicePairs
import Derived.Test.YtgnhpjlfdkpaiaaFl
import Derived.Test.YtgnhpjlfdkpaiaaLt
import Derived.Test.YtgnhpjlfdkpaiaaHj
import Derived.Test.YtgnhpjlfdkpaiaaHt
namespace Go.Proofs.Ytgnhpjlfdkpaiaa.fnExactHeadOf
open Go.ChangeShapes Go.WideShapes Go.ChangeAt Go.RowKit
set_option linter.unusedVariables false
set_option linter.unusedSimpArgs false

theorem own : ownKnob Try.prog.godebug = none := by kernel_rfl
theorem laidOut : laidOutB Try.prog = true := by kernel_rfl

set_option maxRecDepth 20000 in
set_option maxHeartbeats 4000000 in
theorem walk (ad : Option Addr) (len cap : Nat) (es : Nat → E4) (w : World) (hl : len ≤ maxLen) (hm : ∀ j, (es j).text.size ≤ maxLen ∧ (es j).n ≤ maxLen) (hr : ER w ad len es) :
    Calls Try.prog 4 #[.slice ad len cap] w fun e w' => e = .returned (.bool true) ∧ Below w.heap.size w w' := by
  have HR : Hid (ER w ad len es) := hr
  have hl2 := size_small hl
  have HM : Hid (∀ j, ((es j).text.size : Int) ≤ 9223372036854775807 ∧ ((es j).n : Int) ≤ 9223372036854775807) := fun j => ⟨size_small (hm j).1, size_small (hm j).2⟩
  clear hr hm
  have tok1 : True := trivial
  have tok2 : True := trivial
  go_enter Try.func4, Try.ntmps4
  go_wp2_with (first
    | (go_at_call 11; refine (szEntryS_any _ _ _ es _ _ (by omega) (by omega) hl2 HM.out HR.out).mono ?_; rintro e w1 ⟨v, rfl, hv, b1⟩; rcases hv with rfl | ⟨hv, hv2, hb, hn⟩)
    | (go_at_call 12; clear tok1; refine (toEntryS_any _ _ _ es _ hb hn (HR.out.below b1)).mono ?_; rintro e w2 ⟨rfl, ⟨bl2, i2, _⟩, b2⟩; replace i2 := i2.row; replace b2 := bel_on b1 b2)
    | (go_at_call 9; refine (specHead_any _ _ _ es _ i2).mono ?_; rintro e w3 ⟨rfl, b3⟩; replace b3 := bel_on b2 b3)
    | (go_at_call 12; clear tok2; refine (toEntryS_any _ _ _ es _ hb hn (HR.out.below b3)).mono ?_; rintro e w4 ⟨rfl, ⟨bl4, i4, _⟩, b4⟩; replace i4 := i4.row; replace b4 := bel_on b3 b4)
    | (go_at_call 8; refine (implHead_any _ _ _ es _ i4).mono ?_; rintro e w5 ⟨rfl, b5⟩; have i5 := i4.below b5; replace b5 := bel_on b4 b5)
    | (go_at_call 12; refine (toEntryS_any _ _ _ es _ hb hn (HR.out.below b5)).mono ?_; rintro e w6 ⟨rfl, ⟨bl6, i6, _⟩, b6⟩; replace i6 := i6.row; have j6 := i5.below b6; replace b6 := bel_on b5 b6)
    | (go_at_call 13; refine (eqEntryS_same _ _ _ _ _ es _ hb hn j6 i6).mono ?_; rintro e w7 ⟨rfl, b7⟩; replace b7 := bel_on b6 b7))
  · go_returns
    exact ⟨rfl, b1⟩
  · go_returns
    exact ⟨rfl, b7⟩

set_option maxRecDepth 100000 in
theorem lifted (os : Os) (started : os.Started) (H : Type) (enc : TypeId × Value → H) :
    ReturnsInHanded {} Try.checked os 4 .any (Rows.fnExactHeadOfSpec.pre6 enc Try.prog Try.f4 Rows.fnExactHeadOfRow.domain false) (Rows.fnExactHeadOfSpec.post enc Try.prog Try.f4 false true false false) := by
  refine returnsInHanded_of_change (C := Try.checked) own started (by kernel_rfl) Try.func4
    (ChangeSpec.witness6 (enc := enc) (C := Try.checked) false ⟨#[], #[.slice none 0 0], []⟩ 8 (by kernel_rfl) (by kernel_rfl) (by kernel_rfl) (by kernel_rfl)) ?_
  intro W base args ds gs before hval0 hW hcnd _
  have hval : ∀ (j : Nat) t v, Try.f4.params[j]? = some t → args[j]? = some v → Value.okWide Try.prog W .any base t v := hval0
  have hW' := hW
  obtain ⟨p, q, hA0, hV, rfl, hfz, hnd⟩ := hW
  have hA : DataW.TrodAll enc Try.prog W 0 (fun _ => true) true Try.f4.params.toList args.toList ds p := hA0
  rw [Try.params4] at hA hval
  obtain ⟨v0, vs0, d0, ds0, p0, q0, hargs, rfl, rfl, h0, r0⟩ := trodAll_cons hA
  obtain ⟨rfl, rfl, rfl⟩ := trodAll_nil r0
  obtain rfl : args = #[v0] := by cases args; simp_all
  obtain ⟨rfl, rfl⟩ := trodVars_none hV
  have k0 := h0
  have lt0 : ∀ x ∈ p0, x.block < W.heap.size := by obtain ⟨m, hm⟩ := k0; exact DataW.trod_lt m _ _ _ hm
  obtain ⟨ad, len, cap, rfl⟩ := okWide_slice Try.underlying33 (hval 0 33 v0 rfl rfl)
  obtain ⟨es, hl, hm, hr⟩ := entries_of Try.underlying33 Try.underlying69 (by kernel_rfl) ⟨rfl, rfl, rfl, rfl⟩ ⟨by kernel_rfl, by kernel_rfl, by kernel_rfl, by kernel_rfl⟩ Try.underlying3 Try.underlying3 Try.underlying9 lineT h0
  clear hA0 hval0
  refine (walk ad len cap es W hl hm hr).mono fun e W' ⟨he, hg⟩ => ?_
  subst he
  exact ⟨_, rfl, _, _, _, [], _, [], hW', (trodAll_cons_mk (shut_bool Try.underlying4 _) trodAll_mk0), (trodAll_cons_mk (Below.trod laidOut (by kernel_rfl) (of_decide_eq_true (by kernel_rfl)) k0 hg lt0) trodAll_mk0), rfl, hg.frame _, fun h => by cases h⟩

theorem over : Rows.fnExactHeadOfRow.holds Try.pinned (OpenSpec.ofChange Rows.fnExactHeadOfSpec) :=
  OpenClaim.holds_of_wide 4 Try.f4 rfl rfl rfl rfl rfl rfl rfl ⟨rfl, rfl, rfl, rfl, rfl⟩ rfl rfl rfl rfl rfl (by kernel_rfl) Try.func4 (by kernel_rfl)
    (of_decide_eq_true (by kernel_rfl)) (by unfold Func.isWrapper; first | (rw [if_pos (by decide +kernel)]; kernel_rfl) | (rw [if_neg (by decide +kernel)]; exact ⟨rfl, rfl⟩))
    (fun os started H enc _ => lifted os started H enc)

end Go.Proofs.Ytgnhpjlfdkpaiaa.fnExactHeadOf

namespace Go.Proofs.Ytgnhpjlfdkpaiaa
theorem fnExactHeadOf_holds : Rows.FnExactHeadOfSaid := fnExactHeadOf.over
#print axioms fnExactHeadOf_holds
end Go.Proofs.Ytgnhpjlfdkpaiaa
