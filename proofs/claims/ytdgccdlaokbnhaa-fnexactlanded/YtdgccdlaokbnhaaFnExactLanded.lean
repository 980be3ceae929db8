/- At every list of lays, every extra and every by, Landed of the program answers as the model does; it leaves the list as it was, and its answer owns its memory. -/
import Derived.Test.YtdgccdlaokbnhaaRows
import Derived.WalkKit
import Derived.ProofKit
import Derived.OpenShut
import Derived.ShutString
import Derived.ChangeOld
import Derived.Below
import Derived.Handy
import Derived.Carry
import Derived.Lib.SmallJoins
import Derived.Deep.SlicePairs
import Derived.Test.YtdgccdlaokbnhaaNd
namespace Go.Proofs.Ytdgccdlaokbnhaa.fnExactLanded
open Go.ChangeShapes Go.WideShapes Go.ChangeAt Go.RowKit
set_option linter.unusedVariables false
set_option linter.unusedSimpArgs false

theorem own : ownKnob Try.prog.godebug = none := by kernel_rfl
theorem laidOut : laidOutB Try.prog = true := by kernel_rfl

set_option maxRecDepth 20000 in
set_option maxHeartbeats 4000000 in
theorem walk (ad : Option Addr) (len cap : Nat) (c : Nat → LA2) (a1 : Int) (a2 : Int) (w : World) (hl : len ≤ maxLen) (hr : LAr w ad len c) :
    Calls Try.prog 11 #[.slice ad len cap, .int .i64 a1, .int .i64 a2] w fun e w' => e = .returned (.bool true) ∧ Below w.heap.size w w' := by
  have HR : Hid (LAr w ad len c) := hr
  have hl2 : (len : Int) ≤ 9223372036854775807 := by unfold maxLen at hl; omega
  clear hr hl
  go_enter Try.func11, Try.ntmps11
  go_wp2_with (go_at_call 43; refine (szLA2S_any _ _ _ _ _ (by omega) (by omega) hl2).mono ?_; rintro e w1 ⟨v, rfl, hv, ew⟩; replace ew := ew.symm; subst ew; rcases hv with rfl | ⟨hv, hv1, hlb⟩)
  · go_returns
    exact ⟨rfl, Below.refl _ _⟩
  obtain ⟨M, hM⟩ : ∃ M, ldM len c a1 a2 = M := ⟨_, rfl⟩
  obtain ⟨F, hF⟩ : ∃ F, laF a1 len a2 c = F := ⟨_, rfl⟩
  obtain ⟨BV, hBV⟩ : ∃ B, ldB len c a1 a2 = B := ⟨_, rfl⟩
  have hM1 : (M : Int) ≤ 1048576 := by rw [← hM]; unfold ldM; split <;> omega
  have HSP : Hid (∀ (x : Option Addr) (k : Nat) (W : World), LAr W x len c → Calls Try.prog 26 #[.slice x len k, .int .i64 a1, .int .i64 a2] W fun e w' => ∃ ad cap, e = .returned (.tuple #[.slice ad M cap, .bool BV]) ∧ OwnLA2 w' W.heap.size ad M F ∧ Below W.heap.size W w') := fun x k W g => by
    have := specLanded_any x len k a1 a2 c W hlb g
    unfold LdR at this; rw [hM, hF, hBV] at this; exact this
  have HIM : Hid (∀ (x : Option Addr) (k : Nat) (W : World), LAr W x len c → Calls Try.prog 24 #[.slice x len k, .int .i64 a1, .int .i64 a2] W fun e w' => ∃ ad cap, e = .returned (.tuple #[.slice ad M cap, .bool BV]) ∧ OwnLA2 w' W.heap.size ad M F ∧ Below W.heap.size W w') := fun x k W g => by
    have := implLanded_any x len k a1 a2 c W hlb g
    unfold LdR at this; rw [hM, hF, hBV] at this; exact this
  clear hM hF hBV
  have hv3 : ¬ v < 0 := by omega
  have hkk : ¬ (1 + 2 * (len : Int)) < 0 := by omega
  have hnb : (BV != BV) = false := by simp
  have tok1 : True := trivial
  have tok3 : True := trivial
  have tok5 : True := trivial
  have tok6 : True := trivial
  have tok7 : True := trivial
  have tok8 : True := trivial
  have tokB : True := trivial
  have tokD : True := trivial
  have tokE : True := trivial
  have tokF : True := trivial
  go_wp2_with (first
    | (go_at_call 44; clear tok1; refine (toLA2S_any _ _ _ c _ hlb HR.out).mono ?_; rintro e w2 ⟨rfl, o2, b2⟩; have HX2 := hid o2.1; have HB2 : Hid (Below w.heap.size w w2) := b2; clear o2 b2)
    | (go_at_call 26; refine (HSP.out _ _ _ HX2.out).mono ?_; rintro e w4 ⟨ado, capo, rfl, o4, b4⟩; have HO4 : Hid (OwnM w4 w.heap.size w4.heap.size ado M F) := hid ((ownM_of o4).lower HB2.out.size); have HB4 := hid (bel_on HB2.out b4); clear o4 b4)
    | (go_at_call 44; clear tok3; refine (toLA2S_any _ _ _ c _ hlb (HR.out.below HB4.out)).mono ?_; rintro e w5 ⟨rfl, o5, b5⟩; have HX5 : Hid (ALA w5 w4.heap.size len c) := hid o5; have HO5 := hid (HO4.out.below b5); have HB5 := hid (bel_on HB4.out b5); clear o5 b5)
    | (go_at_call 24; clear tok5; refine (HIM.out _ _ _ HX5.out.1).mono ?_; rintro e w7 ⟨adg, capg, rfl, o7, b7⟩; have HU7 : Hid (LdU w M F ado adg w4.heap.size w5.heap.size w7.heap.size w4.heap.size len c w7) := hid ⟨bel_on HB5.out b7, HO5.out.below b7, HX5.out.below b7, ownM_of o7, HB4.out.size, Nat.le_refl _, HX5.out.lt⟩; clear o7 b7)
    | (go_at_call 45; clear tok6; refine (eqLA2S_same _ _ _ _ _ F _ hM1 HU7.out.g.row HU7.out.o.row).mono ?_; rintro e w8 ⟨rfl, b8⟩; have HU8 := hid (HU7.out.below b8); clear b8)
    | (go_at_call 44; clear tok7; refine (toLA2S_any _ _ _ c _ hlb (HR.out.below HU8.out.bl)).mono ?_; rintro e w9 ⟨rfl, o9, b9⟩; have HU9 := hid (HU8.out.below b9); have HI9 := hid o9.1; clear o9 b9)
    | (go_at_call 45; clear tok8; refine (eqLA2S_same _ _ _ _ _ c _ hlb HU9.out.x.1 HI9.out).mono ?_; rintro e w10 ⟨rfl, b10⟩; have HU10 := hid (HU9.out.below b10); clear b10)
    | (go_at_call 46; clear tokB; obtain ⟨_, cx, hcx, hsx⟩ := HU10.out.x; refine (markLA2S_is w4.heap.size len _ 1 cx w10 hlb (by omega) (by omega) hcx (by omega)).mono ?_; rintro e w13 ⟨rfl, _, _, kk, b13⟩; have HW13 := hid (HU10.out.marked kk b13); clear hcx hsx kk b13)
    | (go_at_call 45; clear tokD; refine (eqLA2S_same _ _ _ _ _ F _ hM1 HW13.out.g.row HW13.out.o.row).mono ?_; rintro e w15 ⟨rfl, b15⟩; have HW15 := hid (HW13.out.below b15); clear b15)
    | (go_at_call 46; refine (markM _ _ _ _ _ F _ hM1 HW15.out.g).mono ?_; rintro e w16 ⟨rfl, r16, kk, b16⟩; have HZ16 := hid (HW15.out.marked r16 kk b16); clear r16 kk b16)
    | (go_at_call 47; clear tokE; refine (heldLA2S_is _ _ _ 1 _ hM1 (by omega) (by omega) HZ16.out.h).mono ?_; rintro e wh ⟨rfl, ew⟩; replace ew := ew.symm; subst ew)
    | (go_at_call 44; clear tokF; refine (toLA2S_any _ _ _ c _ hlb (HR.out.below HZ16.out.bl)).mono ?_; rintro e w17 ⟨rfl, o17, b17⟩; have HZ17 := hid (HZ16.out.below b17); have HX17 := hid o17.1; clear o17 b17)
    | (go_at_call 24; refine (HIM.out _ _ _ HX17.out).mono ?_; rintro e w19 ⟨adh, caph, rfl, o19, b19⟩; have HE19 := hid o19.row; have HZ19 := hid (HZ17.out.below b19); clear o19 b19)
    | (go_at_call 45; refine (eqLA2S_same _ _ _ _ _ F _ hM1 HE19.out HZ19.out.o.row).mono ?_; rintro e w20 ⟨rfl, b20⟩; have HZ20 := hid (HZ19.out.below b20); clear b20)
    | (go_at_call 47; refine (heldLA2S_is _ _ _ 1 _ hM1 (by omega) (by omega) HZ20.out.h).mono ?_; rintro e wh ⟨rfl, ew⟩; replace ew := ew.symm; subst ew))
  go_returns
  exact ⟨rfl, HZ20.out.bl⟩

set_option maxRecDepth 100000 in
theorem lifted (os : Os) (started : os.Started) (H : Type) (enc : TypeId × Value → H) :
    ReturnsInHanded {} Try.checked os 11 .any (Rows.fnExactLandedSpec.pre6 enc Try.prog Try.f11 Rows.fnExactLandedRow.domain false) (Rows.fnExactLandedSpec.post enc Try.prog Try.f11 false true false false) := by
  refine returnsInHanded_of_change (C := Try.checked) own started (by kernel_rfl) Try.func11
    (ChangeSpec.witness6 (enc := enc) (C := Try.checked) false ⟨#[], #[.slice none 0 0, .int .i64 0, .int .i64 0], []⟩ 8 (by kernel_rfl) (by kernel_rfl) (by kernel_rfl) (by kernel_rfl)) ?_
  intro W base args ds gs before hval0 hW hcnd _
  have hval : ∀ (j : Nat) t v, Try.f11.params[j]? = some t → args[j]? = some v → Value.okWide Try.prog W .any base t v := hval0
  have hW' := hW
  obtain ⟨p, q, hA0, hV, rfl, hfz, hnd⟩ := hW
  have hA : DataW.TrodAll enc Try.prog W 0 (fun _ => true) true Try.f11.params.toList args.toList ds p := hA0
  rw [Try.params11] at hA hval
  obtain ⟨v0, vs0, d0, ds0, p0, q0, hargs, rfl, rfl, h0, r0⟩ := trodAll_cons hA
  obtain ⟨v1, vs1, d1, ds1, p1, q1, rfl, rfl, rfl, h1, r1⟩ := trodAll_cons r0
  obtain ⟨v2, vs2, d2, ds2, p2, q2, rfl, rfl, rfl, h2, r2⟩ := trodAll_cons r1
  obtain ⟨rfl, rfl, rfl⟩ := trodAll_nil r2
  obtain rfl : args = #[v0, v1, v2] := by cases args; simp_all
  obtain ⟨rfl, rfl⟩ := trodVars_none hV
  have k0 := h0
  have lt0 : ∀ x ∈ p0, x.block < W.heap.size := by obtain ⟨m, hm⟩ := k0; exact DataW.trod_lt m _ _ _ hm
  have k1 := h1
  have lt1 : ∀ x ∈ p1, x.block < W.heap.size := by obtain ⟨m, hm⟩ := k1; exact DataW.trod_lt m _ _ _ hm
  have k2 := h2
  have lt2 : ∀ x ∈ p2, x.block < W.heap.size := by obtain ⟨m, hm⟩ := k2; exact DataW.trod_lt m _ _ _ hm
  obtain ⟨ad, len, cap, rfl⟩ := okWide_slice Try.underlying46 (hval 0 46 v0 rfl rfl)
  obtain ⟨c, hl, hr⟩ := LA2_of Try.underlying46 Try.underlying115 (by kernel_rfl) ⟨rfl, rfl⟩ ⟨by kernel_rfl, by kernel_rfl⟩ Try.underlying3 Try.underlying3 h0
  obtain ⟨a1, rfl, rfl, rfl, w1⟩ := open_int Try.underlying3 (hval 1 3 v1 rfl rfl) h1
  obtain ⟨a2, rfl, rfl, rfl, w2⟩ := open_int Try.underlying3 (hval 2 3 v2 rfl rfl) h2
  clear hA0 hval0
  refine (walk ad len cap c a1 a2 W hl hr).mono fun e W' ⟨he, hg⟩ => ?_
  subst he
  exact ⟨_, rfl, _, _, _, [], _, [], hW', (trodAll_cons_mk (shut_bool Try.underlying4 _) trodAll_mk0), (trodAll_cons_mk (Below.trod laidOut (by kernel_rfl) (of_decide_eq_true (by kernel_rfl)) k0 hg lt0) (trodAll_cons_mk (Below.trod laidOut (by kernel_rfl) (of_decide_eq_true (by kernel_rfl)) k1 hg lt1) (trodAll_cons_mk (Below.trod laidOut (by kernel_rfl) (of_decide_eq_true (by kernel_rfl)) k2 hg lt2) trodAll_mk0))), rfl, hg.frame _, fun h => by cases h⟩

theorem over : Rows.fnExactLandedRow.holds Try.pinned (OpenSpec.ofChange Rows.fnExactLandedSpec) :=
  OpenClaim.holds_of_wide 11 Try.f11 rfl rfl rfl rfl rfl rfl rfl ⟨rfl, rfl, rfl, rfl, rfl⟩ rfl rfl rfl rfl rfl (by kernel_rfl) Try.func11 (by kernel_rfl)
    (of_decide_eq_true (by kernel_rfl)) (by unfold Func.isWrapper; first | (rw [if_pos (by decide +kernel)]; kernel_rfl) | (rw [if_neg (by decide +kernel)]; exact ⟨rfl, rfl⟩))
    (fun os started H enc _ => lifted os started H enc)

end Go.Proofs.Ytdgccdlaokbnhaa.fnExactLanded

namespace Go.Proofs.Ytdgccdlaokbnhaa
theorem fnExactLanded_holds : Rows.FnExactLandedSaid := fnExactLanded.over
#print axioms fnExactLanded_holds
end Go.Proofs.Ytdgccdlaokbnhaa
