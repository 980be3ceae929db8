/- FnExactShares: at every total and every list of weights that the size test lets through, the program's Shares answers as the model's, leaves its argument as it was and owns its answer's memory. No conditions. -/
import Derived.Test.YtjlniinahfgakaaRows
import Derived.WalkKit
import Derived.ProofKit
import Derived.OpenShut
import Derived.ShutString
import Derived.ChangeOld
import Derived.Below
import Derived.Handy
import Derived.Carry
import Derived.Lib.SmallJoins
import Derived.Deep.SlicePairs
import Derived.Test.YtjlniinahfgakaaIo
import Derived.Test.YtjlniinahfgakaaSs
namespace Go.Proofs.Ytjlniinahfgakaa.fnExactShares
open Go.ChangeShapes Go.WideShapes Go.ChangeAt Go.RowKit
set_option linter.unusedVariables false
set_option linter.unusedSimpArgs false

theorem own : ownKnob Try.prog.godebug = none := by kernel_rfl
theorem laidOut : laidOutB Try.prog = true := by kernel_rfl

set_option maxRecDepth 20000 in
set_option maxHeartbeats 4000000 in
theorem walk (a0 : Int) (ai : Option Addr) (leni capi : Nat) (z : Nat → Int) (w : World) (hli : leni ≤ maxLen) (hri : IR w ai leni z) :
    Calls Try.prog 6 #[.int .i64 a0, .slice ai leni capi] w fun e w' => e = .returned (.bool true) ∧ Below w.heap.size w w' := by
  by_cases hbig : (leni : Int) > 1048576
  · have hlm : (leni : Int) ≤ 9223372036854775807 := by unfold maxLen at hli; omega
    go_enter Try.func6, Try.ntmps6
    go_wp2
    go_returns
    exact ⟨rfl, Below.refl _ _⟩
  have hli2 : (leni : Int) ≤ 1048576 := by omega
  have HZ : Hid (IR w ai leni z) := hri
  obtain ⟨M, hM⟩ : ∃ M, shM a0 leni z = M := ⟨_, rfl⟩
  have hM1 : M ≤ 200 := hM ▸ shM_le a0 leni z
  have hM2 : (M : Int) ≤ 1048576 := by omega
  have HIM : Hid (∀ (ad : Option Addr) (cap : Nat) (w : World), IR w ad leni z → Calls Try.prog 14 #[.int .i64 a0, .slice ad leni cap] w (NewI M (intL (shV a0 leni z) M) w)) := fun ad cap w h => hM ▸ implShares_any a0 ad leni cap z w hli2 h
  have HSP : Hid (∀ (ad : Option Addr) (cap : Nat) (w : World), IR w ad leni z → Calls Try.prog 12 #[.int .i64 a0, .slice ad leni cap] w (NewI M (intL (shV a0 leni z) M) w)) := fun ad cap w h => hM ▸ specShares_any a0 ad leni cap z w hli2 h
  have hzz : Hid (∀ j, j < M → (intL (shV a0 leni z) M)[j]? = some (.int .i64 (shV a0 leni z j))) := fun j hj => intL_get hj
  clear hri hM
  have tok1 : True := trivial
  have tok2 : True := trivial
  have tok3 : True := trivial
  have tok4 : True := trivial
  have tok5 : True := trivial
  have tok6 : True := trivial
  have tok7 : True := trivial
  have tok8 : True := trivial
  have tok9 : True := trivial
  have tok10 : True := trivial
  have tok11 : True := trivial
  have tok12 : True := trivial
  have tok13 : True := trivial
  have tok14 : True := trivial
  have tok15 : True := trivial
  go_enter Try.func6, Try.ntmps6
  go_wp2_with (first
    | (go_at_call 23; clear tok1; refine (toIntS_any _ _ _ z _ hli2 HZ.out).mono ?_; rintro e w1 ⟨rfl, ⟨i1, _⟩, b1⟩; have A_1 : Hid (IR w1 (some ⟨w.heap.size, 0, none⟩) leni (z)) := i1)
    | (go_at_call 12; clear tok2; refine (HSP.out _ _ w1 A_1.out).mono ?_; rintro e w2 ⟨ad0, cap0, rfl, o2, b2⟩; have O_2 : Hid (w2.ownsRow w1.heap.size 3 1 (.slice ad0 M cap0) M (intL (shV a0 leni z) M)) := o2; replace b2 := bel_on b1 b2)
    | (go_at_call 23; clear tok3; refine (toIntS_any _ _ _ z w2 hli2 (HZ.out.below b2)).mono ?_; rintro e w3 ⟨rfl, ⟨i3, cs3, C3, s3⟩, b3⟩; have O_3 : Hid (w3.ownsRow w1.heap.size 3 1 (.slice ad0 M cap0) M (intL (shV a0 leni z) M)) := row_below O_2.out b3; clear O_2; have X_3 : Hid (IR w3 (some ⟨w2.heap.size, 0, none⟩) leni (z)) := i3; have C_3 : Hid (CB w3 w2.heap.size cs3 3) := C3; replace b3 := bel_on b2 b3; have S3 : Hid (cs3.size = leni) := s3; have Z3 : Hid (w2.heap.size < w3.heap.size) := C3.lt; have QO : Hid (∀ g, Value.ownBlock (.slice ad0 M cap0) = some g → g < w2.heap.size) := (fun g hg => (o2.lt g hg).2); clear o2)
    | (go_at_call 14; clear tok4; refine (HIM.out _ _ w3 X_3.out).mono ?_; rintro e w4 ⟨adg, capg, rfl, o4, b4⟩; have O_4 : Hid (w4.ownsRow w1.heap.size 3 1 (.slice ad0 M cap0) M (intL (shV a0 leni z) M)) := row_below O_3.out b4; clear O_3; have X_4 : Hid (IR w4 (some ⟨w2.heap.size, 0, none⟩) leni (z)) := X_3.out.below b4; clear X_3; have C_4 : Hid (CB w4 w2.heap.size cs3 3) := C_3.out.below b4 C_3.out.lt; clear C_3; have G_4 : Hid (w4.ownsRow w3.heap.size 3 1 (.slice adg M capg) M (intL (shV a0 leni z) M)) := o4; replace b4 := bel_on b3 b4)
    | (go_at_call 24; clear tok5; refine (eqIntS_same _ _ _ _ _ _ w4 hM2 (row_IR G_4.out hzz.out) (row_IR O_4.out hzz.out)).mono ?_; rintro e w5 ⟨rfl, b5⟩; have O_5 : Hid (w5.ownsRow w1.heap.size 3 1 (.slice ad0 M cap0) M (intL (shV a0 leni z) M)) := row_below O_4.out b5; clear O_4; have X_5 : Hid (IR w5 (some ⟨w2.heap.size, 0, none⟩) leni (z)) := X_4.out.below b5; clear X_4; have C_5 : Hid (CB w5 w2.heap.size cs3 3) := C_4.out.below b5 C_4.out.lt; clear C_4; have G_5 : Hid (w5.ownsRow w3.heap.size 3 1 (.slice adg M capg) M (intL (shV a0 leni z) M)) := row_below G_4.out b5; clear G_4; replace b5 := bel_on b4 b5)
    | (go_at_call 23; clear tok6; refine (toIntS_any _ _ _ z w5 hli2 (HZ.out.below b5)).mono ?_; rintro e w6 ⟨rfl, ⟨i6, _⟩, b6⟩; have O_6 : Hid (w6.ownsRow w1.heap.size 3 1 (.slice ad0 M cap0) M (intL (shV a0 leni z) M)) := row_below O_5.out b6; clear O_5; have X_6 : Hid (IR w6 (some ⟨w2.heap.size, 0, none⟩) leni (z)) := X_5.out.below b6; clear X_5; have C_6 : Hid (CB w6 w2.heap.size cs3 3) := C_5.out.below b6 C_5.out.lt; clear C_5; have G_6 : Hid (w6.ownsRow w3.heap.size 3 1 (.slice adg M capg) M (intL (shV a0 leni z) M)) := row_below G_5.out b6; clear G_5; have J_6 : Hid (IR w6 (some ⟨w5.heap.size, 0, none⟩) leni (z)) := i6; replace b6 := bel_on b5 b6)
    | (go_at_call 24; clear tok7; refine (eqIntS_same _ _ _ _ _ _ w6 hli2 X_6.out J_6.out).mono ?_; rintro e w7 ⟨rfl, b7⟩; have O_7 : Hid (w7.ownsRow w1.heap.size 3 1 (.slice ad0 M cap0) M (intL (shV a0 leni z) M)) := row_below O_6.out b7; clear O_6; have C_7 : Hid (CB w7 w2.heap.size cs3 3) := C_6.out.below b7 C_6.out.lt; clear C_6; have G_7 : Hid (w7.ownsRow w3.heap.size 3 1 (.slice adg M capg) M (intL (shV a0 leni z) M)) := row_below G_6.out b7; clear G_6; replace b7 := bel_on b6 b7)
    | (go_at_call 25; clear tok8; refine (markIntS_any _ _ _ w.heap.size _ w7 hli2 (row_of_block C_7.out S3.out b2.size (by omega))).mono ?_; rintro e w8 ⟨rfl, _, kk, b8⟩; have O_8 : Hid (w8.ownsRow w1.heap.size 3 1 (.slice ad0 M cap0) M (intL (shV a0 leni z) M)) := row_block O_7.out (fun g hg => kk g (O_7.out.lt g hg).2 (fun q => by have h1 := QO.out g hg; simp only [Value.ownBlock, Option.some.injEq] at q; omega)); clear O_7; have G_8 : Hid (w8.ownsRow w3.heap.size 3 1 (.slice adg M capg) M (intL (shV a0 leni z) M)) := row_block G_7.out (fun g hg => kk g (G_7.out.lt g hg).2 (fun q => by have h1 := (G_7.out.lt g hg).1; have h2 := Z3.out; simp only [Value.ownBlock, Option.some.injEq] at q; omega)); clear G_7; replace b8 : Below w.heap.size w w8 := b7.trans (b8); clear kk)
    | (go_at_call 24; clear tok9; refine (eqIntS_same _ _ _ _ _ _ w8 hM2 (row_IR G_8.out hzz.out) (row_IR O_8.out hzz.out)).mono ?_; rintro e w9 ⟨rfl, b9⟩; have O_9 : Hid (w9.ownsRow w1.heap.size 3 1 (.slice ad0 M cap0) M (intL (shV a0 leni z) M)) := row_below O_8.out b9; clear O_8; have G_9 : Hid (w9.ownsRow w3.heap.size 3 1 (.slice adg M capg) M (intL (shV a0 leni z) M)) := row_below G_8.out b9; clear G_8; replace b9 := bel_on b8 b9)
    | (go_at_call 25; clear tok10; refine (markIntS_any _ _ _ w3.heap.size _ w9 hM2 G_9.out).mono ?_; rintro e w10 ⟨rfl, gb, kk, b10⟩; have O_10 : Hid (w10.ownsRow w1.heap.size 3 1 (.slice ad0 M cap0) M (intL (shV a0 leni z) M)) := row_block O_9.out (fun g hg => kk g (O_9.out.lt g hg).2 (fun q => by have h1 := QO.out g hg; have h2 := (G_9.out.lt g q.symm).1; have h3 := Z3.out; omega)); clear O_9; have H_10 : Hid (IR w10 adg M (fun j => (j : Int) + 1)) := gb; replace b10 : Below w.heap.size w w10 := b9.trans (b10.mono (by have := b3.size; omega)); clear kk)
    | (go_at_call 26; clear tok11; refine (heldIntS_any _ _ _ w10 hM2 H_10.out).mono ?_; rintro e wh ⟨rfl, ew⟩; replace ew := ew.symm; subst ew)
    | (go_at_call 23; clear tok12; refine (toIntS_any _ _ _ z w10 hli2 (HZ.out.below b10)).mono ?_; rintro e w11 ⟨rfl, ⟨i11, _⟩, b11⟩; have O_11 : Hid (w11.ownsRow w1.heap.size 3 1 (.slice ad0 M cap0) M (intL (shV a0 leni z) M)) := row_below O_10.out b11; clear O_10; have H_11 : Hid (IR w11 adg M (fun j => (j : Int) + 1)) := H_10.out.below b11; clear H_10; have K_11 : Hid (IR w11 (some ⟨w10.heap.size, 0, none⟩) leni (z)) := i11; replace b11 := bel_on b10 b11)
    | (go_at_call 14; clear tok13; refine (HIM.out _ _ w11 K_11.out).mono ?_; rintro e w12 ⟨adh, caph, rfl, oh, b12⟩; have O_12 : Hid (w12.ownsRow w1.heap.size 3 1 (.slice ad0 M cap0) M (intL (shV a0 leni z) M)) := row_below O_11.out b12; clear O_11; have H_12 : Hid (IR w12 adg M (fun j => (j : Int) + 1)) := H_11.out.below b12; clear H_11; have E_12 : Hid (w12.ownsRow w11.heap.size 3 1 (.slice adh M caph) M (intL (shV a0 leni z) M)) := oh; replace b12 := bel_on b11 b12)
    | (go_at_call 24; clear tok14; refine (eqIntS_same _ _ _ _ _ _ w12 hM2 (row_IR E_12.out hzz.out) (row_IR O_12.out hzz.out)).mono ?_; rintro e w13 ⟨rfl, b13⟩; have O_13 : Hid (w13.ownsRow w1.heap.size 3 1 (.slice ad0 M cap0) M (intL (shV a0 leni z) M)) := row_below O_12.out b13; clear O_12; have H_13 : Hid (IR w13 adg M (fun j => (j : Int) + 1)) := H_12.out.below b13; clear H_12; have E_13 : Hid (w13.ownsRow w11.heap.size 3 1 (.slice adh M caph) M (intL (shV a0 leni z) M)) := row_below E_12.out b13; clear E_12; replace b13 := bel_on b12 b13)
    | (go_at_call 26; clear tok15; refine (heldIntS_any _ _ _ w13 hM2 H_13.out).mono ?_; rintro e wh ⟨rfl, ew⟩; replace ew := ew.symm; subst ew))
  go_returns
  exact ⟨rfl, b13⟩

set_option maxRecDepth 100000 in
theorem lifted (os : Os) (started : os.Started) (H : Type) (enc : TypeId × Value → H) :
    ReturnsInHanded {} Try.checked os 6 .any (Rows.fnExactSharesSpec.pre6 enc Try.prog Try.f6 Rows.fnExactSharesRow.domain false) (Rows.fnExactSharesSpec.post enc Try.prog Try.f6 false true false false) := by
  refine returnsInHanded_of_change (C := Try.checked) own started (by kernel_rfl) Try.func6
    (ChangeSpec.witness6 (enc := enc) (C := Try.checked) false ⟨#[], #[.int .i64 0, .slice none 0 0], []⟩ 8 (by kernel_rfl) (by kernel_rfl) (by kernel_rfl) (by kernel_rfl)) ?_
  intro W base args ds gs before hval0 hW hcnd _
  have hval : ∀ (j : Nat) t v, Try.f6.params[j]? = some t → args[j]? = some v → Value.okWide Try.prog W .any base t v := hval0
  have hW' := hW
  obtain ⟨p, q, hA0, hV, rfl, hfz, hnd⟩ := hW
  have hA : DataW.TrodAll enc Try.prog W 0 (fun _ => true) true Try.f6.params.toList args.toList ds p := hA0
  rw [Try.params6] at hA hval
  obtain ⟨v0, vs0, d0, ds0, p0, q0, hargs, rfl, rfl, h0, r0⟩ := trodAll_cons hA
  obtain ⟨v1, vs1, d1, ds1, p1, q1, rfl, rfl, rfl, h1, r1⟩ := trodAll_cons r0
  obtain ⟨rfl, rfl, rfl⟩ := trodAll_nil r1
  obtain rfl : args = #[v0, v1] := by cases args; simp_all
  obtain ⟨rfl, rfl⟩ := trodVars_none hV
  have k0 := h0
  have lt0 : ∀ x ∈ p0, x.block < W.heap.size := by obtain ⟨m, hm⟩ := k0; exact DataW.trod_lt m _ _ _ hm
  have k1 := h1
  have lt1 : ∀ x ∈ p1, x.block < W.heap.size := by obtain ⟨m, hm⟩ := k1; exact DataW.trod_lt m _ _ _ hm
  obtain ⟨a0, rfl, rfl, rfl, w0⟩ := open_int Try.underlying3 (hval 0 3 v0 rfl rfl) h0
  obtain ⟨ai, leni, capi, rfl⟩ := okWide_slice Try.underlying24 (hval 1 24 v1 rfl rfl)
  obtain ⟨z, hli, hri⟩ := ints_of Try.underlying24 Try.underlying3 (by kernel_rfl) h1
  clear hA0 hval0
  refine (walk a0 ai leni capi z W hli hri).mono fun e W' ⟨he, hg⟩ => ?_
  subst he
  exact ⟨_, rfl, _, _, _, [], _, [], hW', (trodAll_cons_mk (shut_bool Try.underlying4 _) trodAll_mk0), (trodAll_cons_mk (Below.trod laidOut (by kernel_rfl) (of_decide_eq_true (by kernel_rfl)) k0 hg lt0) (trodAll_cons_mk (Below.trod laidOut (by kernel_rfl) (of_decide_eq_true (by kernel_rfl)) k1 hg lt1) trodAll_mk0)), rfl, hg.frame _, fun h => by cases h⟩

theorem over : Rows.fnExactSharesRow.holds Try.pinned (OpenSpec.ofChange Rows.fnExactSharesSpec) :=
  OpenClaim.holds_of_wide 6 Try.f6 rfl rfl rfl rfl rfl rfl rfl ⟨rfl, rfl, rfl, rfl, rfl⟩ rfl rfl rfl rfl rfl (by kernel_rfl) Try.func6 (by kernel_rfl)
    (of_decide_eq_true (by kernel_rfl)) (by unfold Func.isWrapper; first | (rw [if_pos (by decide +kernel)]; kernel_rfl) | (rw [if_neg (by decide +kernel)]; exact ⟨rfl, rfl⟩))
    (fun os started H enc _ => lifted os started H enc)

end Go.Proofs.Ytjlniinahfgakaa.fnExactShares

namespace Go.Proofs.Ytjlniinahfgakaa
theorem fnExactShares_holds : Rows.FnExactSharesSaid := fnExactShares.over
#print axioms fnExactShares_holds
end Go.Proofs.Ytjlniinahfgakaa
