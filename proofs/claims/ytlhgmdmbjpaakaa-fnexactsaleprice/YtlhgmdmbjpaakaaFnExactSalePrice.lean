/- At every argument SalePrice of the program answers as the model's SalePrice and leaves its arguments; nothing older is written. -/
import Derived.Test.YtlhgmdmbjpaakaaRows
import Derived.WalkKit
import Derived.ProofKit
import Derived.OpenShut
import Derived.ShutString
import Derived.ChangeOld
import Derived.Below
import Derived.Handy
import Derived.Carry
import Derived.Lib.SmallJoins
import Derived.Deep.SlicePairs
import Derived.Test.YtlhgmdmbjpaakaaSe
import Derived.Test.YtlhgmdmbjpaakaaIo
namespace Go.Proofs.Ytlhgmdmbjpaakaa.fnExactSalePrice
open Go.ChangeShapes Go.WideShapes Go.ChangeAt Go.RowKit
set_option linter.unusedVariables false
set_option linter.unusedSimpArgs false

theorem own : ownKnob Try.prog.godebug = none := by kernel_rfl
theorem laidOut : laidOutB Try.prog = true := by kernel_rfl

set_option maxRecDepth 20000 in
set_option maxHeartbeats 4000000 in
theorem walk (a0 : Int) (a1 : Int) (ad : Option Addr) (len cap : Nat) (c : Nat → RU2) (ai : Option Addr) (leni capi : Nat) (z : Nat → Int) (w : World) (hl : len ≤ maxLen) (hr : RUr w ad len c) (hli : leni ≤ maxLen) (hri : IR w ai leni z) :
    Calls Try.prog 8 #[.int .i64 a0, .int .i64 a1, .slice ad len cap, .slice ai leni capi] w fun e w' => e = .returned (.bool true) ∧ Below w.heap.size w w' := by
  have HR : Hid (RUr w ad len c) := hr
  have HI : Hid (IR w ai leni z) := hri
  have hl2 : (len : Int) ≤ 9223372036854775807 := by unfold maxLen at hl; omega
  clear hr hri
  by_cases hbig : (1048576 : Int) < (leni : Int)
  · go_enter Try.func8, Try.ntmps8
    go_wp2
    go_returns
    exact ⟨rfl, Below.refl _ _⟩
  have hib : (leni : Int) ≤ 1048576 := by omega
  have tok1 : True := trivial
  have tok2 : True := trivial
  have tok3 : True := trivial
  have tok4 : True := trivial
  go_enter Try.func8, Try.ntmps8
  go_wp2_with (first
    | (go_at_call 28; refine (szRU2S_any _ _ _ _ _ (by omega) (by omega) hl2).mono ?_; rintro e w1 ⟨v, rfl, hv, ew⟩; replace ew := ew.symm; subst ew; rcases hv with rfl | ⟨hv, hv1, hb⟩)
    | (go_at_call 30; clear tok1; refine (toRU2S_any _ _ _ c _ hb HR.out).mono ?_; rintro e w2 ⟨rfl, ⟨i2, _⟩, b2⟩; have HI2 := hid i2; have HB2 : Hid (Below w.heap.size w w2) := b2; clear i2 b2)
    | (go_at_call 34; clear tok3; refine (toIntS_any _ _ _ z _ hib (HI.out.below HB2.out)).mono ?_; rintro e w3 ⟨rfl, ⟨i3, _⟩, b3⟩; have HI3 := hid (HI2.out.below b3); have HJ3 := hid i3; have HB3 : Hid (Below w.heap.size w w3) := hid (bel_on HB2.out b3); clear i3 b3)
    | (go_at_call 33; refine (specSale_any _ _ _ _ _ c _ _ _ _ z _ hb hib HI3.out HJ3.out).mono ?_; rintro e w4 ⟨rfl, b4⟩; have HB4 : Hid (Below w.heap.size w w4) := hid (bel_on HB3.out b4); clear b4)
    | (go_at_call 30; clear tok2; refine (toRU2S_any _ _ _ c _ hb (HR.out.below HB4.out)).mono ?_; rintro e w5 ⟨rfl, ⟨i5, _⟩, b5⟩; have HI5 := hid i5; have HB5 : Hid (Below w.heap.size w w5) := hid (bel_on HB4.out b5); clear i5 b5)
    | (go_at_call 34; clear tok4; refine (toIntS_any _ _ _ z _ hib (HI.out.below HB5.out)).mono ?_; rintro e w6 ⟨rfl, ⟨i6, _⟩, b6⟩; have HI6 := hid (HI5.out.below b6); have HJ6 := hid i6; have HB6 : Hid (Below w.heap.size w w6) := hid (bel_on HB5.out b6); clear i6 b6)
    | (go_at_call 35; refine (implSale_any _ _ _ _ _ c _ _ _ z _ hb hib HI6.out HJ6.out).mono ?_; rintro e w7 ⟨rfl, b7⟩; have HI7 := hid (HI6.out.below b7); have HJ7 := hid (HJ6.out.below b7); have HB7 : Hid (Below w.heap.size w w7) := hid (bel_on HB6.out b7); clear b7)
    | (go_at_call 30; refine (toRU2S_any _ _ _ c _ hb (HR.out.below HB7.out)).mono ?_; rintro e w8 ⟨rfl, ⟨i8, _⟩, b8⟩; have HI8 := hid (HI7.out.below b8); have HJ8 := hid (HJ7.out.below b8); have HK8 := hid i8; have HB8 : Hid (Below w.heap.size w w8) := hid (bel_on HB7.out b8); clear i8 b8)
    | (go_at_call 32; refine (eqRU2S_same _ _ _ _ _ c _ hb HI8.out HK8.out).mono ?_; rintro e w9 ⟨rfl, b9⟩; have HJ9 := hid (HJ8.out.below b9); have HB9 : Hid (Below w.heap.size w w9) := hid (bel_on HB8.out b9); clear b9)
    | (go_at_call 34; refine (toIntS_any _ _ _ z _ hib (HI.out.below HB9.out)).mono ?_; rintro e w10 ⟨rfl, ⟨i10, _⟩, b10⟩; have HJ10 := hid (HJ9.out.below b10); have HK10 := hid i10; have HB10 : Hid (Below w.heap.size w w10) := hid (bel_on HB9.out b10); clear i10 b10)
    | (go_at_call 36; refine (eqIntS_same _ _ _ _ _ z _ hib HJ10.out HK10.out).mono ?_; rintro e w11 ⟨rfl, b11⟩; have HB11 : Hid (Below w.heap.size w w11) := hid (bel_on HB10.out b11); clear b11))
  · go_returns
    exact ⟨rfl, Below.refl _ _⟩
  · go_returns
    exact ⟨rfl, HB11.out⟩

set_option maxRecDepth 100000 in
theorem lifted (os : Os) (started : os.Started) (H : Type) (enc : TypeId × Value → H) :
    ReturnsInHanded {} Try.checked os 8 .any (Rows.fnExactSalePriceSpec.pre6 enc Try.prog Try.f8 Rows.fnExactSalePriceRow.domain false) (Rows.fnExactSalePriceSpec.post enc Try.prog Try.f8 false true false false) := by
  refine returnsInHanded_of_change (C := Try.checked) own started (by kernel_rfl) Try.func8
    (ChangeSpec.witness6 (enc := enc) (C := Try.checked) false ⟨#[], #[.int .i64 0, .int .i64 0, .slice none 0 0, .slice none 0 0], []⟩ 8 (by kernel_rfl) (by kernel_rfl) (by kernel_rfl) (by kernel_rfl)) ?_
  intro W base args ds gs before hval0 hW hcnd _
  have hval : ∀ (j : Nat) t v, Try.f8.params[j]? = some t → args[j]? = some v → Value.okWide Try.prog W .any base t v := hval0
  have hW' := hW
  obtain ⟨p, q, hA0, hV, rfl, hfz, hnd⟩ := hW
  have hA : DataW.TrodAll enc Try.prog W 0 (fun _ => true) true Try.f8.params.toList args.toList ds p := hA0
  rw [Try.params8] at hA hval
  obtain ⟨v0, vs0, d0, ds0, p0, q0, hargs, rfl, rfl, h0, r0⟩ := trodAll_cons hA
  obtain ⟨v1, vs1, d1, ds1, p1, q1, rfl, rfl, rfl, h1, r1⟩ := trodAll_cons r0
  obtain ⟨v2, vs2, d2, ds2, p2, q2, rfl, rfl, rfl, h2, r2⟩ := trodAll_cons r1
  obtain ⟨v3, vs3, d3, ds3, p3, q3, rfl, rfl, rfl, h3, r3⟩ := trodAll_cons r2
  obtain ⟨rfl, rfl, rfl⟩ := trodAll_nil r3
  obtain rfl : args = #[v0, v1, v2, v3] := by cases args; simp_all
  obtain ⟨rfl, rfl⟩ := trodVars_none hV
  have k0 := h0
  have lt0 : ∀ x ∈ p0, x.block < W.heap.size := by obtain ⟨m, hm⟩ := k0; exact DataW.trod_lt m _ _ _ hm
  have k1 := h1
  have lt1 : ∀ x ∈ p1, x.block < W.heap.size := by obtain ⟨m, hm⟩ := k1; exact DataW.trod_lt m _ _ _ hm
  have k2 := h2
  have lt2 : ∀ x ∈ p2, x.block < W.heap.size := by obtain ⟨m, hm⟩ := k2; exact DataW.trod_lt m _ _ _ hm
  have k3 := h3
  have lt3 : ∀ x ∈ p3, x.block < W.heap.size := by obtain ⟨m, hm⟩ := k3; exact DataW.trod_lt m _ _ _ hm
  obtain ⟨a0, rfl, rfl, rfl, w0⟩ := open_int Try.underlying3 (hval 0 3 v0 rfl rfl) h0
  obtain ⟨a1, rfl, rfl, rfl, w1⟩ := open_int Try.underlying3 (hval 1 3 v1 rfl rfl) h1
  obtain ⟨ad, len, cap, rfl⟩ := okWide_slice Try.underlying51 (hval 2 51 v2 rfl rfl)
  obtain ⟨c, hl, hr⟩ := RU2_of Try.underlying51 Try.underlying114 (by kernel_rfl) ⟨rfl, rfl⟩ ⟨by kernel_rfl, by kernel_rfl⟩ Try.underlying3 Try.underlying3 h2
  obtain ⟨ai, leni, capi, rfl⟩ := okWide_slice Try.underlying38 (hval 3 38 v3 rfl rfl)
  obtain ⟨z, hli, hri⟩ := ints_of Try.underlying38 Try.underlying3 (by kernel_rfl) h3
  clear hA0 hval0
  refine (walk a0 a1 ad len cap c ai leni capi z W hl hr hli hri).mono fun e W' ⟨he, hg⟩ => ?_
  subst he
  exact ⟨_, rfl, _, _, _, [], _, [], hW', (trodAll_cons_mk (shut_bool Try.underlying4 _) trodAll_mk0), (trodAll_cons_mk (Below.trod laidOut (by kernel_rfl) (of_decide_eq_true (by kernel_rfl)) k0 hg lt0) (trodAll_cons_mk (Below.trod laidOut (by kernel_rfl) (of_decide_eq_true (by kernel_rfl)) k1 hg lt1) (trodAll_cons_mk (Below.trod laidOut (by kernel_rfl) (of_decide_eq_true (by kernel_rfl)) k2 hg lt2) (trodAll_cons_mk (Below.trod laidOut (by kernel_rfl) (of_decide_eq_true (by kernel_rfl)) k3 hg lt3) trodAll_mk0)))), rfl, hg.frame _, fun h => by cases h⟩

theorem over : Rows.fnExactSalePriceRow.holds Try.pinned (OpenSpec.ofChange Rows.fnExactSalePriceSpec) :=
  OpenClaim.holds_of_wide 8 Try.f8 rfl rfl rfl rfl rfl rfl rfl ⟨rfl, rfl, rfl, rfl, rfl⟩ rfl rfl rfl rfl rfl (by kernel_rfl) Try.func8 (by kernel_rfl)
    (of_decide_eq_true (by kernel_rfl)) (by unfold Func.isWrapper; first | (rw [if_pos (by decide +kernel)]; kernel_rfl) | (rw [if_neg (by decide +kernel)]; exact ⟨rfl, rfl⟩))
    (fun os started H enc _ => lifted os started H enc)

end Go.Proofs.Ytlhgmdmbjpaakaa.fnExactSalePrice

namespace Go.Proofs.Ytlhgmdmbjpaakaa
theorem fnExactSalePrice_holds : Rows.FnExactSalePriceSaid := fnExactSalePrice.over
#print axioms fnExactSalePrice_holds
end Go.Proofs.Ytlhgmdmbjpaakaa
