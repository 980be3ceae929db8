/- Cost answers as the specification does at every list of items and prices, item, quantity and day; it writes into no argument and keeps nothing of one. -/
import Derived.Test.YtmbdeafpfdeigaaRows
import Derived.WalkKit
import Derived.ProofKit
import Derived.OpenShut
import Derived.ShutString
import Derived.ChangeOld
import Derived.Below
import Derived.Handy
import Derived.Carry
import Derived.Lib.SmallJoins
import Derived.Deep.SlicePairs
import Derived.Test.YtmbdeafpfdeigaaJi
import Derived.Test.YtmbdeafpfdeigaaIo
import Derived.Test.YtmbdeafpfdeigaaKr
namespace Go.Proofs.Ytmbdeafpfdeigaa.fnExactCost
open Go.ChangeShapes Go.WideShapes Go.ChangeAt Go.RowKit
set_option linter.unusedVariables false
set_option linter.unusedSimpArgs false

theorem own : ownKnob Try.prog.godebug = none := by kernel_rfl
theorem laidOut : laidOutB Try.prog = true := by kernel_rfl

set_option maxRecDepth 20000 in
set_option maxHeartbeats 4000000 in
theorem walk (ad : Option Addr) (len cap : Nat) (c : Nat → IT) (ai : Option Addr) (leni capi : Nat) (z : Nat → Int) (a2 : Int) (a3 : Int) (a4 : Int) (w : World) (hl : len ≤ maxLen) (hc : ∀ j, (c j).parn ≤ maxLen ∧ (c j).alsn ≤ maxLen ∧ (c j).name.size ≤ maxLen) (hr : ITr w ad len c) (hli : leni ≤ maxLen) (hri : IR w ai leni z) :
    Calls Try.prog 13 #[.slice ad len cap, .slice ai leni capi, .int .i64 a2, .int .i64 a3, .int .i64 a4] w fun e w' => e = .returned (.bool true) ∧ Below w.heap.size w w' := by
  have HR0 : Hid (ITr w ad len c) := hr
  have HRI : Hid (IR w ai leni z) := hri
  have hl0 : (len : Int) ≤ 9223372036854775807 := by have := hl; unfold maxLen at this; omega
  have hl1 : (leni : Int) ≤ 9223372036854775807 := by have := hli; unfold maxLen at this; omega
  have hc2 : Hid (∀ j, ((c j).parn : Int) ≤ 9223372036854775807 ∧ ((c j).alsn : Int) ≤ 9223372036854775807) := fun j => by have := hc j; unfold maxLen at this; omega
  have hc3 : Hid (∀ j, ((c j).name.size : Int) ≤ 9223372036854775807) := fun j => by have := hc j; unfold maxLen at this; omega
  have HC : Hid (∀ j, (c j).name.size ≤ maxLen) := fun j => (hc j).2.2
  clear hc
  clear hr hl hri hli
  by_cases hL : (1048576 : Int) < (leni : Int)
  · go_enter Try.func13, Try.ntmps13
    go_wp2
    go_returns
    exact ⟨rfl, Below.refl _ _⟩
  have hl2 : (leni : Int) ≤ 1048576 := by omega
  have tk0 : True := trivial
  go_enter Try.func13, Try.ntmps13
  go_wp2_with (first
      | (go_at_call 36; clear tk0; refine (szITS_any _ _ _ c _ _ (by omega) (by omega) hl0 hc2.out hc3.out HR0.out).mono ?_; rintro e w1 ⟨v0, rfl, hv0, b1⟩; have HS0 : Hid (Below w.heap.size w w1) := hid b1; clear b1; (rcases hv0 with rfl | ⟨hv0, hvv0, hb0, hvp⟩) <;> (try have HIZ : Hid (IZ len c) := hid (fun j hj => ⟨HC.out j, hvp j hj⟩)) <;> (try have HPB : Hid (∀ j, j < len → ((c j).parn : Int) ≤ 1048576 ∧ ((c j).alsn : Int) ≤ 1048576) := hid hvp) <;> (try clear hvp)))
  · go_returns
    exact ⟨rfl, by first | exact Below.refl _ _ | assumption | (exact HS0.out) | (exact HS1.out)⟩
  have hvn0 : ¬ v0 < 0 := by omega
  obtain ⟨CV, hCV⟩ : ∃ x, coV len leni c z a2 a3 a4 = x := ⟨_, rfl⟩
  obtain ⟨TV, hTV⟩ : ∃ x, coB len leni c z a2 a3 a4 = x := ⟨_, rfl⟩
  have HSP : Hid (∀ (ax : Option Addr) (kx : Nat) (ay : Option Addr) (ky : Nat) (W : World), ITr W ax len c → IR W ay leni z → Calls Try.prog 27 #[.slice ax len kx, .slice ay leni ky, .int .i64 a2, .int .i64 a3, .int .i64 a4] W fun e w' => e = .returned (.tuple #[.int .i64 CV, .bool TV]) ∧ Below W.heap.size W w') := fun ax kx ay ky W g1 g2 => by
    have := specCost_any ax ay len kx leni ky c z a2 a3 a4 W hb0 hl2 HIZ.out g1 g2
    rw [hCV, hTV] at this; exact this
  have HIM : Hid (∀ (ax : Option Addr) (kx : Nat) (ay : Option Addr) (ky : Nat) (W : World), ITr W ax len c → IR W ay leni z → Calls Try.prog 26 #[.slice ax len kx, .slice ay leni ky, .int .i64 a2, .int .i64 a3, .int .i64 a4] W fun e w' => e = .returned (.tuple #[.int .i64 CV, .bool TV]) ∧ Below W.heap.size W w') := fun ax kx ay ky W g1 g2 => by
    have := implCost_any ax ay len kx leni ky c z a2 a3 a4 W hb0 hl2 HIZ.out g1 g2
    rw [hCV, hTV] at this; exact this
  have htv : (TV != TV) = false := by simp
  have hcv : (CV != CV) = false := by simp
  clear hCV hTV
  have tok0 : True := trivial
  have tok1 : True := trivial
  have tok2 : True := trivial
  have tok3 : True := trivial
  have tok4 : True := trivial
  have tok5 : True := trivial
  have tok6 : True := trivial
  have tok7 : True := trivial
  have tok8 : True := trivial
  have tok9 : True := trivial
  go_wp2_with (first
      | (go_at_call 37; clear tok0; refine (toITA_any _ _ _ c _ hb0 HPB.out (HR0.out.below HS0.out)).mono ?_; rintro e w101 ⟨rfl, i_, b_⟩; have HB101 : Hid (Below w.heap.size w w101) := hid (bel_on HS0.out b_); have P0 := hid i_.1; clear i_ b_)
      | (go_at_call 47; clear tok1; refine (toIntS_any _ _ _ z _ hl2 (HRI.out.below HB101.out)).mono ?_; rintro e w102 ⟨rfl, i_, b_⟩; have HB102 : Hid (Below w.heap.size w w102) := hid (bel_on HB101.out b_); replace P0 := hid (P0.out.below b_); have P1 := hid i_.1; clear i_ b_)
      | (go_at_call 27; clear tok2; refine (HSP.out _ _ _ _ _ P0.out P1.out).mono ?_; rintro e w103 ⟨rfl, b_⟩; have HB103 : Hid (Below w.heap.size w w103) := hid (bel_on HB102.out b_); replace P0 := hid (P0.out.below b_); replace P1 := hid (P1.out.below b_); clear b_)
      | (go_at_call 37; clear tok3; refine (toITA_any _ _ _ c _ hb0 HPB.out (HR0.out.below HB103.out)).mono ?_; rintro e w104 ⟨rfl, i_, b_⟩; have HB104 : Hid (Below w.heap.size w w104) := hid (bel_on HB103.out b_); replace P0 := hid (P0.out.below b_); replace P1 := hid (P1.out.below b_); have Q0 := hid i_.1; clear i_ b_)
      | (go_at_call 47; clear tok4; refine (toIntS_any _ _ _ z _ hl2 (HRI.out.below HB104.out)).mono ?_; rintro e w105 ⟨rfl, i_, b_⟩; have HB105 : Hid (Below w.heap.size w w105) := hid (bel_on HB104.out b_); replace P0 := hid (P0.out.below b_); replace P1 := hid (P1.out.below b_); replace Q0 := hid (Q0.out.below b_); have Q1 := hid i_.1; clear i_ b_)
      | (go_at_call 26; clear tok5; refine (HIM.out _ _ _ _ _ Q0.out Q1.out).mono ?_; rintro e w106 ⟨rfl, b_⟩; have HB106 : Hid (Below w.heap.size w w106) := hid (bel_on HB105.out b_); replace P0 := hid (P0.out.below b_); replace P1 := hid (P1.out.below b_); replace Q0 := hid (Q0.out.below b_); replace Q1 := hid (Q1.out.below b_); clear b_)
      | (go_at_call 37; clear tok6; refine (toITA_any _ _ _ c _ hb0 HPB.out (HR0.out.below HB106.out)).mono ?_; rintro e w107 ⟨rfl, i_, b_⟩; have HB107 : Hid (Below w.heap.size w w107) := hid (bel_on HB106.out b_); replace P0 := hid (P0.out.below b_); replace P1 := hid (P1.out.below b_); replace Q0 := hid (Q0.out.below b_); replace Q1 := hid (Q1.out.below b_); have R0 := hid i_.1; clear i_ b_)
      | (go_at_call 39; clear tok7; refine (eqITS_same _ _ _ _ _ c _ hb0 HPB.out Q0.out R0.out).mono ?_; rintro e w108 ⟨rfl, b_⟩; have HB108 : Hid (Below w.heap.size w w108) := hid (bel_on HB107.out b_); replace P0 := hid (P0.out.below b_); replace P1 := hid (P1.out.below b_); replace Q0 := hid (Q0.out.below b_); replace Q1 := hid (Q1.out.below b_); replace R0 := hid (R0.out.below b_); clear b_)
      | (go_at_call 47; clear tok8; refine (toIntS_any _ _ _ z _ hl2 (HRI.out.below HB108.out)).mono ?_; rintro e w109 ⟨rfl, i_, b_⟩; have HB109 : Hid (Below w.heap.size w w109) := hid (bel_on HB108.out b_); replace P0 := hid (P0.out.below b_); replace P1 := hid (P1.out.below b_); replace Q0 := hid (Q0.out.below b_); replace Q1 := hid (Q1.out.below b_); replace R0 := hid (R0.out.below b_); have R1 := hid i_.1; clear i_ b_)
      | (go_at_call 40; clear tok9; refine (eqIntS_same _ _ _ _ _ z _ hl2 Q1.out R1.out).mono ?_; rintro e w110 ⟨rfl, b_⟩; have HB110 : Hid (Below w.heap.size w w110) := hid (bel_on HB109.out b_); replace P0 := hid (P0.out.below b_); replace P1 := hid (P1.out.below b_); replace Q0 := hid (Q0.out.below b_); replace Q1 := hid (Q1.out.below b_); replace R0 := hid (R0.out.below b_); replace R1 := hid (R1.out.below b_); clear b_))
  go_returns
  exact ⟨rfl, HB110.out⟩

set_option maxRecDepth 100000 in
theorem lifted (os : Os) (started : os.Started) (H : Type) (enc : TypeId × Value → H) :
    ReturnsInHanded {} Try.checked os 13 .any (Rows.fnExactCostSpec.pre6 enc Try.prog Try.f13 Rows.fnExactCostRow.domain false) (Rows.fnExactCostSpec.post enc Try.prog Try.f13 false true false false) := by
  refine returnsInHanded_of_change (C := Try.checked) own started (by kernel_rfl) Try.func13
    (ChangeSpec.witness6 (enc := enc) (C := Try.checked) false ⟨#[], #[.slice none 0 0, .slice none 0 0, .int .i64 0, .int .i64 0, .int .i64 0], []⟩ 8 (by kernel_rfl) (by kernel_rfl) (by kernel_rfl) (by kernel_rfl)) ?_
  intro W base args ds gs before hval0 hW hcnd _
  have hval : ∀ (j : Nat) t v, Try.f13.params[j]? = some t → args[j]? = some v → Value.okWide Try.prog W .any base t v := hval0
  have hW' := hW
  obtain ⟨p, q, hA0, hV, rfl, hfz, hnd⟩ := hW
  have hA : DataW.TrodAll enc Try.prog W 0 (fun _ => true) true Try.f13.params.toList args.toList ds p := hA0
  rw [Try.params13] at hA hval
  obtain ⟨v0, vs0, d0, ds0, p0, q0, hargs, rfl, rfl, h0, r0⟩ := trodAll_cons hA
  obtain ⟨v1, vs1, d1, ds1, p1, q1, rfl, rfl, rfl, h1, r1⟩ := trodAll_cons r0
  obtain ⟨v2, vs2, d2, ds2, p2, q2, rfl, rfl, rfl, h2, r2⟩ := trodAll_cons r1
  obtain ⟨v3, vs3, d3, ds3, p3, q3, rfl, rfl, rfl, h3, r3⟩ := trodAll_cons r2
  obtain ⟨v4, vs4, d4, ds4, p4, q4, rfl, rfl, rfl, h4, r4⟩ := trodAll_cons r3
  obtain ⟨rfl, rfl, rfl⟩ := trodAll_nil r4
  obtain rfl : args = #[v0, v1, v2, v3, v4] := by cases args; simp_all
  obtain ⟨rfl, rfl⟩ := trodVars_none hV
  have k0 := h0
  have lt0 : ∀ x ∈ p0, x.block < W.heap.size := by obtain ⟨m, hm⟩ := k0; exact DataW.trod_lt m _ _ _ hm
  have k1 := h1
  have lt1 : ∀ x ∈ p1, x.block < W.heap.size := by obtain ⟨m, hm⟩ := k1; exact DataW.trod_lt m _ _ _ hm
  have k2 := h2
  have lt2 : ∀ x ∈ p2, x.block < W.heap.size := by obtain ⟨m, hm⟩ := k2; exact DataW.trod_lt m _ _ _ hm
  have k3 := h3
  have lt3 : ∀ x ∈ p3, x.block < W.heap.size := by obtain ⟨m, hm⟩ := k3; exact DataW.trod_lt m _ _ _ hm
  have k4 := h4
  have lt4 : ∀ x ∈ p4, x.block < W.heap.size := by obtain ⟨m, hm⟩ := k4; exact DataW.trod_lt m _ _ _ hm
  obtain ⟨ad, len, cap, rfl⟩ := okWide_slice Try.underlying52 (hval 0 52 v0 rfl rfl)
  obtain ⟨c, hl, hc, hr⟩ := IT_of Try.underlying52 Try.underlying101 (by kernel_rfl) ⟨rfl, rfl, rfl, rfl, rfl⟩ ⟨by kernel_rfl, by kernel_rfl, by kernel_rfl, by kernel_rfl, by kernel_rfl⟩ Try.underlying9 Try.underlying3 Try.underlying4 Try.underlying99 Try.underlying99 Try.underlying141 (by kernel_rfl) ⟨rfl, rfl, rfl, rfl, rfl, rfl⟩ ⟨by kernel_rfl, by kernel_rfl, by kernel_rfl, by kernel_rfl, by kernel_rfl, by kernel_rfl⟩ Try.underlying3 Try.underlying3 Try.underlying3 Try.underlying3 Try.underlying3 Try.underlying3 h0
  obtain ⟨ai, leni, capi, rfl⟩ := okWide_slice Try.underlying24 (hval 1 24 v1 rfl rfl)
  obtain ⟨z, hli, hri⟩ := ints_of Try.underlying24 Try.underlying3 (by kernel_rfl) h1
  obtain ⟨a2, rfl, rfl, rfl, w2⟩ := open_int Try.underlying3 (hval 2 3 v2 rfl rfl) h2
  obtain ⟨a3, rfl, rfl, rfl, w3⟩ := open_int Try.underlying3 (hval 3 3 v3 rfl rfl) h3
  obtain ⟨a4, rfl, rfl, rfl, w4⟩ := open_int Try.underlying3 (hval 4 3 v4 rfl rfl) h4
  clear hA0 hval0
  refine (walk ad len cap c ai leni capi z a2 a3 a4 W hl hc hr hli hri).mono fun e W' ⟨he, hg⟩ => ?_
  subst he
  exact ⟨_, rfl, _, _, _, [], _, [], hW', (trodAll_cons_mk (shut_bool Try.underlying4 _) trodAll_mk0), (trodAll_cons_mk (Below.trod laidOut (by kernel_rfl) (of_decide_eq_true (by kernel_rfl)) k0 hg lt0) (trodAll_cons_mk (Below.trod laidOut (by kernel_rfl) (of_decide_eq_true (by kernel_rfl)) k1 hg lt1) (trodAll_cons_mk (Below.trod laidOut (by kernel_rfl) (of_decide_eq_true (by kernel_rfl)) k2 hg lt2) (trodAll_cons_mk (Below.trod laidOut (by kernel_rfl) (of_decide_eq_true (by kernel_rfl)) k3 hg lt3) (trodAll_cons_mk (Below.trod laidOut (by kernel_rfl) (of_decide_eq_true (by kernel_rfl)) k4 hg lt4) trodAll_mk0))))), rfl, hg.frame _, fun h => by cases h⟩

theorem over : Rows.fnExactCostRow.holds Try.pinned (OpenSpec.ofChange Rows.fnExactCostSpec) :=
  OpenClaim.holds_of_wide 13 Try.f13 rfl rfl rfl rfl rfl rfl rfl ⟨rfl, rfl, rfl, rfl, rfl⟩ rfl rfl rfl rfl rfl (by kernel_rfl) Try.func13 (by kernel_rfl)
    (of_decide_eq_true (by kernel_rfl)) (by unfold Func.isWrapper; first | (rw [if_pos (by decide +kernel)]; kernel_rfl) | (rw [if_neg (by decide +kernel)]; exact ⟨rfl, rfl⟩))
    (fun os started H enc _ => lifted os started H enc)

end Go.Proofs.Ytmbdeafpfdeigaa.fnExactCost

namespace Go.Proofs.Ytmbdeafpfdeigaa
theorem fnExactCost_holds : Rows.FnExactCostSaid := fnExactCost.over
#print axioms fnExactCost_holds
end Go.Proofs.Ytmbdeafpfdeigaa
