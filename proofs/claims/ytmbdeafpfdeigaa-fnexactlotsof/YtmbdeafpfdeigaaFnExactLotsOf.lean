/- LotsOf answers as the specification does at every lots and every list of what is missing, in memory of its own; it writes into no argument and keeps nothing of one; no condition. -/
import Derived.Test.YtmbdeafpfdeigaaRows
import Derived.WalkKit
import Derived.ProofKit
import Derived.OpenShut
import Derived.ShutString
import Derived.ChangeOld
import Derived.Below
import Derived.Handy
import Derived.Carry
import Derived.Lib.SmallJoins
import Derived.Deep.SlicePairs
import Derived.Test.YtmbdeafpfdeigaaIo
import Derived.Test.YtmbdeafpfdeigaaQu
namespace Go.Proofs.Ytmbdeafpfdeigaa.fnExactLotsOf
open Go.ChangeShapes Go.WideShapes Go.ChangeAt Go.RowKit
set_option linter.unusedVariables false
set_option linter.unusedSimpArgs false

theorem own : ownKnob Try.prog.godebug = none := by kernel_rfl
theorem laidOut : laidOutB Try.prog = true := by kernel_rfl

set_option maxRecDepth 20000 in
set_option maxHeartbeats 4000000 in
theorem walk (lk lz lu lh : Int) (ai : Option Addr) (leni capi : Nat) (z : Nat → Int) (w : World) (hli : leni ≤ maxLen) (hri : IR w ai leni z) :
    Calls Try.prog 14 #[.agg #[.int .i64 lk, .int .i64 lz, .int .i64 lu, .int .i64 lh], .slice ai leni capi] w fun e w' => e = .returned (.bool true) ∧ Below w.heap.size w w' := by
  have hl0 : (leni : Int) ≤ 9223372036854775807 := by have := hli; unfold maxLen at this; omega
  have HRV : Hid (IR w ai leni z) := hri
  clear hri hli
  by_cases hL : (1048576 : Int) < (leni : Int)
  · go_enter Try.func14, Try.ntmps14
    go_wp2
    go_returns
    exact ⟨rfl, (Below.refl _ _).alloc (Nat.le_refl _) _⟩
  have hb0 : (leni : Int) ≤ 1048576 := by omega
  obtain ⟨v, rfl⟩ : ∃ x, x = w := ⟨w, rfl⟩
  obtain ⟨w, hw⟩ : ∃ x, x = v.alloc (.cells #[.int .i64 lk, .int .i64 lz, .int .i64 lu, .int .i64 lh] 62 (0, 0)) := ⟨_, rfl⟩
  have HWE := hid hw
  have HBV0 : Hid (Below v.heap.size v w) := hid (by rw [hw]; exact (Below.refl _ _).alloc (Nat.le_refl _) _)
  have HCV0 : Hid (CB w v.heap.size #[.int .i64 lk, .int .i64 lz, .int .i64 lu, .int .i64 lh] 62) := hid (by rw [hw]; exact CB.new _ _)
  clear hw
  have HKX : Hid (∀ W, Below w.heap.size w W → W.cell? ⟨v.heap.size, 0, none⟩ = some (.int .i64 lk) ∧ W.cell? ⟨v.heap.size, 1, none⟩ = some (.int .i64 lz) ∧ W.cell? ⟨v.heap.size, 2, none⟩ = some (.int .i64 lu) ∧ W.cell? ⟨v.heap.size, 3, none⟩ = some (.int .i64 lh)) := hid (fun W b => by
    have q := HCV0.out.below b HCV0.out.lt
    exact ⟨(q.cell 0).trans rfl, (q.cell 1).trans rfl, (q.cell 2).trans rfl, (q.cell 3).trans rfl⟩)
  have HR0 : Hid (IR w ai leni z) := hid (HRV.out.below HBV0.out)
  obtain ⟨M, hM⟩ : ∃ M, loM ⟨lk, lz, lu, lh⟩ z leni = M := ⟨_, rfl⟩
  obtain ⟨F, hF⟩ : ∃ F, ordF ⟨lk, lz, lu, lh⟩ z leni = F := ⟨_, rfl⟩
  obtain ⟨TB, hTB⟩ : ∃ TB, loB ⟨lk, lz, lu, lh⟩ z leni = TB := ⟨_, rfl⟩
  have hM1 : (M : Int) ≤ 1048576 := by rw [← hM]; unfold loM; split <;> omega
  have HSP : Hid (∀ (a1 : Option Addr) (k1 : Nat) (W : World), IR W a1 leni z → Calls Try.prog 34 #[.agg #[.int .i64 lk, .int .i64 lz, .int .i64 lu, .int .i64 lh], .slice a1 leni k1] W fun e w' => ∃ ad cap, e = .returned (.tuple #[.slice ad M cap, .bool TB]) ∧ OwnI w' W.heap.size ad M F ∧ Below W.heap.size W w') := fun a1 k1 W g1 => by
    have := specLotsOf_any ⟨lk, lz, lu, lh⟩ a1 leni k1 z W hb0 g1
    rw [hM, hF, hTB] at this; exact this
  have HIM : Hid (∀ (a1 : Option Addr) (W : World), IR W a1 leni z → Calls Try.prog 32 #[.agg #[.int .i64 lk, .int .i64 lz, .int .i64 lu, .int .i64 lh], .slice a1 leni leni] W fun e w' => ∃ ad cap, e = .returned (.tuple #[.slice ad M cap, .bool TB]) ∧ OwnI w' W.heap.size ad M F ∧ Below W.heap.size W w') := fun a1 W g1 => by
    have := implLotsOf_any ⟨lk, lz, lu, lh⟩ a1 leni leni z W hb0 (Nat.le_refl _) g1
    rw [hM, hF, hTB] at this; exact this
  clear hM hF hTB
  have hTT : (TB != TB) = false := by cases TB <;> rfl
  have tok0 : True := trivial
  have tok1 : True := trivial
  have tok2 : True := trivial
  have tok3 : True := trivial
  have tok4 : True := trivial
  have tok5 : True := trivial
  have tok6 : True := trivial
  have tok7 : True := trivial
  have tok8 : True := trivial
  have tok9 : True := trivial
  have tok10 : True := trivial
  have tok11 : True := trivial
  have tok12 : True := trivial
  have tok13 : True := trivial
  have tok14 : True := trivial
  have tok15 : True := trivial
  have tok16 : True := trivial
  have tok17 : True := trivial
  have hkk : ¬ (1 + (leni : Int)) < 0 := by omega
  go_enter Try.func14, Try.ntmps14
  go_wp2_with (first
      | (go_at_call 48; clear tok0; refine (toLots_any ⟨lk, lz, lu, lh⟩ _).mono ?_; rintro e w101 ⟨rfl, b_w⟩; have b_w101 : Below w.heap.size w w101 := (by rw [HWE.out]; exact b_w); clear b_w; have HB_w101 : Hid (Below w.heap.size w w101) := hid (b_w101); clear b_w101)
      | (go_at_call 47; clear tok1; refine (toIntS_any _ _ _ z _ hb0 (HR0.out.below HB_w101.out)).mono ?_; rintro e w102 ⟨rfl, i_w102, b_w102⟩; have HI_s_0 : Hid (AI w102 w101.heap.size leni z) := hid i_w102; have HLT_s_0 := hid HI_s_0.out.lt; have HB_w102 : Hid (Below w.heap.size w w102) := hid (bel_on HB_w101.out b_w102); clear i_w102 b_w102)
      | (go_at_call 34; clear tok2; refine (HSP.out _ _ _ HI_s_0.out.1).mono ?_; rintro e w103 ⟨ado, capo, rfl, o_s, b_s⟩; have HO : Hid (OwnMI w103 w.heap.size w103.heap.size ado M F) := hid ((ownMI_of o_s).lower HB_w102.out.size); have HB_w103 : Hid (Below w.heap.size w w103) := hid (bel_on HB_w102.out b_s); clear o_s b_s)
      | (go_at_call 47; clear tok3; refine (toIntS_any _ _ _ z _ hb0 (HR0.out.below HB_w103.out)).mono ?_; rintro e w104 ⟨rfl, i_w104, b_w104⟩; have HI_x_0 : Hid (AI w104 w103.heap.size leni z) := hid i_w104; have HLT_x_0 := hid HI_x_0.out.lt; have HB_w104 : Hid (Below w.heap.size w w104) := hid (bel_on HB_w103.out b_w104); replace HO := hid (HO.out.below b_w104); clear i_w104 b_w104; obtain ⟨k0, k1, k2, k3⟩ := HKX.out _ HB_w104.out)
      | (go_at_call 48; clear tok4; refine (toLots_any ⟨lk, lz, lu, lh⟩ _).mono ?_; rintro e w105 ⟨rfl, b_w105⟩; have HB_w105 : Hid (Below w.heap.size w w105) := hid (bel_on HB_w104.out b_w105); replace HI_x_0 := hid (HI_x_0.out.below b_w105); replace HO := hid (HO.out.below b_w105); clear b_w105)
      | (go_at_call 32; clear tok5; have HLX : Hid (w.heap.size ≤ w103.heap.size ∧ w103.heap.size ≤ w103.heap.size ∧ w103.heap.size < w105.heap.size) := hid ⟨HB_w103.out.size, Nat.le_refl _, HI_x_0.out.lt⟩; refine (HIM.out _ _ HI_x_0.out.1).mono ?_; rintro e w106 ⟨adg, capg, rfl, o_g, b_g⟩; have HU : Hid (KL0 w M F ado adg (w103.heap.size) (w105.heap.size) w106.heap.size (w103.heap.size) leni z w106) := hid ⟨bel_on HB_w105.out b_g, HO.out.below b_g, ownMI_of o_g, HI_x_0.out.below b_g, HLX.out⟩; clear o_g b_g)
      | (go_at_call 40; clear tok6; refine (eqIntS_same _ _ _ _ _ F _ hM1 HU.out.g.row HU.out.o.row).mono ?_; rintro e w107 ⟨rfl, b_w107⟩; replace HU := hid (HU.out.below b_w107); clear b_w107)
      | (go_at_call 47; clear tok7; refine (toIntS_any _ _ _ z _ hb0 (HR0.out.below HU.out.bl)).mono ?_; rintro e w108 ⟨rfl, i_w108, b_w108⟩; replace HU := hid (HU.out.below b_w108); have HJ0 := hid i_w108.1; clear i_w108 b_w108)
      | (go_at_call 40; clear tok8; refine (eqIntS_same _ _ _ _ _ z _ hb0 HU.out.r0.1 HJ0.out).mono ?_; rintro e w109 ⟨rfl, b_w109⟩; replace HU := hid (HU.out.below b_w109); clear b_w109)
      | (go_at_call 42; clear tok9; obtain ⟨_, cx, hcx, hsx⟩ := HU.out.r0; refine (markI_is _ _ _ _ cx _ hb0 (by omega) (by omega) hcx (by omega)).mono ?_; rintro e w110 ⟨rfl, _, kk, b_w110⟩; have HU1 := hid (HU.out.marked kk b_w110); clear hcx hsx kk b_w110)
      | (go_at_call 40; clear tok10; refine (eqIntS_same _ _ _ _ _ F _ hM1 HU1.out.g.row HU1.out.o.row).mono ?_; rintro e w111 ⟨rfl, b_w111⟩; replace HU1 := hid (HU1.out.below b_w111); clear b_w111)
      | (go_at_call 42; clear tok11; refine (markMI _ _ _ _ _ F _ hM1 HU1.out.g).mono ?_; rintro e w112 ⟨rfl, r_w112, kk, b_w112⟩; have HZ := hid (HU1.out.marked r_w112 kk b_w112); clear r_w112 kk b_w112)
      | (go_at_call 43; clear tok12; refine (heldI_is _ _ _ 1 _ hM1 (by omega) (by omega) HZ.out.h).mono ?_; rintro e w113 ⟨rfl, ew⟩; replace ew := ew.symm; subst ew; obtain ⟨k0, k1, k2, k3⟩ := HKX.out _ HZ.out.bl)
      | (go_at_call 48; clear tok13; refine (toLots_any ⟨lk, lz, lu, lh⟩ _).mono ?_; rintro e w114 ⟨rfl, b_w114⟩; replace HZ := hid (HZ.out.below b_w114); clear b_w114)
      | (go_at_call 47; clear tok14; refine (toIntS_any _ _ _ z _ hb0 (HR0.out.below HZ.out.bl)).mono ?_; rintro e w115 ⟨rfl, i_w115, b_w115⟩; replace HZ := hid (HZ.out.below b_w115); have HY0 := hid i_w115.1; clear i_w115 b_w115)
      | (go_at_call 32; clear tok15; refine (HIM.out _ _ HY0.out).mono ?_; rintro e w116 ⟨adh, caph, rfl, o_h, b_h⟩; have HE := hid o_h.row; replace HZ := hid (HZ.out.below b_h); clear o_h b_h)
      | (go_at_call 40; clear tok16; refine (eqIntS_same _ _ _ _ _ F _ hM1 HE.out HZ.out.o.row).mono ?_; rintro e w117 ⟨rfl, b_w117⟩; replace HZ := hid (HZ.out.below b_w117); clear b_w117)
      | (go_at_call 43; clear tok17; refine (heldI_is _ _ _ 1 _ hM1 (by omega) (by omega) HZ.out.h).mono ?_; rintro e w118 ⟨rfl, ew⟩; replace ew := ew.symm; subst ew))
  go_returns
  exact ⟨rfl, bel_on HBV0.out HZ.out.bl⟩

set_option maxRecDepth 100000 in
theorem lifted (os : Os) (started : os.Started) (H : Type) (enc : TypeId × Value → H) :
    ReturnsInHanded {} Try.checked os 14 .any (Rows.fnExactLotsOfSpec.pre6 enc Try.prog Try.f14 Rows.fnExactLotsOfRow.domain false) (Rows.fnExactLotsOfSpec.post enc Try.prog Try.f14 false true false false) := by
  refine returnsInHanded_of_change (C := Try.checked) own started (by kernel_rfl) Try.func14
    (ChangeSpec.witness6 (enc := enc) (C := Try.checked) false ⟨#[], #[.agg #[.int .i64 0, .int .i64 0, .int .i64 0, .int .i64 0], .slice none 0 0], []⟩ 8 (by kernel_rfl) (by kernel_rfl) (by kernel_rfl) (by kernel_rfl)) ?_
  intro W base args ds gs before hval0 hW hcnd _
  have hval : ∀ (j : Nat) t v, Try.f14.params[j]? = some t → args[j]? = some v → Value.okWide Try.prog W .any base t v := hval0
  have hW' := hW
  obtain ⟨p, q, hA0, hV, rfl, hfz, hnd⟩ := hW
  have hA : DataW.TrodAll enc Try.prog W 0 (fun _ => true) true Try.f14.params.toList args.toList ds p := hA0
  rw [Try.params14] at hA hval
  obtain ⟨v0, vs0, d0, ds0, p0, q0, hargs, rfl, rfl, h0, r0⟩ := trodAll_cons hA
  obtain ⟨v1, vs1, d1, ds1, p1, q1, rfl, rfl, rfl, h1, r1⟩ := trodAll_cons r0
  obtain ⟨rfl, rfl, rfl⟩ := trodAll_nil r1
  obtain rfl : args = #[v0, v1] := by cases args; simp_all
  obtain ⟨rfl, rfl⟩ := trodVars_none hV
  have k0 := h0
  have lt0 : ∀ x ∈ p0, x.block < W.heap.size := by obtain ⟨m, hm⟩ := k0; exact DataW.trod_lt m _ _ _ hm
  have k1 := h1
  have lt1 : ∀ x ∈ p1, x.block < W.heap.size := by obtain ⟨m, hm⟩ := k1; exact DataW.trod_lt m _ _ _ hm
  obtain ⟨ex0, ex1, ex2, ex3, ey0, ey1, ey2, ey3, enn, rfl, rfl, rfl, eg0, eg1, eg2, eg3⟩ := Go.Joins.open_agg4 Try.underlying62 (by kernel_rfl) (by kernel_rfl) (hval 0 62 v0 rfl rfl) h0
  obtain ⟨lk, ee0, _, _⟩ := DataW.trod_int Try.underlying3 eg0
  obtain rfl : ex0 = .int .i64 lk := by simpa using ee0
  obtain ⟨lz, ee1, _, _⟩ := DataW.trod_int Try.underlying3 eg1
  obtain rfl : ex1 = .int .i64 lz := by simpa using ee1
  obtain ⟨lu, ee2, _, _⟩ := DataW.trod_int Try.underlying3 eg2
  obtain rfl : ex2 = .int .i64 lu := by simpa using ee2
  obtain ⟨lh, ee3, _, _⟩ := DataW.trod_int Try.underlying3 eg3
  obtain rfl : ex3 = .int .i64 lh := by simpa using ee3
  obtain ⟨ai, leni, capi, rfl⟩ := okWide_slice Try.underlying24 (hval 1 24 v1 rfl rfl)
  obtain ⟨z, hli, hri⟩ := ints_of Try.underlying24 Try.underlying3 (by kernel_rfl) h1
  clear hA0 hval0
  refine (walk lk lz lu lh ai leni capi z W hli hri).mono fun e W' ⟨he, hg⟩ => ?_
  subst he
  exact ⟨_, rfl, _, _, _, [], _, [], hW', (trodAll_cons_mk (shut_bool Try.underlying4 _) trodAll_mk0), (trodAll_cons_mk (Below.trod laidOut (by kernel_rfl) (of_decide_eq_true (by kernel_rfl)) k0 hg lt0) (trodAll_cons_mk (Below.trod laidOut (by kernel_rfl) (of_decide_eq_true (by kernel_rfl)) k1 hg lt1) trodAll_mk0)), rfl, hg.frame _, fun h => by cases h⟩

theorem over : Rows.fnExactLotsOfRow.holds Try.pinned (OpenSpec.ofChange Rows.fnExactLotsOfSpec) :=
  OpenClaim.holds_of_wide 14 Try.f14 rfl rfl rfl rfl rfl rfl rfl ⟨rfl, rfl, rfl, rfl, rfl⟩ rfl rfl rfl rfl rfl (by kernel_rfl) Try.func14 (by kernel_rfl)
    (of_decide_eq_true (by kernel_rfl)) (by unfold Func.isWrapper; first | (rw [if_pos (by decide +kernel)]; kernel_rfl) | (rw [if_neg (by decide +kernel)]; exact ⟨rfl, rfl⟩))
    (fun os started H enc _ => lifted os started H enc)

end Go.Proofs.Ytmbdeafpfdeigaa.fnExactLotsOf

namespace Go.Proofs.Ytmbdeafpfdeigaa
theorem fnExactLotsOf_holds : Rows.FnExactLotsOfSaid := fnExactLotsOf.over
#print axioms fnExactLotsOf_holds
end Go.Proofs.Ytmbdeafpfdeigaa
