/- FnExactHeld: at every group that the size test lets through, the program's Held answers as the model's, leaves what it was handed, and its answer owns its memory. No conditions. -/
import Derived.Test.YtoihiamafbokbaaDoorFr
import Derived.Test.YtoihiamafbokbaaDoorHw
import Derived.Test.YtoihiamafbokbaaDoorGx
import Derived.Test.YtoihiamafbokbaaDoorTie
import Derived.Test.YtoihiamafbokbaaDoorCards
import Derived.SevenTiedAt
import Derived.OpenVars
import Derived.ChangeVars
import Derived.Carry
import Derived.Lib.SmallJoins
namespace Go.Proofs.YtoihiamafbokbaaDoor.fnExactHeld
open Go.ChangeShapes Go.WideShapes Go.ChangeAt Go.WideMaps Go.WideElems Go.RowKit
set_option linter.unusedVariables false
set_option linter.unusedSimpArgs false

set_option maxRecDepth 20000 in
set_option maxHeartbeats 4000000 in
theorem walk (fa : Option Addr) (len cap : Nat) (c : Nat → C3) (u : Int) (ra : Option Addr) (m rcap : Nat) (ms : Nat → M4) (mi sf : Int) (w : World) (hfl : len ≤ maxLen) (hfc : ∀ j, (c j).code.size ≤ maxLen) (hfr : CR w fa len c) (hml : m ≤ maxLen) (htl : ∀ j, (ms j).tn ≤ maxLen) (hmr : MR w ra m ms) (hE : EL w) :
    Calls Tryd.prog 4 #[.agg #[.slice fa len cap, .int .i64 u, .slice ra m rcap, .int .i64 mi, .int .i64 sf]] w fun e w' => e = .returned (.bool true) ∧ Below w.heap.size w w' := by
  have HR : Hid (CR w fa len c) := hfr
  have HME : Hid (MR w ra m ms) := hmr
  have hl2 := size_small hfl
  have hm2 := size_small hml
  have hc2 : Hid (∀ j, ((c j).code.size : Int) ≤ 9223372036854775807) := fun j => size_small (hfc j)
  have ht2 : Hid (∀ j, ((ms j).tn : Int) ≤ 9223372036854775807) := fun j => size_small (htl j)
  have HC : Hid (∀ j, (c j).code.size ≤ maxLen) := hfc
  have HE : Hid (EL w) := hE
  have h9 := hE.nine
  obtain ⟨M, hM⟩ : ∃ M, M = if grB len c u m ms mi sf = true then m else 0 := ⟨_, rfl⟩
  have hMm : M ≤ m := by rw [hM]; split <;> omega
  have HM : Hid (M = if grB len c u m ms mi sf = true then m else 0) := hM
  clear hfr hmr hfc htl hE hM
  have tok1 : True := trivial
  have tok2 : True := trivial
  have tok3 : True := trivial
  have tok4 : True := trivial
  have tok5 : True := trivial
  have tok6 : True := trivial
  go_enter Tryd.func4, Tryd.ntmps4
  go_upto_region 10 with (first
    | (go_at_call 5; go_loud (refine (szGroup_any _ _ _ c _ _ _ _ ms _ _ _ hl2 hc2.out (HR.out.below (by go_grown)) hm2 ht2.out (HME.out.below (by go_grown))).mono ?_; rintro e w1 ⟨v, rfl, hv, b1⟩; have HG : Hid (GB w fa len cap c u ra m rcap ms mi sf w1) := GB.mk0 HR.out HME.out b1; clear b1; have x0 := (HG.out.xb.cell 0).trans rfl; have x1 := (HG.out.xb.cell 1).trans rfl; have x2 := (HG.out.xb.cell 2).trans rfl; have x3 := (HG.out.xb.cell 3).trans rfl; have x4 := (HG.out.xb.cell 4).trans rfl; rcases hv with rfl | ⟨hv, hv2, hb, hbm, hbt⟩))
    | (go_at_call 7; clear tok1; go_loud (refine (toGroup_any _ _ _ c _ _ _ _ ms _ _ _ hb HG.out.cr hbm hbt HG.out.mr).mono ?_; rintro e w2 ⟨b0, m0, bt0, rfl, _, g2, b2⟩; unfold gAgg; have HG2 : Hid (GB w fa len cap c u ra m rcap ms mi sf w2) := HG.out.below b2; have HGr : Hid (GrAt w2 b0 m0 len m c ms bt0) := g2; clear b2 g2))
    | (go_at_call 10; go_loud (refine (specHeld_any _ _ _ c _ _ _ _ ms _ _ _ hb HC.out HGr.out.cr hbm hbt HGr.out.om.mr M HM.out).mono ?_; rintro e w3 ⟨a0, k0, rfl, o3, b3⟩; have HG3 : Hid (GB w fa len cap c u ra m rcap ms mi sf w3) := HG2.out.below b3; have HO3 : Hid (w3.ownsRow 0 3 1 (.slice a0 M k0) M (ivs (hL ms M))) := row_base o3 (Nat.zero_le _); clear b3 o3; replace x0 := (HG3.out.xb.cell 0).trans rfl; replace x1 := (HG3.out.xb.cell 1).trans rfl; replace x2 := (HG3.out.xb.cell 2).trans rfl; replace x3 := (HG3.out.xb.cell 3).trans rfl; replace x4 := (HG3.out.xb.cell 4).trans rfl;))
    | (go_at_call 7; clear tok2; go_loud (refine (toGroup_any _ _ _ c _ _ _ _ ms _ _ _ hb HG3.out.cr hbm hbt HG3.out.mr).mono ?_; rintro e w4 ⟨bc, bm, bt, rfl, hbc, g4, b4⟩; unfold gAgg; have HG4 : Hid (GB w fa len cap c u ra m rcap ms mi sf w4) := HG3.out.below b4; have HGr4 : Hid (GrAt w4 bc bm len m c ms bt) := g4; have H34 : Hid (Below w3.heap.size w3 w4 ∧ w3.heap.size ≤ bc) := ⟨b4, hbc⟩; clear b4 g4 hbc))
    | (go_at_call 11; clear tok3; go_loud (refine (implHeld_any _ _ _ c _ _ _ _ ms _ _ _ hb HC.out (HGr4.out.cr.alloc _) ((HE.out.below HG4.out.bel h9).alloc' _) hbm hbt (HGr4.out.om.mr.alloc _) M HM.out).mono ?_; rintro e w5 ⟨a1, k1, rfl, o5, b5⟩; have HW5 : Hid (HW w fa len cap c u ra m rcap ms mi sf w4.heap.size bc bm bt (.slice a0 M k0) (.slice a1 M k1) M (ivs (hL ms M)) w5) := HW.mk0 HG4.out HGr4.out HO3.out H34.out.1 H34.out.2 HG3.out.xb.lt b5 o5; clear b5 o5))
    | (go_at_call 12; clear tok4; go_loud (refine (eqIntS_same _ _ _ _ _ (hF ms) _ (by omega) (row_hL HW5.out.r1) (row_hL HW5.out.r0)).mono ?_; rintro e w6 ⟨rfl, b6⟩; have HW6 : Hid (HW w fa len cap c u ra m rcap ms mi sf w4.heap.size bc bm bt (.slice a0 M k0) (.slice a1 M k1) M (ivs (hL ms M)) w6) := HW5.out.below b6; clear b6)))
  · go_returns
    exact ⟨rfl, HG.out.bel⟩
  · clear x0 x1 x2 x3 x4 HG HG2 HG3 HG4 HGr HGr4 HO3 H34 HW5
    have HW7 : Hid (HW w fa len cap c u ra m rcap ms mi sf w4.heap.size bc bm bt (.slice a0 M k0) (.slice a1 M k1) M (ivs (hL ms M)) w6.drew) := HW6.out.below (Below.refl _ _).drew
    clear HW6
    obtain ⟨pb, hpb⟩ : ∃ pb, w4.heap.size = pb := ⟨_, rfl⟩
    rw [hpb] at HW7 ⊢
    clear hpb
    refine wp_region_held_drew (S := fun w' => w'.cell? ⟨pb, 0, none⟩ = some (.slice (some ⟨bc, 0, none⟩) len len) ∧ w'.cell? ⟨pb, 1, none⟩ = some (.int .i64 u) ∧ w'.cell? ⟨pb, 2, none⟩ = some (.slice (some ⟨bm, 0, none⟩) m m) ∧ w'.cell? ⟨pb, 3, none⟩ = some (.int .i64 mi) ∧ w'.cell? ⟨pb, 4, none⟩ = some (.int .i64 sf) ∧ w'.cell? ⟨w.heap.size, 0, none⟩ = some (.slice fa len cap) ∧ w'.cell? ⟨w.heap.size, 1, none⟩ = some (.int .i64 u) ∧ w'.cell? ⟨w.heap.size, 2, none⟩ = some (.slice ra m rcap) ∧ w'.cell? ⟨w.heap.size, 3, none⟩ = some (.int .i64 mi) ∧ w'.cell? ⟨w.heap.size, 4, none⟩ = some (.int .i64 sf)) (by kernel_rfl) (by exact ⟨(HW7.out.x.yb.cell 0).trans rfl, (HW7.out.x.yb.cell 1).trans rfl, (HW7.out.x.yb.cell 2).trans rfl, (HW7.out.x.yb.cell 3).trans rfl, (HW7.out.x.yb.cell 4).trans rfl, (HW7.out.g.xb.cell 0).trans rfl, (HW7.out.g.xb.cell 1).trans rfl, (HW7.out.g.xb.cell 2).trans rfl, (HW7.out.g.xb.cell 3).trans rfl, (HW7.out.g.xb.cell 4).trans rfl⟩) (fun hHeld => ?_)
    refine wpAnyH_take (i := 0) (oi := { dst := some 27, op := Go.Op.load 31 (Go.Operand.tmp 5), type := 31, pos := "exact.go:7988", after := #[], guard := none }) (v := ?_) rfl (by kernel_rfl) (by kernel_rfl) (by kernel_rfl) (fun _ _ _ h => h) (Or.inl ⟨by rfl, ?_⟩) (by assumption) ?_
    rotate_left
    · (intro w hSw; (try dsimp only at hSw); go_simp <;> try with_reducible rfl)
    try simp only [Act.put, List.setIfInBounds_toArray, List.set_cons_zero, List.set_cons_succ]
    refine wpAnyH_take (i := 1) (oi := { dst := some 28, op := Go.Op.load 25 (Go.Operand.tmp 1), type := 25, pos := "exact.go:7988", after := #[], guard := none }) (v := ?_) rfl (by kernel_rfl) (by kernel_rfl) (by kernel_rfl) (fun _ _ _ h => h) (Or.inl ⟨by rfl, ?_⟩) (by assumption) ?_
    rotate_left
    · (intro w hSw; (try dsimp only at hSw); go_simp <;> try with_reducible rfl)
    try simp only [Act.put, List.setIfInBounds_toArray, List.set_cons_zero, List.set_cons_succ]
    refine wpAnyH_ready (rs := [2]) (by kernel_rfl) (by simp) ?_
    refine AllReadyH.cons (o := { dst := some 29, op := Go.Op.call { callee := Go.Callee.value (Go.Operand.func 7), args := #[Go.Operand.tmp 28], argTypes := #[25] }, type := 31, pos := "exact.go:7988", after := #[{ on := 1, ground := Go.Ground.data }], guard := none }) rfl (fun K hK => ?_) (AllReadyH.nil)
    go_simp
    refine (toGroup_any _ _ _ c _ _ _ _ ms _ _ _ hb HW7.out.g.cr hbm hbt HW7.out.g.mr).mono ?_
    rintro e w7 ⟨b6c, b6m, bt6, rfl, _, g6, b6⟩
    unfold gAgg
    have HW8 : Hid (HW w fa len cap c u ra m rcap ms mi sf pb bc bm bt (.slice a0 M k0) (.slice a1 M k1) M (ivs (hL ms M)) w7) := HW7.out.below b6
    have HGr6 : Hid (GrAt w7 b6c b6m len m c ms bt6) := g6
    clear b6 g6
    first | refine hK.out _ _ (by exact ⟨(HW8.out.x.yb.cell 0).trans rfl, (HW8.out.x.yb.cell 1).trans rfl, (HW8.out.x.yb.cell 2).trans rfl, (HW8.out.x.yb.cell 3).trans rfl, (HW8.out.x.yb.cell 4).trans rfl, (HW8.out.g.xb.cell 0).trans rfl, (HW8.out.g.xb.cell 1).trans rfl, (HW8.out.g.xb.cell 2).trans rfl, (HW8.out.g.xb.cell 3).trans rfl, (HW8.out.g.xb.cell 4).trans rfl⟩) (fun hHeld => ?_) | (go_wp2_with fail; refine hK.out _ _ (by exact ⟨(HW8.out.x.yb.cell 0).trans rfl, (HW8.out.x.yb.cell 1).trans rfl, (HW8.out.x.yb.cell 2).trans rfl, (HW8.out.x.yb.cell 3).trans rfl, (HW8.out.x.yb.cell 4).trans rfl, (HW8.out.g.xb.cell 0).trans rfl, (HW8.out.g.xb.cell 1).trans rfl, (HW8.out.g.xb.cell 2).trans rfl, (HW8.out.g.xb.cell 3).trans rfl, (HW8.out.g.xb.cell 4).trans rfl⟩) (fun hHeld => ?_))
    clear hK K
    try simp only [Act.put, List.setIfInBounds_toArray, List.set_cons_zero, List.set_cons_succ]
    refine wpAnyH_ready (rs := [3]) (by kernel_rfl) (by simp) ?_
    refine AllReadyH.cons (o := { dst := some 30, op := Go.Op.call { callee := Go.Callee.value (Go.Operand.func 9), args := #[Go.Operand.tmp 27, Go.Operand.tmp 29], argTypes := #[31, 31] }, type := 4, pos := "exact.go:7988", after := #[{ on := 0, ground := Go.Ground.data }, { on := 2, ground := Go.Ground.data }, { on := 2, ground := Go.Ground.chain }], guard := none }) rfl (fun K hK => ?_) (AllReadyH.nil)
    go_simp
    refine (eqGroup_same _ _ _ _ _ c _ _ _ _ _ _ ms _ _ _ hb hbm hbt HW8.out.x.gr.cr HGr6.out.cr HW8.out.x.gr.om.mr HGr6.out.om.mr).mono ?_
    rintro e w8 ⟨rfl, b7⟩
    have HW9 : Hid (HW w fa len cap c u ra m rcap ms mi sf pb bc bm bt (.slice a0 M k0) (.slice a1 M k1) M (ivs (hL ms M)) w8) := HW8.out.below b7
    clear b7
    first | refine hK.out _ _ (by exact ⟨(HW9.out.x.yb.cell 0).trans rfl, (HW9.out.x.yb.cell 1).trans rfl, (HW9.out.x.yb.cell 2).trans rfl, (HW9.out.x.yb.cell 3).trans rfl, (HW9.out.x.yb.cell 4).trans rfl, (HW9.out.g.xb.cell 0).trans rfl, (HW9.out.g.xb.cell 1).trans rfl, (HW9.out.g.xb.cell 2).trans rfl, (HW9.out.g.xb.cell 3).trans rfl, (HW9.out.g.xb.cell 4).trans rfl⟩) (fun hHeld => ?_) | (go_wp2_with fail; refine hK.out _ _ (by exact ⟨(HW9.out.x.yb.cell 0).trans rfl, (HW9.out.x.yb.cell 1).trans rfl, (HW9.out.x.yb.cell 2).trans rfl, (HW9.out.x.yb.cell 3).trans rfl, (HW9.out.x.yb.cell 4).trans rfl, (HW9.out.g.xb.cell 0).trans rfl, (HW9.out.g.xb.cell 1).trans rfl, (HW9.out.g.xb.cell 2).trans rfl, (HW9.out.g.xb.cell 3).trans rfl, (HW9.out.g.xb.cell 4).trans rfl⟩) (fun hHeld => ?_))
    clear hK K
    try simp only [Act.put, List.setIfInBounds_toArray, List.set_cons_zero, List.set_cons_succ]
    refine wpAnyH_take (i := 4) (oi := { dst := some 31, op := Go.Op.unOp Go.UnOp.not 4 (Go.Operand.tmp 30), type := 4, pos := "exact.go:7988", after := #[{ on := 3, ground := Go.Ground.data }], guard := none }) (v := ?_) rfl (by kernel_rfl) (by kernel_rfl) (by kernel_rfl) (fun _ _ _ h => h) (Or.inl ⟨by rfl, ?_⟩) (by assumption) ?_
    rotate_left
    · (intro w hSw; (try dsimp only at hSw); go_simp <;> try with_reducible rfl)
    try simp only [Act.put, List.setIfInBounds_toArray, List.set_cons_zero, List.set_cons_succ]
    refine wpAnyH_done (by kernel_rfl) ?_ _
    clear hHeld
    clear HW7 HW8 HGr6
    have y0 := (HW9.out.x.yb.cell 0).trans rfl
    have y1 := (HW9.out.x.yb.cell 1).trans rfl
    have y2 := (HW9.out.x.yb.cell 2).trans rfl
    have y3 := (HW9.out.x.yb.cell 3).trans rfl
    have y4 := (HW9.out.x.yb.cell 4).trans rfl
    go_wp2_with (first
      | (go_at_call 13; go_loud (refine (markGroup_any bc bm len m c u ms mi sf bt pb _ hb hbm hbt HW9.out.x.gr HW9.out.hb.1 HW9.out.hb.2).mono ?_; rintro e w9 ⟨mv, rfl, hmv, k9, b9⟩; have HV1 : Hid (HV w fa len cap c u ra m rcap ms mi sf pb (.slice a0 M k0) (.slice a1 M k1) M (ivs (hL ms M)) w9) := HW9.out.marked HR.out HME.out k9 b9; obtain ⟨hmv1, hmv2⟩ := hmv; clear k9 b9))
      | (go_at_call 12; clear tok5; go_loud (refine (eqIntS_same _ _ _ _ _ (hF ms) _ (by omega) (row_hL HV1.out.r1) (row_hL HV1.out.r0)).mono ?_; rintro e wa ⟨rfl, ba⟩; have HV2 : Hid (HV w fa len cap c u ra m rcap ms mi sf pb (.slice a0 M k0) (.slice a1 M k1) M (ivs (hL ms M)) wa) := HV1.out.below ba; clear ba))
      | (go_at_call 14; go_loud (refine (markIntS_any a1 M k1 pb (ivs (hL ms M)) _ (by omega) HV2.out.r1).mono ?_; rintro e wb ⟨rfl, ib, kb, bb⟩; have HU1 : Hid (HU w fa len cap c u ra m rcap ms mi sf (.slice a0 M k0) a1 M (ivs (hL ms M)) wb) := HV2.out.marked HR.out HME.out ib kb bb; clear ib kb bb))
      | (go_at_call 15; clear tok6; go_loud (refine (heldIntS_any a1 M k1 _ (by omega) HU1.out.i1).mono ?_; rintro e wc ⟨rfl, ew⟩; replace ew := ew.symm; subst ew; have z0 := (HU1.out.g.xb.cell 0).trans rfl; have z1 := (HU1.out.g.xb.cell 1).trans rfl; have z2 := (HU1.out.g.xb.cell 2).trans rfl; have z3 := (HU1.out.g.xb.cell 3).trans rfl; have z4 := (HU1.out.g.xb.cell 4).trans rfl; skip))
      | (go_at_call 7; go_loud (refine (toGroup_any _ _ _ c _ _ _ _ ms _ _ _ hb HU1.out.g.cr hbm hbt HU1.out.g.mr).mono ?_; rintro e wd ⟨b9c, b9m, bt9, rfl, _, g9, b9⟩; unfold gAgg; have HU2 : Hid (HU w fa len cap c u ra m rcap ms mi sf (.slice a0 M k0) a1 M (ivs (hL ms M)) wd) := HU1.out.below b9; have HGr9 : Hid (GrAt wd b9c b9m len m c ms bt9) := g9; clear b9 g9))
      | (go_at_call 11; go_loud (refine (implHeld_any _ _ _ c _ _ _ _ ms _ _ _ hb HC.out HGr9.out.cr (HE.out.below HU2.out.g.bel h9) hbm hbt HGr9.out.om.mr M HM.out).mono ?_; rintro e we ⟨a3, k3, rfl, oe, be⟩; have HU3 : Hid (HU w fa len cap c u ra m rcap ms mi sf (.slice a0 M k0) a1 M (ivs (hL ms M)) we) := HU2.out.below be; have HO9 : Hid (IR we a3 M (hF ms)) := row_hL oe; clear be oe))
      | (go_at_call 12; go_loud (refine (eqIntS_same _ _ _ _ _ (hF ms) _ (by omega) HO9.out (row_hL HU3.out.r0)).mono ?_; rintro e wf ⟨rfl, bf⟩; have HU4 : Hid (HU w fa len cap c u ra m rcap ms mi sf (.slice a0 M k0) a1 M (ivs (hL ms M)) wf) := HU3.out.below bf; clear bf))
      | (go_at_call 15; go_loud (refine (heldIntS_any a1 M k1 _ (by omega) HU4.out.i1).mono ?_; rintro e wg ⟨rfl, ew⟩; replace ew := ew.symm; subst ew)))
    go_returns
    exact ⟨rfl, HU4.out.g.bel⟩

set_option maxRecDepth 100000 in
theorem lifted (os : Os) (started : os.Started) (H : Type) (enc : TypeId × Value → H) :
    ReturnsInHanded {} Tryd.checked os 4 .any (fun w args => (Rows.fnExactHeldSpec.pre enc Tryd.prog Tryd.f4 [] false w args ∧ laidMetH Tryd.prog laid7 w) ∧ sizedMet enc Tryd.prog Tryd.f4 (OpenSpec.ofChange Rows.fnExactHeldSpec) false w args)
      (Rows.fnExactHeldSpec.post enc Tryd.prog Tryd.f4 false true false false) := by
  refine returnsInHanded_of_change_and (C := Tryd.checked) (X := fun w _ => laidMetH Tryd.prog laid7 w) (fun _ _ _ hh h => h.of_heap hh) own started (by kernel_rfl) Tryd.func4
    (ChangeSpec.witness_shaped (enc := enc) (C := Tryd.checked) (os := os) (X := fun w _ => laidMetH Tryd.prog laid7 w) false (World.doorLaid Tryd.prog 400 os) #[.agg #[.slice none 0 0, .int .i64 0, .slice none 0 0, .int .i64 0, .int .i64 0]] 8 rfl (World.shaped_of_RefB (by kernel_rfl) (by kernel_rfl)) (by kernel_rfl) (by kernel_rfl) (by kernel_rfl) (door_met7 os _)) ?_
  intro W base args ds gs before hval0 hW _ _ hL _
  have hval : ∀ (j : Nat) t v, Tryd.f4.params[j]? = some t → args[j]? = some v → Value.okWide Tryd.prog W .any base t v := hval0
  have hW' := hW
  obtain ⟨p, q, hA0, hV, rfl, hfz, hnd⟩ := hW
  have hA : DataW.TrodAll enc Tryd.prog W 0 (fun _ => true) true Tryd.f4.params.toList args.toList ds p := hA0
  rw [Tryd.params4] at hA hval
  obtain ⟨v0, vs0, d0, ds0, p0, q0, hargs, rfl, rfl, h0, r0⟩ := trodAll_cons hA
  obtain ⟨rfl, rfl, rfl⟩ := trodAll_nil r0
  obtain rfl : args = #[v0] := by cases args; simp_all
  have hV1 := hV
  obtain ⟨x1, x2, x3, x4, x5, x6, x7, rfl⟩ := seven (trodVars_len hV)
  have k0 := h0
  have lt0 : ∀ x ∈ p0, x.block < W.heap.size := by obtain ⟨m, hm⟩ := k0; exact DataW.trod_lt m _ _ _ hm
  obtain ⟨gx0, gx1, gx2, gx3, gx4, gy0, gy1, gy2, gy3, gy4, gnn, rfl, gg0, gg1, gg2, gg3, gg4⟩ := open_five Tryd.underlying25 (by kernel_rfl) ⟨rfl, rfl, rfl, rfl, rfl⟩ ⟨by kernel_rfl, by kernel_rfl, by kernel_rfl, by kernel_rfl, by kernel_rfl⟩ (hval 0 25 v0 rfl rfl) h0
  obtain ⟨u, ge1, _, _⟩ := DataW.trod_int Tryd.underlying3 gg1
  obtain rfl : gx1 = .int .i64 u := by simpa using ge1
  obtain ⟨mi, ge3, _, _⟩ := DataW.trod_int Tryd.underlying3 gg3
  obtain rfl : gx3 = .int .i64 mi := by simpa using ge3
  obtain ⟨sf, ge4, _, _⟩ := DataW.trod_int Tryd.underlying3 gg4
  obtain rfl : gx4 = .int .i64 sf := by simpa using ge4
  obtain ⟨fa, len, cap, rfl, fT⟩ := slice_of Tryd.underlying22 gg0
  obtain ⟨c, hfl, hfc, hfr⟩ := curs_of Tryd.underlying22 Tryd.underlying68 (by kernel_rfl) ⟨rfl, rfl, rfl⟩ ⟨by kernel_rfl, by kernel_rfl, by kernel_rfl⟩ Tryd.underlying9 Tryd.underlying3 Tryd.underlying3 fT
  obtain ⟨ra, m, rcap, rfl, mT⟩ := slice_of Tryd.underlying23 gg2
  obtain ⟨ms, hml, htl, hmr⟩ := members_of Tryd.underlying23 Tryd.underlying70 (by kernel_rfl) ⟨rfl, rfl, rfl, rfl⟩ ⟨by kernel_rfl, by kernel_rfl, by kernel_rfl, by kernel_rfl⟩ Tryd.underlying3 Tryd.underlying3 Tryd.underlying3 Tryd.underlying35 Tryd.underlying3 (by kernel_rfl) mT
  clear hA0 hval0
  refine (walk fa len cap c u ra m rcap ms mi sf W hfl hfc hfr hml htl hmr (of_laid7 hL)).mono fun e W' ⟨he, hg⟩ => ?_
  subst he
  exact ⟨_, rfl, _, _, _, [], _, _, hW', (trodAll_cons_mk (shut_bool Tryd.underlying4 _) trodAll_mk0), (trodAll_cons_mk (Below.trod laidOut (by kernel_rfl) (of_decide_eq_true (by kernel_rfl)) k0 hg lt0) trodAll_mk0), Below.trodVars laidOut hg (by kernel_rfl) hV1, hg.frame _, fun h => by cases h⟩

theorem row_holds : Rows.FnExactHeldSaid :=
  OpenClaim.holds_of_wide 4 Tryd.f4 rfl rfl rfl rfl rfl rfl rfl ⟨rfl, rfl, rfl, rfl, rfl⟩ rfl rfl rfl rfl rfl (by kernel_rfl) Tryd.func4 (by kernel_rfl)
    (of_decide_eq_true (by kernel_rfl)) (by unfold Func.isWrapper; first | (rw [if_pos (by decide +kernel)]; kernel_rfl) | (rw [if_neg (by decide +kernel)]; exact ⟨rfl, rfl⟩))
    (fun os started H enc _ => lifted os started H enc)

end Go.Proofs.YtoihiamafbokbaaDoor.fnExactHeld

namespace Go.Proofs.YtoihiamafbokbaaDoor
open Go
theorem fnExactHeld_holds : Rows.FnExactHeldCardSaid :=
  Claim7.holds_tied_plain_at .later [] [.sentinel, .sentinel, .sentinel, .sentinel, .sentinel, .sentinel, .sentinel] true (true, "3f5a4fb3e3adfffcb0d8df90ba45c6ae00cf5aead58bc8a22e26d653d42e6aee") false
    fnExactHeld.row_holds (fun _ h => by cases h) (by kernel_rfl) (fun _ h => by cases h) fnExactHeld_row_tie rfl ⟨rfl, rfl⟩ (by kernel_rfl) rfl
    (fun f fn hf hfn => by
      obtain rfl : f = 4 := Option.some.inj ((show Tryd.prog.funcNamed "loop.example/g00040/laws.FnExactHeld" = some 4 by kernel_rfl).symm.trans hf) |>.symm
      obtain rfl : fn = Tryd.f4 := (Option.some.inj (Tryd.func4.symm.trans hfn)).symm
      exact ⟨by kernel_rfl, fun j t ht => by
        rw [Tryd.params4] at ht
        have hm : t ∈ [25] := by simpa using Array.mem_of_getElem? ht
        have hall : ([25].all fun u => !Tryd.prog.wantsStandIn u) = true := by kernel_rfl
        exact (show Tryd.prog.wantsStandIn t = false by simpa using List.all_eq_true.1 hall t hm)⟩)
    (by kernel_rfl)
#print axioms fnExactHeld_holds
end Go.Proofs.YtoihiamafbokbaaDoor
