/- For every register and every text the law FnExactFindPaper returns true: the program's FindPaper answers as the model's, and writes into no argument. Conditions: the library's three listed tables start as the program's text lays them, which the card ties. -/
import Derived.Test.YtdhpadcihlmhiaaDoorFr
import Derived.Test.YtdhpadcihlmhiaaDoorSm
import Derived.Test.YtdhpadcihlmhiaaDoorTie
import Derived.Test.YtdhpadcihlmhiaaDoorCards
import Derived.SevenTiedAt
import Derived.OpenVars
import Derived.ChangeVars
import Derived.Carry
import Derived.Lib.SmallJoins
namespace Go.Proofs.YtdhpadcihlmhiaaDoor.fnExactFindPaper
open Go.ChangeShapes Go.WideShapes Go.ChangeAt Go.WideMaps Go.WideElems Go.RowKit
set_option linter.unusedVariables false
set_option linter.unusedSimpArgs false

set_option maxRecDepth 20000 in
set_option maxHeartbeats 4000000 in
theorem walk (ad : Option Addr) (len cap : Nat) (c : Nat → S2) (ap : Option Addr) (np pcap : Nat) (p : Nat → P4) (s1 : ByteArray) (w : World) (hl : len ≤ maxLen) (hc : ∀ j, (c j).pre.size ≤ maxLen) (hr : SRw w ad len c) (hnp : np ≤ maxLen) (hpw : ∀ j, (Lit.int .i64 (p j).ser).wf = true) (hpr : PRw w ap np p) (hs1 : s1.size ≤ maxLen) (hE : TP w) :
    Calls Tryd.prog 9 #[.agg #[.slice ad len cap, .slice ap np pcap], .string s1] w fun e w' => e = .returned (.bool true) ∧ Below w.heap.size w w' := by
  by_cases hbig : (1048576 : Int) < (s1.size : Int)
  · unfold maxLen at hs1
    go_enter Tryd.func9, Tryd.ntmps9
    go_wp2
    go_returns
    exact ⟨rfl, by go_grown⟩
  have hsm : (s1.size : Int) ≤ 1048576 := by omega
  clear hbig
  have hl2 : (len : Int) ≤ 9223372036854775807 := by unfold maxLen at hl; omega
  have hn2 : (np : Int) ≤ 9223372036854775807 := by unfold maxLen at hnp; omega
  have HC : Hid (∀ j, (c j).pre.size ≤ maxLen) := hc
  have HC2 : Hid (∀ j, ((c j).pre.size : Int) ≤ 9223372036854775807) := fun j => by have := hc j; unfold maxLen at this; omega
  have HR : Hid (SRw w ad len c) := hr
  have HP : Hid (PRw w ap np p) := hpr
  have HW : Hid (∀ j, (Lit.int .i64 (p j).ser).wf = true) := hpw
  have HE : Hid (TP w) := hE
  have HBA : Hid (Below w.heap.size w (w.alloc (.cells #[.slice ad len cap, .slice ap np pcap] 50 (0, 0)))) := (Below.refl _ _).alloc (Nat.le_refl _) _
  obtain ⟨v, hv⟩ : ∃ v, findV len c np p s1 = v := ⟨_, rfl⟩
  have HV : Hid (findV len c np p s1 = v) := hv
  have e1 := lists_t (rfl : s1 = s1)
  have e2 : (v == v) = true := by simp
  have tok1 : True := trivial
  have tok2 : True := trivial
  clear hv hr hpr hpw hE hc hl hnp
  go_enter Tryd.func9, Tryd.ntmps9
  go_wp2_with (first
    | (go_at_call 27; go_loud (refine (szReg_any _ _ _ c _ _ _ _ hl2 HC2.out (HR.out.below HBA.out) hn2).mono ?_; rintro e w1 ⟨v1, rfl, hv1, b1⟩; have X1 : CB w1 w.heap.size #[.slice ad len cap, .slice ap np pcap] 50 := (CB.new _ _).below b1 (by simp); have k0 := (X1.cell 0).trans rfl; have k1 := (X1.cell 1).trans rfl; have HX1 := hid X1; have HB1 : Hid (Below w.heap.size w w1) := bel_on HBA.out b1; clear X1 b1; rcases hv1 with rfl | ⟨h0, h1, h2⟩; rotate_left; (have h3 : ¬ v1 < 0 := by omega)))
    | (clear tok1; go_at_call 28; go_loud (refine (toReg_any _ _ _ c _ _ _ p _ h1 h2 (HR.out.below HB1.out) (HP.out.below HB1.out)).mono ?_; rintro e w2 ⟨bs2, bp2, rfl, i2, _, b2⟩; have HI2 := hid i2; have HB2 : Hid (Below w.heap.size w w2) := bel_on HB1.out b2; have HX2 := hid (HX1.out.below b2 HX1.out.lt); clear i2 b2))
    | (go_at_call 34; go_loud (refine (specFind_any _ _ _ c _ _ _ p _ _ h1 HC.out HI2.out.sr h2 HI2.out.pr).mono ?_; rintro e w3 ⟨rfl, b3⟩; rw [HV.out]; have HB3 : Hid (Below w.heap.size w w3) := bel_on HB2.out b3; have X3 := HX2.out.below b3 HX2.out.lt; have k0 := (X3.cell 0).trans rfl; have k1 := (X3.cell 1).trans rfl; have HX3 := hid X3; clear b3 X3))
    | (clear tok2; go_at_call 28; go_loud (refine (toReg_any _ _ _ c _ _ _ p _ h1 h2 (HR.out.below HB3.out) (HP.out.below HB3.out)).mono ?_; rintro e w4 ⟨bs4, bp4, rfl, i4, hb4, b4⟩; have HA4 : Hid (Below w4.heap.size w4 (w4.alloc (.cells #[.slice (some ⟨bs4, 0, none⟩) len len, .slice (some ⟨bp4, 0, none⟩) np np] 27 (0, 0)))) := (Below.refl _ _).alloc (Nat.le_refl _) _; have HI4 := hid i4; have HB4 : Hid (Below w.heap.size w w4) := bel_on HB3.out b4; have HX4 := hid (HX3.out.below b4 HX3.out.lt); clear i4 b4 hb4))
    | (go_at_call 22; go_loud (refine (implFind_any _ _ _ c _ _ _ p _ _ h1 (Nat.le_refl _) HC.out (HI4.out.below HA4.out).sr h2 (HI4.out.below HA4.out).pr HW.out (HE.out.below (bel_on HB4.out HA4.out))).mono ?_; rintro e w6 ⟨rfl, b6⟩; rw [HV.out]; have HI6 := hid ((HI4.out.below HA4.out).below b6); have HB6 : Hid (Below w.heap.size w w6) := bel_on (bel_on HB4.out HA4.out) b6; have Y6 : CB w6 w4.heap.size #[.slice (some ⟨bs4, 0, none⟩) len len, .slice (some ⟨bp4, 0, none⟩) np np] 27 := (CB.new _ _).below b6 (by simp); have X6 := (HX4.out.below HA4.out HX4.out.lt).below b6 (by have := HX4.out.lt; simp; omega); have k0 := (X6.cell 0).trans rfl; have k1 := (X6.cell 1).trans rfl; have y0 := (Y6.cell 0).trans rfl; have y1 := (Y6.cell 1).trans rfl; have hB6 : Below w6.heap.size w6 w6 := Below.refl _ _; have hB6d : Below w6.heap.size w6 w6.drew := (Below.refl _ _).drew; clear b6 Y6 X6)))
  rotate_left
  · go_returns
    exact ⟨rfl, HB1.out⟩
  refine wp_region_noPanic ?_
  refine wp_region_held_drew (S := fun w' => w'.cell? ⟨w.heap.size, 0, none⟩ = some (.slice ad len cap) ∧ w'.cell? ⟨w.heap.size, 1, none⟩ = some (.slice ap np pcap) ∧ w'.cell? ⟨w4.heap.size, 0, none⟩ = some (.slice (some ⟨bs4, 0, none⟩) len len) ∧ w'.cell? ⟨w4.heap.size, 1, none⟩ = some (.slice (some ⟨bp4, 0, none⟩) np np) ∧ Below w6.heap.size w6 w') (by kernel_rfl) ?_ (fun hHeld => ?_)
  · (try dsimp only); refine ⟨?_, ?_, ?_, ?_, ?_⟩ <;> first | assumption | (simp [*, World.cell?_alloc_some]; done)
  refine wpAnyH_take (i := 0) (oi := { dst := some 29, op := Go.Op.load 27 (Go.Operand.tmp 7), type := 27, pos := "exact.go:8569", after := #[], guard := none }) (v := ?_) rfl (by kernel_rfl) (by kernel_rfl) (by kernel_rfl) (fun _ _ _ h => h) (Or.inl ⟨by rfl, ?_⟩) (by assumption) ?_
  rotate_left
  · (intro w hSw; (try dsimp only at hSw); go_simp <;> try with_reducible rfl)
  try simp only [Act.put, List.setIfInBounds_toArray, List.set_cons_zero, List.set_cons_succ]
  refine wpAnyH_take (i := 1) (oi := { dst := some 30, op := Go.Op.load 50 (Go.Operand.tmp 2), type := 50, pos := "exact.go:8569", after := #[], guard := none }) (v := ?_) rfl (by kernel_rfl) (by kernel_rfl) (by kernel_rfl) (fun _ _ _ h => h) (Or.inl ⟨by rfl, ?_⟩) (by assumption) ?_
  rotate_left
  · (intro w hSw; (try dsimp only at hSw); go_simp <;> try with_reducible rfl)
  try simp only [Act.put, List.setIfInBounds_toArray, List.set_cons_zero, List.set_cons_succ]
  refine wpAnyH_ready (rs := [2]) (by kernel_rfl) (by simp) ?_
  refine AllReadyH.cons (o := { dst := some 31, op := Go.Op.call { callee := Go.Callee.value (Go.Operand.func 28), args := #[Go.Operand.tmp 30], argTypes := #[50] }, type := 27, pos := "exact.go:8569", after := #[{ on := 1, ground := Go.Ground.data }], guard := none }) rfl (fun K hK => ?_) AllReadyH.nil
  go_simp
  (go_at_call 28; refine (toReg_any _ _ _ c _ _ _ p _ h1 h2 (HR.out.below (bel_on HB6.out (by assumption))) (HP.out.below (bel_on HB6.out (by assumption)))).mono ?_; rintro e w7 ⟨bs7, bp7, rfl, i7, _, b7⟩; have q1_0 : w7.cell? ⟨w.heap.size, 0, none⟩ = some (.slice ad len cap) := keep_cell b7 (by simp [*]); have q1_1 : w7.cell? ⟨w.heap.size, 1, none⟩ = some (.slice ap np pcap) := keep_cell b7 (by simp [*]); have q1_2 : w7.cell? ⟨w4.heap.size, 0, none⟩ = some (.slice (some ⟨bs4, 0, none⟩) len len) := keep_cell b7 (by simp [*]); have q1_3 : w7.cell? ⟨w4.heap.size, 1, none⟩ = some (.slice (some ⟨bp4, 0, none⟩) np np) := keep_cell b7 (by simp [*]); have p7 : Below w6.heap.size w6 w7 := bel_on (by assumption) b7; have HI7 := hid i7; clear b7 i7)
  first | refine hK.out _ _ ?_ (fun hHeld => ?_) | (go_wp2_with fail; refine hK.out _ _ ?_ (fun hHeld => ?_))
  · (try dsimp only); refine ⟨?_, ?_, ?_, ?_, ?_⟩ <;> first | assumption | (simp [*, World.cell?_alloc_some]; done)
  clear hK K
  try simp only [Act.put, List.setIfInBounds_toArray, List.set_cons_zero, List.set_cons_succ]
  refine wpAnyH_ready (rs := [3]) (by kernel_rfl) (by simp) ?_
  refine AllReadyH.cons (o := { dst := some 32, op := Go.Op.call { callee := Go.Callee.value (Go.Operand.func 29), args := #[Go.Operand.tmp 29, Go.Operand.tmp 31], argTypes := #[27, 27] }, type := 4, pos := "exact.go:8569", after := #[{ on := 0, ground := Go.Ground.data }, { on := 2, ground := Go.Ground.data }, { on := 2, ground := Go.Ground.chain }], guard := none }) rfl (fun K hK => ?_) AllReadyH.nil
  go_simp
  (go_at_call 29; refine (eqReg_same _ _ _ _ _ c _ _ _ _ _ p _ h1 h2 (HI6.out.below p7).sr (HI6.out.below p7).pr HI7.out.sr HI7.out.pr).mono ?_; rintro e w8 ⟨rfl, b8⟩; have q2_0 : w8.cell? ⟨w.heap.size, 0, none⟩ = some (.slice ad len cap) := keep_cell b8 (by simp [*]); have q2_1 : w8.cell? ⟨w.heap.size, 1, none⟩ = some (.slice ap np pcap) := keep_cell b8 (by simp [*]); have q2_2 : w8.cell? ⟨w4.heap.size, 0, none⟩ = some (.slice (some ⟨bs4, 0, none⟩) len len) := keep_cell b8 (by simp [*]); have q2_3 : w8.cell? ⟨w4.heap.size, 1, none⟩ = some (.slice (some ⟨bp4, 0, none⟩) np np) := keep_cell b8 (by simp [*]); have p8 : Below w6.heap.size w6 w8 := bel_on p7 b8; clear b8)
  first | refine hK.out _ _ ?_ (fun hHeld => ?_) | (go_wp2_with fail; refine hK.out _ _ ?_ (fun hHeld => ?_))
  · (try dsimp only); refine ⟨?_, ?_, ?_, ?_, ?_⟩ <;> first | assumption | (simp [*, World.cell?_alloc_some]; done)
  clear hK K
  try simp only [Act.put, List.setIfInBounds_toArray, List.set_cons_zero, List.set_cons_succ]
  refine wpAnyH_take (i := 4) (oi := { dst := some 33, op := Go.Op.unOp Go.UnOp.not 4 (Go.Operand.tmp 32), type := 4, pos := "exact.go:8569", after := #[{ on := 3, ground := Go.Ground.data }], guard := none }) (v := ?_) rfl (by kernel_rfl) (by kernel_rfl) (by kernel_rfl) (fun _ _ _ h => h) (Or.inl ⟨by rfl, ?_⟩) (by assumption) ?_
  rotate_left
  · (intro w hSw; (try dsimp only at hSw); go_simp <;> try with_reducible rfl)
  try simp only [Act.put, List.setIfInBounds_toArray, List.set_cons_zero, List.set_cons_succ]
  refine wpAnyH_done (by kernel_rfl) ?_ _
  refine NoPanic.normal ?_
  go_wp2
  go_returns
  exact ⟨rfl, bel_on HB6.out p8⟩

set_option maxRecDepth 100000 in
theorem lifted (os : Os) (started : os.Started) (H : Type) (enc : TypeId × Value → H) :
    ReturnsInHanded {} Tryd.checked os 9 .any (fun w args => (Rows.fnExactFindPaperSpec.pre enc Tryd.prog Tryd.f9 [] false w args ∧ laidMetH Tryd.prog laid3 w) ∧ sizedMet enc Tryd.prog Tryd.f9 (OpenSpec.ofChange Rows.fnExactFindPaperSpec) false w args)
      (Rows.fnExactFindPaperSpec.post enc Tryd.prog Tryd.f9 false true false false) := by
  refine returnsInHanded_of_change_and (C := Tryd.checked) (X := fun w _ => laidMetH Tryd.prog laid3 w) (fun _ _ _ hh h => h.of_heap hh) own started (by kernel_rfl) Tryd.func9
    (ChangeSpec.witness_shaped (enc := enc) (C := Tryd.checked) (os := os) (X := fun w _ => laidMetH Tryd.prog laid3 w) false (World.doorLaid Tryd.prog 400 os) #[.agg #[.slice none 0 0, .slice none 0 0], .string ByteArray.empty] 8 rfl (World.shaped_of_RefB (by kernel_rfl) (by kernel_rfl)) (by kernel_rfl) (by kernel_rfl) (by kernel_rfl) (door_met os _)) ?_
  intro W base args ds gs before hval0 hW _ _ hL _
  have hval : ∀ (j : Nat) t v, Tryd.f9.params[j]? = some t → args[j]? = some v → Value.okWide Tryd.prog W .any base t v := hval0
  have hW' := hW
  obtain ⟨p, q, hA0, hV, rfl, hfz, hnd⟩ := hW
  have hA : DataW.TrodAll enc Tryd.prog W 0 (fun _ => true) true Tryd.f9.params.toList args.toList ds p := hA0
  rw [Tryd.params9] at hA hval
  obtain ⟨v0, vs0, d0, ds0, p0, q0, hargs, rfl, rfl, h0, r0⟩ := trodAll_cons hA
  obtain ⟨v1, vs1, d1, ds1, p1, q1, rfl, rfl, rfl, h1, r1⟩ := trodAll_cons r0
  obtain ⟨rfl, rfl, rfl⟩ := trodAll_nil r1
  obtain rfl : args = #[v0, v1] := by cases args; simp_all
  obtain ⟨rfl, rfl⟩ := trodVars_none hV
  have k0 := h0
  have lt0 : ∀ x ∈ p0, x.block < W.heap.size := by obtain ⟨m, hm⟩ := k0; exact DataW.trod_lt m _ _ _ hm
  have k1 := h1
  have lt1 : ∀ x ∈ p1, x.block < W.heap.size := by obtain ⟨m, hm⟩ := k1; exact DataW.trod_lt m _ _ _ hm
  obtain ⟨lx0, lx1, ly0, ly1, lnn, rfl, rfl, rfl, lg0, lg1⟩ := Go.Joins.open_agg2 Tryd.underlying50 (by kernel_rfl) (by kernel_rfl) (hval 0 50 v0 rfl rfl) h0
  obtain ⟨ad, len, cap, rfl, lT⟩ := slice_of Tryd.underlying47 lg0
  obtain ⟨ap, np, pcap, rfl, lP⟩ := slice_of Tryd.underlying48 lg1
  obtain ⟨c, hl, hc, hr⟩ := S2_of Tryd.underlying47 Tryd.underlying147 (by kernel_rfl) ⟨rfl, rfl⟩ ⟨by kernel_rfl, by kernel_rfl⟩ Tryd.underlying9 Tryd.underlying3 lT
  obtain ⟨p, hnp, hpw, hpr⟩ := P4_of Tryd.underlying48 Tryd.underlying150 (by kernel_rfl) ⟨rfl, rfl, rfl, rfl⟩ ⟨by kernel_rfl, by kernel_rfl, by kernel_rfl, by kernel_rfl⟩ Tryd.underlying3 Tryd.underlying3 Tryd.underlying3 Tryd.underlying4 lP
  obtain ⟨s1, rfl, rfl, rfl, hs1⟩ := Go.ChangeMaps.open_string Tryd.underlying9 (hval 1 9 v1 rfl rfl) h1
  clear hA0 hval0
  refine (walk ad len cap c ap np pcap p s1 W hl hc hr hnp hpw hpr hs1 (of_laid hL)).mono fun e W' ⟨he, hg⟩ => ?_
  subst he
  exact ⟨_, rfl, _, _, _, [], _, [], hW', (trodAll_cons_mk (shut_bool Tryd.underlying4 _) trodAll_mk0), (trodAll_cons_mk (Below.trod laidOut (by kernel_rfl) (of_decide_eq_true (by kernel_rfl)) k0 hg lt0) (trodAll_cons_mk (Below.trod laidOut (by kernel_rfl) (of_decide_eq_true (by kernel_rfl)) k1 hg lt1) trodAll_mk0)), rfl, hg.frame _, fun h => by cases h⟩

theorem row_holds : Rows.FnExactFindPaperSaid :=
  OpenClaim.holds_of_wide 9 Tryd.f9 rfl rfl rfl rfl rfl rfl rfl ⟨rfl, rfl, rfl, rfl, rfl⟩ rfl rfl rfl rfl rfl (by kernel_rfl) Tryd.func9 (by kernel_rfl)
    (of_decide_eq_true (by kernel_rfl)) (by unfold Func.isWrapper; first | (rw [if_pos (by decide +kernel)]; kernel_rfl) | (rw [if_neg (by decide +kernel)]; exact ⟨rfl, rfl⟩))
    (fun os started H enc _ => lifted os started H enc)

end Go.Proofs.YtdhpadcihlmhiaaDoor.fnExactFindPaper

namespace Go.Proofs.YtdhpadcihlmhiaaDoor
open Go
theorem fnExactFindPaper_holds : Rows.FnExactFindPaperCardSaid :=
  Claim7.holds_tied_plain_at .later [] [.data, .data, .data] true (true, "ad61da41ca757ced5fc3b5b98d1450ab654463affced2dfc7a25b023ae947adb") false
    fnExactFindPaper.row_holds (fun _ h => by cases h) (by kernel_rfl) (fun _ h => by cases h) fnExactFindPaper_row_tie rfl ⟨rfl, rfl⟩ (by kernel_rfl) rfl
    (fun f fn hf hfn => by
      obtain rfl : f = 9 := Option.some.inj ((show Tryd.prog.funcNamed "loop.example/g00040/laws.FnExactFindPaper" = some 9 by kernel_rfl).symm.trans hf) |>.symm
      obtain rfl : fn = Tryd.f9 := (Option.some.inj (Tryd.func9.symm.trans hfn)).symm
      exact ⟨by kernel_rfl, fun j t ht => by
        rw [Tryd.params9] at ht
        have hm : t ∈ [50, 9] := by simpa using Array.mem_of_getElem? ht
        have hall : ([50, 9].all fun u => !Tryd.prog.wantsStandIn u) = true := by kernel_rfl
        exact (show Tryd.prog.wantsStandIn t = false by simpa using List.all_eq_true.1 hall t hm)⟩)
    (by kernel_rfl)
#print axioms fnExactFindPaper_holds
end Go.Proofs.YtdhpadcihlmhiaaDoor
