/- At every chart and place the program's Under answers as the model's, leaves its argument as it was and owns its answer's memory; the seven listed refusals start as the program's text lays them. -/
import Derived.Test.YtkplhiahfebmlaaDoorFr
import Derived.Test.YtkplhiahfebmlaaDoorCq
import Derived.Test.YtkplhiahfebmlaaDoorRf
import Derived.Test.YtkplhiahfebmlaaDoorUs
import Derived.Test.YtkplhiahfebmlaaDoorMk
import Derived.Test.YtkplhiahfebmlaaDoorTie
import Derived.Test.YtkplhiahfebmlaaDoorCards
import Derived.SevenTiedAt
import Derived.OpenVars
import Derived.ChangeVars
import Derived.Carry
import Derived.Lib.SmallJoins
namespace Go.Proofs.YtkplhiahfebmlaaDoor.fnExactUnder
open Go.ChangeShapes Go.WideShapes Go.ChangeAt Go.WideMaps Go.WideElems Go.RowKit
set_option linter.unusedVariables false
set_option linter.unusedSimpArgs false

set_option maxRecDepth 20000 in
set_option maxHeartbeats 4000000 in
theorem walk (ad : Option Addr) (len cap : Nat) (c : Nat → C3) (a1 : Int) (w : World) (hl : len ≤ maxLen) (hc : ∀ j, (c j).code.size ≤ maxLen) (hr : CR w ad len c) (hE : EL w) :
    Calls Tryd.prog 7 #[.slice ad len cap, .int .i64 a1] w fun e w' => e = .returned (.bool true) ∧ Below w.heap.size w w' := by
  have HR : Hid (CR w ad len c) := hr
  have hl2 : (len : Int) ≤ 9223372036854775807 := by unfold maxLen at hl; omega
  have hc2 : Hid (∀ j, ((c j).code.size : Int) ≤ 9223372036854775807) := fun j => by have := hc j; unfold maxLen at this; omega
  have HC : Hid (∀ j, (c j).code.size ≤ maxLen) := hc
  have HE : Hid (EL w) := hE
  have h9 := hE.nine
  obtain ⟨m, hm⟩ : ∃ m, um len c a1 = m := ⟨_, rfl⟩
  have hm120 : m ≤ 120 := hm ▸ um_le len c a1
  have HM : Hid (um len c a1 = m) := hm
  have HU : Hid (∀ (ad : Option Addr) (cap : Nat) (w : World), (len : Int) ≤ 1048576 → CR w ad len c → EL w → Calls Tryd.prog 15 #[.slice ad len cap, .int .i64 a1] w (NewI m (ints a1.toNat m) w)) := fun ad cap w h1 h2 h3 => hm ▸ implUnder_any ad len cap c a1 w h1 HC.out h2 h3
  have HSU : Hid (∀ (ad : Option Addr) (cap : Nat) (w : World), (len : Int) ≤ 1048576 → CR w ad len c → Calls Tryd.prog 26 #[.slice ad len cap, .int .i64 a1] w (NewI m (ints a1.toNat m) w)) := fun ad cap w h1 h2 => hm ▸ specUnder_any ad len cap c a1 w h1 HC.out h2
  have hz : Hid (∀ j, j < m → (ints a1.toNat m)[j]? = some (.int .i64 (((a1.toNat + j : Nat) : Int)))) := fun j hj => ints_get _ _ _ hj
  have hm2 : (m : Int) ≤ 1048576 := by omega
  clear hr hc hE hm
  have tok1 : True := trivial
  have tok2 : True := trivial
  have tok3 : True := trivial
  have tok4 : True := trivial
  have tok5 : True := trivial
  have tok6 : True := trivial
  go_enter Tryd.func7, Tryd.ntmps7
  go_wp2_with (first
    | (go_at_call 17; refine (szCurS_any _ _ _ c _ hl2 hc2.out HR.out).mono ?_; rintro e w1 ⟨v, rfl, hv, b1⟩; rcases hv with rfl | ⟨hv, hb⟩)
    | (go_at_call 19; clear tok1; refine (toCurS_any _ _ _ c _ hb (HR.out.below b1)).mono ?_; rintro e w2 ⟨rfl, i2, b2⟩; replace b2 := bel_on b1 b2)
    | (go_at_call 26; refine (HSU.out _ _ w2 hb i2).mono ?_; rintro e w3 ⟨ad0, cap0, rfl, o3, b3⟩; replace b3 := bel_on b2 b3; have O3 : Hid (w3.ownsRow w2.heap.size 3 1 (.slice ad0 m cap0) m (ints a1.toNat m)) := o3; clear o3)
    | (go_at_call 19; clear tok2; refine (toCurS_cells _ _ _ c w3 hb (HR.out.below b3)).mono ?_; rintro e w4 ⟨rfl, ⟨i4, cs4, C4, s4⟩, b4⟩; have O4 : Hid (w4.ownsRow w2.heap.size 3 1 (.slice ad0 m cap0) m (ints a1.toNat m)) := row_below O3.out b4; have z34 : w3.heap.size < w4.heap.size := C4.lt; replace b4 := bel_on b3 b4)
    | (go_at_call 15; clear tok3; refine (HU.out _ _ w4 hb i4 (HE.out.below b4 h9)).mono ?_; rintro e w5 ⟨adg, capg, rfl, o5, b5⟩; have G5 : Hid (w5.ownsRow w4.heap.size 3 1 (.slice adg m capg) m (ints a1.toNat m)) := o5; have i5 := i4.below b5; have C5 : Hid (CB w5 w3.heap.size cs4 30) := C4.below b5 C4.lt; have S5 : Hid (cs4.size = len * 3) := s4; have O5 : Hid (w5.ownsRow w2.heap.size 3 1 (.slice ad0 m cap0) m (ints a1.toNat m)) := row_below O4.out b5; have Q5 : Hid (∀ g, Value.ownBlock (.slice ad0 m cap0) = some g → g < w4.heap.size) := (fun g hg => (O4.out.lt g hg).2); replace b5 := bel_on b4 b5; clear o5 C4 s4)
    | (go_at_call 27; clear tok4; refine (eqIntS_same _ _ _ _ _ _ w5 hm2 (row_IR G5.out hz.out) (row_IR O5.out hz.out)).mono ?_; rintro e w6 ⟨rfl, b6⟩; have G6 : Hid (w6.ownsRow w4.heap.size 3 1 (.slice adg m capg) m (ints a1.toNat m)) := row_below G5.out b6; have O6 : Hid (w6.ownsRow w2.heap.size 3 1 (.slice ad0 m cap0) m (ints a1.toNat m)) := row_below O5.out b6; have i6 := i5.below b6; have C6 : Hid (CB w6 w3.heap.size cs4 30) := C5.out.below b6 C5.out.lt; replace b6 := bel_on b5 b6)
    | (go_at_call 19; clear tok5; refine (toCurS_any _ _ _ c w6 hb (HR.out.below b6)).mono ?_; rintro e w7 ⟨rfl, i7, b7⟩; have j7 := i6.below b7; have G7 : Hid (w7.ownsRow w4.heap.size 3 1 (.slice adg m capg) m (ints a1.toNat m)) := row_below G6.out b7; have O7 : Hid (w7.ownsRow w2.heap.size 3 1 (.slice ad0 m cap0) m (ints a1.toNat m)) := row_below O6.out b7; have C7 : Hid (CB w7 w3.heap.size cs4 30) := C6.out.below b7 C6.out.lt; replace b7 := bel_on b6 b7)
    | (go_at_call 21; refine (eqCurS_same _ _ _ _ _ c w7 hb j7 i7).mono ?_; rintro e w8 ⟨rfl, b8⟩; have G8 : Hid (w8.ownsRow w4.heap.size 3 1 (.slice adg m capg) m (ints a1.toNat m)) := row_below G7.out b8; have O8 : Hid (w8.ownsRow w2.heap.size 3 1 (.slice ad0 m cap0) m (ints a1.toNat m)) := row_below O7.out b8; have C8 : Hid (CB w8 w3.heap.size cs4 30) := C7.out.below b8 C7.out.lt; replace b8 := bel_on b7 b8)
    | (go_at_call 28; refine (markAccS_any _ len len w.heap.size cs4 w8 hb C8.out S5.out b3.size).mono ?_; rintro e w9 ⟨rfl, k9, b9⟩; have G9 : Hid (w9.ownsRow w4.heap.size 3 1 (.slice adg m capg) m (ints a1.toNat m)) := row_block G8.out (fun g hg => k9 g (G8.out.lt g hg).2 (fun q => C8.out.ne G8.out (by decide) (by rw [hg, q]))); have O9 : Hid (w9.ownsRow w2.heap.size 3 1 (.slice ad0 m cap0) m (ints a1.toNat m)) := row_block O8.out (fun g hg => k9 g (O8.out.lt g hg).2 (fun q => C8.out.ne O8.out (by decide) (by rw [hg, q]))); replace b9 := b8.trans b9; clear k9)
    | (go_at_call 27; clear tok6; refine (eqIntS_same _ _ _ _ _ _ w9 hm2 (row_IR G9.out hz.out) (row_IR O9.out hz.out)).mono ?_; rintro e wa ⟨rfl, ba⟩; have Ga : Hid (wa.ownsRow w4.heap.size 3 1 (.slice adg m capg) m (ints a1.toNat m)) := row_below G9.out ba; have Oa : Hid (wa.ownsRow w2.heap.size 3 1 (.slice ad0 m cap0) m (ints a1.toNat m)) := row_below O9.out ba; replace ba := bel_on b9 ba)
    | (go_at_call 29; refine (markIntS_any _ _ _ w4.heap.size _ wa hm2 Ga.out).mono ?_; rintro e wb ⟨rfl, gb, kb, bb⟩; have GB : Hid (IR wb adg m (fun j => (j : Int) + 1)) := gb; have Ob : Hid (wb.ownsRow w2.heap.size 3 1 (.slice ad0 m cap0) m (ints a1.toNat m)) := row_block Oa.out (fun g hg => kb g (Oa.out.lt g hg).2 (fun q => by have h1 := Q5.out g hg; have h2 := (Ga.out.lt g q.symm).1; omega)); replace bb : Below w.heap.size w wb := ba.trans (bb.mono (by have := b4.size; omega)); clear gb kb; have tok7 : True := trivial)
    | (go_at_call 30; clear tok7; refine (heldIntS_any _ _ _ wb hm2 GB.out).mono ?_; rintro e wc ⟨rfl, ew⟩; replace ew := ew.symm; subst ew)
    | (go_at_call 19; refine (toCurS_any _ _ _ c wb hb (HR.out.below bb)).mono ?_; rintro e wd ⟨rfl, id, bd⟩; have GD : Hid (IR wd adg m (fun j => (j : Int) + 1)) := GB.out.below bd; have Od : Hid (wd.ownsRow w2.heap.size 3 1 (.slice ad0 m cap0) m (ints a1.toNat m)) := row_below Ob.out bd; replace bd := bel_on bb bd)
    | (go_at_call 15; refine (HU.out _ _ wd hb id (HE.out.below bd h9)).mono ?_; rintro e we ⟨adh, caph, rfl, oe, be⟩; have HEE : Hid (we.ownsRow wd.heap.size 3 1 (.slice adh m caph) m (ints a1.toNat m)) := oe; have GE : Hid (IR we adg m (fun j => (j : Int) + 1)) := GD.out.below be; have Oe : Hid (we.ownsRow w2.heap.size 3 1 (.slice ad0 m cap0) m (ints a1.toNat m)) := row_below Od.out be; replace be := bel_on bd be; clear oe)
    | (go_at_call 27; refine (eqIntS_same _ _ _ _ _ _ we hm2 (row_IR HEE.out hz.out) (row_IR Oe.out hz.out)).mono ?_; rintro e wf ⟨rfl, bf⟩; have GF : Hid (IR wf adg m (fun j => (j : Int) + 1)) := GE.out.below bf; replace bf := bel_on be bf)
    | (go_at_call 30; refine (heldIntS_any _ _ _ wf hm2 GF.out).mono ?_; rintro e wg ⟨rfl, ew⟩; replace ew := ew.symm; subst ew))
  · go_returns
    exact ⟨rfl, b1⟩
  · go_returns
    exact ⟨rfl, bf⟩

set_option maxRecDepth 100000 in
theorem lifted (os : Os) (started : os.Started) (H : Type) (enc : TypeId × Value → H) :
    ReturnsInHanded {} Tryd.checked os 7 .any (fun w args => (Rows.fnExactUnderSpec.pre enc Tryd.prog Tryd.f7 [] false w args ∧ laidMetH Tryd.prog laid7 w) ∧ sizedMet enc Tryd.prog Tryd.f7 (OpenSpec.ofChange Rows.fnExactUnderSpec) false w args)
      (Rows.fnExactUnderSpec.post enc Tryd.prog Tryd.f7 false true false false) := by
  refine returnsInHanded_of_change_and (C := Tryd.checked) (X := fun w _ => laidMetH Tryd.prog laid7 w) (fun _ _ _ hh h => h.of_heap hh) own started (by kernel_rfl) Tryd.func7
    (ChangeSpec.witness_shaped (enc := enc) (C := Tryd.checked) (os := os) (X := fun w _ => laidMetH Tryd.prog laid7 w) false (World.doorLaid Tryd.prog 400 os) #[.slice none 0 0, .int .i64 0] 8 rfl (World.shaped_of_RefB (by kernel_rfl) (by kernel_rfl)) (by kernel_rfl) (by kernel_rfl) (by kernel_rfl) (door_met7 os _)) ?_
  intro W base args ds gs before hval0 hW _ _ hL _
  have hval : ∀ (j : Nat) t v, Tryd.f7.params[j]? = some t → args[j]? = some v → Value.okWide Tryd.prog W .any base t v := hval0
  have hW' := hW
  obtain ⟨p, q, hA0, hV, rfl, hfz, hnd⟩ := hW
  have hA : DataW.TrodAll enc Tryd.prog W 0 (fun _ => true) true Tryd.f7.params.toList args.toList ds p := hA0
  rw [Tryd.params7] at hA hval
  obtain ⟨v0, vs0, d0, ds0, p0, q0, hargs, rfl, rfl, h0, r0⟩ := trodAll_cons hA
  obtain ⟨v1, vs1, d1, ds1, p1, q1, rfl, rfl, rfl, h1, r1⟩ := trodAll_cons r0
  obtain ⟨rfl, rfl, rfl⟩ := trodAll_nil r1
  obtain rfl : args = #[v0, v1] := by cases args; simp_all
  have hV1 := hV
  obtain ⟨x1, x2, x3, x4, x5, x6, x7, rfl⟩ := seven (trodVars_len hV)
  have k0 := h0
  have lt0 : ∀ x ∈ p0, x.block < W.heap.size := by obtain ⟨m, hm⟩ := k0; exact DataW.trod_lt m _ _ _ hm
  have k1 := h1
  have lt1 : ∀ x ∈ p1, x.block < W.heap.size := by obtain ⟨m, hm⟩ := k1; exact DataW.trod_lt m _ _ _ hm
  obtain ⟨ad, len, cap, rfl⟩ := okWide_slice Tryd.underlying33 (hval 0 33 v0 rfl rfl)
  obtain ⟨c, hl, hc, hr⟩ := curs_of Tryd.underlying33 Tryd.underlying74 (by kernel_rfl) ⟨rfl, rfl, rfl⟩ ⟨by kernel_rfl, by kernel_rfl, by kernel_rfl⟩ Tryd.underlying9 Tryd.underlying3 Tryd.underlying3 h0
  obtain ⟨a1, rfl, rfl, rfl, w1⟩ := open_int Tryd.underlying3 (hval 1 3 v1 rfl rfl) h1
  clear hA0 hval0
  refine (walk ad len cap c a1 W hl hc hr (of_laid7 hL)).mono fun e W' ⟨he, hg⟩ => ?_
  subst he
  exact ⟨_, rfl, _, _, _, [], _, _, hW', (trodAll_cons_mk (shut_bool Tryd.underlying4 _) trodAll_mk0), (trodAll_cons_mk (Below.trod laidOut (by kernel_rfl) (of_decide_eq_true (by kernel_rfl)) k0 hg lt0) (trodAll_cons_mk (Below.trod laidOut (by kernel_rfl) (of_decide_eq_true (by kernel_rfl)) k1 hg lt1) trodAll_mk0)), Below.trodVars laidOut hg (by kernel_rfl) hV1, hg.frame _, fun h => by cases h⟩

theorem row_holds : Rows.FnExactUnderSaid :=
  OpenClaim.holds_of_wide 7 Tryd.f7 rfl rfl rfl rfl rfl rfl rfl ⟨rfl, rfl, rfl, rfl, rfl⟩ rfl rfl rfl rfl rfl (by kernel_rfl) Tryd.func7 (by kernel_rfl)
    (of_decide_eq_true (by kernel_rfl)) (by unfold Func.isWrapper; first | (rw [if_pos (by decide +kernel)]; kernel_rfl) | (rw [if_neg (by decide +kernel)]; exact ⟨rfl, rfl⟩))
    (fun os started H enc _ => lifted os started H enc)

end Go.Proofs.YtkplhiahfebmlaaDoor.fnExactUnder

namespace Go.Proofs.YtkplhiahfebmlaaDoor
open Go
theorem fnExactUnder_holds : Rows.FnExactUnderCardSaid :=
  Claim7.holds_tied_plain_at .later [] [.sentinel, .sentinel, .sentinel, .sentinel, .sentinel, .sentinel, .sentinel] true (true, "9bc0da8d520b9693c1a8712bd9396e4423562277a24b2e620eca603c48470675") true
    fnExactUnder.row_holds (fun _ h => by cases h) (by kernel_rfl) (fun _ h => by cases h) fnExactUnder_row_tie rfl ⟨rfl, rfl⟩ (by kernel_rfl) rfl
    (fun f fn hf hfn => by
      obtain rfl : f = 7 := Option.some.inj ((show Tryd.prog.funcNamed "loop.example/g00040/laws.FnExactUnder" = some 7 by kernel_rfl).symm.trans hf) |>.symm
      obtain rfl : fn = Tryd.f7 := (Option.some.inj (Tryd.func7.symm.trans hfn)).symm
      exact ⟨by kernel_rfl, fun j t ht => by
        rw [Tryd.params7] at ht
        have hm : t ∈ [33, 3] := by simpa using Array.mem_of_getElem? ht
        have hall : ([33, 3].all fun u => !Tryd.prog.wantsStandIn u) = true := by kernel_rfl
        exact (show Tryd.prog.wantsStandIn t = false by simpa using List.all_eq_true.1 hall t hm)⟩)
    (by kernel_rfl)
#print axioms fnExactUnder_holds
end Go.Proofs.YtkplhiahfebmlaaDoor
