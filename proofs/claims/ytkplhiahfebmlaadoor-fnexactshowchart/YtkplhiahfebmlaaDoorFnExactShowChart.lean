/- At every chart the program's ShowChart answers as the model's and leaves its argument as it was; the seven listed refusals start as the program's text lays them. -/
import Derived.Test.YtkplhiahfebmlaaDoorFr
import Derived.Test.YtkplhiahfebmlaaDoorCq
import Derived.Test.YtkplhiahfebmlaaDoorRf
import Derived.Test.YtkplhiahfebmlaaDoorSi
import Derived.Test.YtkplhiahfebmlaaDoorTie
import Derived.Test.YtkplhiahfebmlaaDoorCards
import Derived.SevenTiedAt
import Derived.OpenVars
import Derived.ChangeVars
import Derived.Carry
import Derived.Lib.SmallJoins
namespace Go.Proofs.YtkplhiahfebmlaaDoor.fnExactShowChart
open Go.ChangeShapes Go.WideShapes Go.ChangeAt Go.WideMaps Go.WideElems Go.RowKit
set_option linter.unusedVariables false
set_option linter.unusedSimpArgs false

set_option maxRecDepth 20000 in
set_option maxHeartbeats 4000000 in
theorem walk (ad : Option Addr) (len cap : Nat) (c : Nat → C3) (w : World) (hl : len ≤ maxLen) (hc : ∀ j, (c j).code.size ≤ maxLen) (hr : CR w ad len c) (hE : EL w) :
    Calls Tryd.prog 9 #[.slice ad len cap] w fun e w' => e = .returned (.bool true) ∧ Below w.heap.size w w' := by
  have HR : Hid (CR w ad len c) := hr
  have hl2 : (len : Int) ≤ 9223372036854775807 := by unfold maxLen at hl; omega
  have hc2 : Hid (∀ j, ((c j).code.size : Int) ≤ 9223372036854775807) := fun j => by have := hc j; unfold maxLen at this; omega
  have HC : Hid (∀ j, (c j).code.size ≤ maxLen) := hc
  have HE : Hid (EL w) := hE
  have h9 := hE.nine
  clear hr hc hE
  have tok1 : True := trivial
  have tok2 : True := trivial
  obtain ⟨X, hX⟩ : ∃ X, str (showL c (tn len c)) = X := ⟨_, rfl⟩
  have HI : Hid (∀ (ad : Option Addr) (cap : Nat) (w : World), (len : Int) ≤ 1048576 → CR w ad len c → EL w → Calls Tryd.prog 33 #[.slice ad len cap] w fun e w' => e = .returned (.string X) ∧ Below w.heap.size w w') := fun ad cap w h1 h2 h3 => hX ▸ implShow_any ad len cap c w h1 HC.out h2 h3
  have HSP : Hid (∀ (ad : Option Addr) (cap : Nat) (w : World), (len : Int) ≤ 1048576 → CR w ad len c → Calls Tryd.prog 32 #[.slice ad len cap] w fun e w' => e = .returned (.string X) ∧ Below w.heap.size w w') := fun ad cap w h1 h2 => hX ▸ specShow_any ad len cap c w h1 HC.out h2
  clear hX
  go_enter Tryd.func9, Tryd.ntmps9
  go_wp2_with (first
    | (go_at_call 17; refine (szCurS_any _ _ _ c _ hl2 hc2.out HR.out).mono ?_; rintro e w1 ⟨v, rfl, hv, b1⟩; rcases hv with rfl | ⟨hv, hb⟩)
    | (go_at_call 19; clear tok1; refine (toCurS_any _ _ _ c _ hb (HR.out.below b1)).mono ?_; rintro e w2 ⟨rfl, i2, b2⟩; replace b2 := bel_on b1 b2)
    | (go_at_call 32; refine (HSP.out _ _ _ hb i2).mono ?_; rintro e w3 ⟨rfl, b3⟩; replace b3 := bel_on b2 b3)
    | (go_at_call 19; clear tok2; refine (toCurS_any _ _ _ c _ hb (HR.out.below b3)).mono ?_; rintro e w4 ⟨rfl, i4, b4⟩; replace b4 := bel_on b3 b4)
    | (go_at_call 33; refine (HI.out _ _ _ hb i4 (HE.out.below b4 h9)).mono ?_; rintro e w5 ⟨rfl, b5⟩; have i5 := i4.below b5; replace b5 := bel_on b4 b5)
    | (go_at_call 19; refine (toCurS_any _ _ _ c _ hb (HR.out.below b5)).mono ?_; rintro e w6 ⟨rfl, i6, b6⟩; have j6 := i5.below b6; replace b6 := bel_on b5 b6)
    | (go_at_call 21; refine (eqCurS_same _ _ _ _ _ c _ hb j6 i6).mono ?_; rintro e w7 ⟨rfl, b7⟩; replace b7 := bel_on b6 b7))
  · go_returns
    exact ⟨rfl, b1⟩
  · go_returns
    exact ⟨rfl, b7⟩

set_option maxRecDepth 100000 in
theorem lifted (os : Os) (started : os.Started) (H : Type) (enc : TypeId × Value → H) :
    ReturnsInHanded {} Tryd.checked os 9 .any (fun w args => (Rows.fnExactShowChartSpec.pre enc Tryd.prog Tryd.f9 [] false w args ∧ laidMetH Tryd.prog laid7 w) ∧ sizedMet enc Tryd.prog Tryd.f9 (OpenSpec.ofChange Rows.fnExactShowChartSpec) false w args)
      (Rows.fnExactShowChartSpec.post enc Tryd.prog Tryd.f9 false true false false) := by
  refine returnsInHanded_of_change_and (C := Tryd.checked) (X := fun w _ => laidMetH Tryd.prog laid7 w) (fun _ _ _ hh h => h.of_heap hh) own started (by kernel_rfl) Tryd.func9
    (ChangeSpec.witness_shaped (enc := enc) (C := Tryd.checked) (os := os) (X := fun w _ => laidMetH Tryd.prog laid7 w) false (World.doorLaid Tryd.prog 400 os) #[.slice none 0 0] 8 rfl (World.shaped_of_RefB (by kernel_rfl) (by kernel_rfl)) (by kernel_rfl) (by kernel_rfl) (by kernel_rfl) (door_met7 os _)) ?_
  intro W base args ds gs before hval0 hW _ _ hL _
  have hval : ∀ (j : Nat) t v, Tryd.f9.params[j]? = some t → args[j]? = some v → Value.okWide Tryd.prog W .any base t v := hval0
  have hW' := hW
  obtain ⟨p, q, hA0, hV, rfl, hfz, hnd⟩ := hW
  have hA : DataW.TrodAll enc Tryd.prog W 0 (fun _ => true) true Tryd.f9.params.toList args.toList ds p := hA0
  rw [Tryd.params9] at hA hval
  obtain ⟨v0, vs0, d0, ds0, p0, q0, hargs, rfl, rfl, h0, r0⟩ := trodAll_cons hA
  obtain ⟨rfl, rfl, rfl⟩ := trodAll_nil r0
  obtain rfl : args = #[v0] := by cases args; simp_all
  have hV1 := hV
  obtain ⟨x1, x2, x3, x4, x5, x6, x7, rfl⟩ := seven (trodVars_len hV)
  have k0 := h0
  have lt0 : ∀ x ∈ p0, x.block < W.heap.size := by obtain ⟨m, hm⟩ := k0; exact DataW.trod_lt m _ _ _ hm
  obtain ⟨ad, len, cap, rfl⟩ := okWide_slice Tryd.underlying33 (hval 0 33 v0 rfl rfl)
  obtain ⟨c, hl, hc, hr⟩ := curs_of Tryd.underlying33 Tryd.underlying74 (by kernel_rfl) ⟨rfl, rfl, rfl⟩ ⟨by kernel_rfl, by kernel_rfl, by kernel_rfl⟩ Tryd.underlying9 Tryd.underlying3 Tryd.underlying3 h0
  clear hA0 hval0
  refine (walk ad len cap c W hl hc hr (of_laid7 hL)).mono fun e W' ⟨he, hg⟩ => ?_
  subst he
  exact ⟨_, rfl, _, _, _, [], _, _, hW', (trodAll_cons_mk (shut_bool Tryd.underlying4 _) trodAll_mk0), (trodAll_cons_mk (Below.trod laidOut (by kernel_rfl) (of_decide_eq_true (by kernel_rfl)) k0 hg lt0) trodAll_mk0), Below.trodVars laidOut hg (by kernel_rfl) hV1, hg.frame _, fun h => by cases h⟩

theorem row_holds : Rows.FnExactShowChartSaid :=
  OpenClaim.holds_of_wide 9 Tryd.f9 rfl rfl rfl rfl rfl rfl rfl ⟨rfl, rfl, rfl, rfl, rfl⟩ rfl rfl rfl rfl rfl (by kernel_rfl) Tryd.func9 (by kernel_rfl)
    (of_decide_eq_true (by kernel_rfl)) (by unfold Func.isWrapper; first | (rw [if_pos (by decide +kernel)]; kernel_rfl) | (rw [if_neg (by decide +kernel)]; exact ⟨rfl, rfl⟩))
    (fun os started H enc _ => lifted os started H enc)

end Go.Proofs.YtkplhiahfebmlaaDoor.fnExactShowChart

namespace Go.Proofs.YtkplhiahfebmlaaDoor
open Go
theorem fnExactShowChart_holds : Rows.FnExactShowChartCardSaid :=
  Claim7.holds_tied_plain_at .later [] [.sentinel, .sentinel, .sentinel, .sentinel, .sentinel, .sentinel, .sentinel] true (true, "9bc0da8d520b9693c1a8712bd9396e4423562277a24b2e620eca603c48470675") true
    fnExactShowChart.row_holds (fun _ h => by cases h) (by kernel_rfl) (fun _ h => by cases h) fnExactShowChart_row_tie rfl ⟨rfl, rfl⟩ (by kernel_rfl) rfl
    (fun f fn hf hfn => by
      obtain rfl : f = 9 := Option.some.inj ((show Tryd.prog.funcNamed "loop.example/g00040/laws.FnExactShowChart" = some 9 by kernel_rfl).symm.trans hf) |>.symm
      obtain rfl : fn = Tryd.f9 := (Option.some.inj (Tryd.func9.symm.trans hfn)).symm
      exact ⟨by kernel_rfl, fun j t ht => by
        rw [Tryd.params9] at ht
        have hm : t ∈ [33] := by simpa using Array.mem_of_getElem? ht
        have hall : ([33].all fun u => !Tryd.prog.wantsStandIn u) = true := by kernel_rfl
        exact (show Tryd.prog.wantsStandIn t = false by simpa using List.all_eq_true.1 hall t hm)⟩)
    (by kernel_rfl)
#print axioms fnExactShowChart_holds
end Go.Proofs.YtkplhiahfebmlaaDoor
