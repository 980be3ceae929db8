/- A flow's text is the same on both sides, and the program leaves the flow as it was. -/
import Derived.Test.YtdhpadcihlmhiaaDoorFr
import Derived.Test.YtdhpadcihlmhiaaDoorUm
import Derived.Test.YtdhpadcihlmhiaaDoorTie
import Derived.Test.YtdhpadcihlmhiaaDoorCards
import Derived.SevenTiedAt
import Derived.OpenVars
import Derived.ChangeVars
import Derived.Carry
import Derived.Lib.SmallJoins
namespace Go.Proofs.YtdhpadcihlmhiaaDoor.fnExactShowFlow
open Go.ChangeShapes Go.WideShapes Go.ChangeAt Go.WideMaps Go.WideElems Go.RowKit
set_option linter.unusedVariables false
set_option linter.unusedSimpArgs false

set_option maxRecDepth 20000 in
set_option maxHeartbeats 4000000 in
theorem walk (ad : Option Addr) (len cap : Nat) (c : Nat → ST) (w : World) (hl : len ≤ maxLen) (hc : ∀ j, (c j).rn ≤ maxLen ∧ (∀ i, ((c j).rz i).size ≤ maxLen)) (hr : STr w ad len c) (hE : TP w) :
    Calls Tryd.prog 11 #[.slice ad len cap] w fun e w' => e = .returned (.bool true) ∧ Below w.heap.size w w' := by
  have hl2 : (len : Int) ≤ 9223372036854775807 := by unfold maxLen at hl; omega
  have HR : Hid (STr w ad len c) := hr
  have HC : Hid (STz c) := hc
  have HE := hid hE
  have HZ : Hid ((∀ j, ((c j).rn : Int) ≤ 9223372036854775807) ∧ (∀ j i, (((c j).rz i).size : Int) ≤ 9223372036854775807)) := ⟨fun j => by have := (hc j).1; unfold maxLen at this; omega, fun j i => by have := (hc j).2 i; unfold maxLen at this; omega⟩
  obtain ⟨v, hv0⟩ : ∃ v, shoT len c = v := ⟨_, rfl⟩
  have HV : Hid (shoT len c = v) := hv0
  have tk1 : True := trivial
  have tk2 : True := trivial
  clear hr hc hl hv0 hE
  go_enter Tryd.func11, Tryd.ntmps11
  go_wp2_with (first
    | (go_at_call 39; refine (szSTS_any _ _ _ c _ _ (by omega) (by omega) hl2 HZ.out.1 HZ.out.2 HR.out).mono ?_; rintro e w1 ⟨v1, rfl, hv, b1⟩; have HB1 : Hid (Below w.heap.size w w1) := b1; clear b1; rcases hv with rfl | ⟨hv, hv1, hb, hn⟩; rotate_left; (have HN : Hid (∀ j, j < len → ((c j).rn : Int) ≤ 1048576) := hn); (have h3 : ¬ v1 < 0 := by omega); clear hn)
    | (go_at_call 40; clear tk1; refine (toSTS_any _ _ _ c _ hb HN.out (HR.out.below HB1.out)).mono ?_; rintro e w2 ⟨rfl, ⟨bt2, i2⟩, b2⟩; have HI2 : Hid (STr w2 (some ⟨w1.heap.size, 0, none⟩) len c) := i2.row; have HB2 : Hid (Below w.heap.size w w2) := bel_on HB1.out b2; clear i2 b2)
    | (go_at_call 25; refine (specFlow_any _ _ _ c _ hb HC.out HI2.out).mono ?_; rintro e w3 ⟨rfl, b3⟩; have HB3 : Hid (Below w.heap.size w w3) := bel_on HB2.out b3; rw [HV.out]; clear b3)
    | (go_at_call 40; clear tk2; refine (toSTS_any _ _ _ c _ hb HN.out (HR.out.below HB3.out)).mono ?_; rintro e w4 ⟨rfl, ⟨bt4, i4⟩, b4⟩; have HI4 : Hid (STr w4 (some ⟨w3.heap.size, 0, none⟩) len c) := i4.row; have HB4 : Hid (Below w.heap.size w w4) := bel_on HB3.out b4; clear i4 b4)
    | (go_at_call 24; refine (implFlow_any _ _ _ c _ hb (Nat.le_refl _) HC.out HI4.out (HE.out.below HB4.out)).mono ?_; rintro e w5 ⟨rfl, b5⟩; have HB5 : Hid (Below w.heap.size w w5) := bel_on HB4.out b5; have HI5 := hid (HI4.out.below b5); rw [HV.out]; clear b5)
    | (go_at_call 40; refine (toSTS_any _ _ _ c _ hb HN.out (HR.out.below HB5.out)).mono ?_; rintro e w6 ⟨rfl, ⟨bt6, i6⟩, b6⟩; have HI6 : Hid (STr w6 (some ⟨w5.heap.size, 0, none⟩) len c) := i6.row; have HJ6 := hid (HI5.out.below b6); have HB6 : Hid (Below w.heap.size w w6) := bel_on HB5.out b6; clear i6 b6)
    | (go_at_call 36; refine (eqSTS_same _ _ _ _ _ c _ hb HN.out HJ6.out HI6.out).mono ?_; rintro e w7 ⟨rfl, b7⟩; have HB7 : Hid (Below w.heap.size w w7) := bel_on HB6.out b7; clear b7))
  · go_returns
    exact ⟨rfl, HB7.out⟩
  · go_returns
    exact ⟨rfl, HB1.out⟩

set_option maxRecDepth 100000 in
theorem lifted (os : Os) (started : os.Started) (H : Type) (enc : TypeId × Value → H) :
    ReturnsInHanded {} Tryd.checked os 11 .any (fun w args => (Rows.fnExactShowFlowSpec.pre enc Tryd.prog Tryd.f11 [] false w args ∧ laidMetH Tryd.prog laid3 w) ∧ sizedMet enc Tryd.prog Tryd.f11 (OpenSpec.ofChange Rows.fnExactShowFlowSpec) false w args)
      (Rows.fnExactShowFlowSpec.post enc Tryd.prog Tryd.f11 false true false false) := by
  refine returnsInHanded_of_change_and (C := Tryd.checked) (X := fun w _ => laidMetH Tryd.prog laid3 w) (fun _ _ _ hh h => h.of_heap hh) own started (by kernel_rfl) Tryd.func11
    (ChangeSpec.witness_shaped (enc := enc) (C := Tryd.checked) (os := os) (X := fun w _ => laidMetH Tryd.prog laid3 w) false (World.doorLaid Tryd.prog 400 os) #[.slice none 0 0] 8 rfl (World.shaped_of_RefB (by kernel_rfl) (by kernel_rfl)) (by kernel_rfl) (by kernel_rfl) (by kernel_rfl) (door_met os _)) ?_
  intro W base args ds gs before hval0 hW _ _ hL _
  have hval : ∀ (j : Nat) t v, Tryd.f11.params[j]? = some t → args[j]? = some v → Value.okWide Tryd.prog W .any base t v := hval0
  have hW' := hW
  obtain ⟨p, q, hA0, hV, rfl, hfz, hnd⟩ := hW
  have hA : DataW.TrodAll enc Tryd.prog W 0 (fun _ => true) true Tryd.f11.params.toList args.toList ds p := hA0
  rw [Tryd.params11] at hA hval
  obtain ⟨v0, vs0, d0, ds0, p0, q0, hargs, rfl, rfl, h0, r0⟩ := trodAll_cons hA
  obtain ⟨rfl, rfl, rfl⟩ := trodAll_nil r0
  obtain rfl : args = #[v0] := by cases args; simp_all
  obtain ⟨rfl, rfl⟩ := trodVars_none hV
  have k0 := h0
  have lt0 : ∀ x ∈ p0, x.block < W.heap.size := by obtain ⟨m, hm⟩ := k0; exact DataW.trod_lt m _ _ _ hm
  obtain ⟨ad, len, cap, rfl⟩ := okWide_slice Tryd.underlying62 (hval 0 62 v0 rfl rfl)
  obtain ⟨c, hl, hc, hr⟩ := ST_of Tryd.underlying62 Tryd.underlying121 (by kernel_rfl) ⟨rfl, rfl⟩ ⟨by kernel_rfl, by kernel_rfl⟩ Tryd.underlying3 Tryd.underlying44 Tryd.underlying9 (by kernel_rfl) h0
  clear hA0 hval0
  refine (walk ad len cap c W hl hc hr (of_laid hL)).mono fun e W' ⟨he, hg⟩ => ?_
  subst he
  exact ⟨_, rfl, _, _, _, [], _, [], hW', (trodAll_cons_mk (shut_bool Tryd.underlying4 _) trodAll_mk0), (trodAll_cons_mk (Below.trod laidOut (by kernel_rfl) (of_decide_eq_true (by kernel_rfl)) k0 hg lt0) trodAll_mk0), rfl, hg.frame _, fun h => by cases h⟩

theorem row_holds : Rows.FnExactShowFlowSaid :=
  OpenClaim.holds_of_wide 11 Tryd.f11 rfl rfl rfl rfl rfl rfl rfl ⟨rfl, rfl, rfl, rfl, rfl⟩ rfl rfl rfl rfl rfl (by kernel_rfl) Tryd.func11 (by kernel_rfl)
    (of_decide_eq_true (by kernel_rfl)) (by unfold Func.isWrapper; first | (rw [if_pos (by decide +kernel)]; kernel_rfl) | (rw [if_neg (by decide +kernel)]; exact ⟨rfl, rfl⟩))
    (fun os started H enc _ => lifted os started H enc)

end Go.Proofs.YtdhpadcihlmhiaaDoor.fnExactShowFlow

namespace Go.Proofs.YtdhpadcihlmhiaaDoor
open Go
theorem fnExactShowFlow_holds : Rows.FnExactShowFlowCardSaid :=
  Claim7.holds_tied_plain_at .later [] [.data, .data, .data] true (true, "ad61da41ca757ced5fc3b5b98d1450ab654463affced2dfc7a25b023ae947adb") false
    fnExactShowFlow.row_holds (fun _ h => by cases h) (by kernel_rfl) (fun _ h => by cases h) fnExactShowFlow_row_tie rfl ⟨rfl, rfl⟩ (by kernel_rfl) rfl
    (fun f fn hf hfn => by
      obtain rfl : f = 11 := Option.some.inj ((show Tryd.prog.funcNamed "loop.example/g00040/laws.FnExactShowFlow" = some 11 by kernel_rfl).symm.trans hf) |>.symm
      obtain rfl : fn = Tryd.f11 := (Option.some.inj (Tryd.func11.symm.trans hfn)).symm
      exact ⟨by kernel_rfl, fun j t ht => by
        rw [Tryd.params11] at ht
        have hm : t ∈ [62] := by simpa using Array.mem_of_getElem? ht
        have hall : ([62].all fun u => !Tryd.prog.wantsStandIn u) = true := by kernel_rfl
        exact (show Tryd.prog.wantsStandIn t = false by simpa using List.all_eq_true.1 hall t hm)⟩)
    (by kernel_rfl)
#print axioms fnExactShowFlow_holds
end Go.Proofs.YtdhpadcihlmhiaaDoor
