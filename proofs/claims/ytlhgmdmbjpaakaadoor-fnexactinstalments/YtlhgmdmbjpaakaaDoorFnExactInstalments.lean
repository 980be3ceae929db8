/- For every four numbers the law FnExactInstalments returns true: the program's Instalments answers as the model's, its answer owns its memory. Conditions: the table of the months' days starts as the program's text lays it, which the card ties. -/
import Derived.Test.YtlhgmdmbjpaakaaDoorFr
import Derived.Test.YtlhgmdmbjpaakaaDoorIe
import Derived.Test.YtlhgmdmbjpaakaaDoorTie
import Derived.Test.YtlhgmdmbjpaakaaDoorCards
import Derived.SevenTiedAt
import Derived.OpenVars
import Derived.ChangeVars
import Derived.Carry
namespace Go.Proofs.YtlhgmdmbjpaakaaDoor.fnExactInstalments
open Go.ChangeShapes Go.WideShapes Go.ChangeAt Go.WideMaps Go.WideElems Go.RowKit Go.Proofs.YtlhgmdmbjpaakaaDoor.Dt
set_option linter.unusedVariables false
set_option linter.unusedSimpArgs false

set_option maxRecDepth 20000 in
set_option maxHeartbeats 16000000 in
theorem walk (a0 : Int) (a1 : Int) (a2 : Int) (a3 : Int) (w : World) (hM : ML w) :
    Calls Tryd.prog 4 #[.int .i64 a0, .int .i64 a1, .int .i64 a2, .int .i64 a3] w fun e w' => e = .returned (.bool true) ∧ Below w.heap.size w w' := by
  have HT : Hid (Dt.ML w) := hM
  have hp := ml_pos hM
  clear hM
  obtain ⟨M, hMM⟩ : ∃ M, inM a0 a1 a2 a3 = M := ⟨_, rfl⟩
  obtain ⟨F, hF⟩ : ∃ F, inF a0 a1.toNat a2 a3 = F := ⟨_, rfl⟩
  have hM1 : (M : Int) ≤ 1048576 := by have := inM_le a0 a1 a2 a3; omega
  have HSP : Hid (∀ W, Calls Tryd.prog 8 #[.int .i64 a0, .int .i64 a1, .int .i64 a2, .int .i64 a3] W fun e w' => ∃ ad cap, e = .returned (.slice ad M cap) ∧ OwnIN4 w' W.heap.size ad M F ∧ Below W.heap.size W w') := fun W => by
    have := specInst_any a0 a1 a2 a3 W
    unfold InR at this; rw [hMM, hF] at this; exact this
  have HIM : Hid (∀ W, Below w.heap.size w W → Calls Tryd.prog 6 #[.int .i64 a0, .int .i64 a1, .int .i64 a2, .int .i64 a3] W fun e w' => ∃ ad cap, e = .returned (.slice ad M cap) ∧ OwnIN4 w' W.heap.size ad M F ∧ Below W.heap.size W w') := fun W b => by
    have := implInst_any a0 a1 a2 a3 W (HT.out.below b hp) (by have := b.size; omega)
    unfold InR at this; rw [hMM, hF] at this; exact this
  clear hMM hF
  have tok1 : True := trivial
  have tok2 : True := trivial
  have tok3 : True := trivial
  go_enter Tryd.func4, Tryd.ntmps4
  go_wp2_with (first
    | (go_at_call 8; refine (HSP.out _).mono ?_; rintro e w1 ⟨ado, capo, rfl, o1, b1⟩; have HO1 : Hid (OwnM w1 w.heap.size w1.heap.size ado M F) := ownM_of o1; have HB1 : Hid (Below w.heap.size w w1) := b1; clear o1 b1)
    | (go_at_call 6; clear tok1; refine (HIM.out _ HB1.out).mono ?_; rintro e w2 ⟨adg, capg, rfl, o2, b2⟩; have HG2 : Hid (OwnM w2 w1.heap.size w2.heap.size adg M F) := ownM_of o2; have HO2 := hid (HO1.out.below b2); have HB2 : Hid (Below w.heap.size w w2) := hid (bel_on HB1.out b2); have hs2 : w1.heap.size ≤ w2.heap.size := b2.size; clear o2 b2)
    | (go_at_call 11; clear tok2; refine (eqIN4S_same _ _ _ _ _ F _ hM1 HG2.out.row HO2.out.row).mono ?_; rintro e w3 ⟨rfl, b3⟩; have HG3 := hid (HG2.out.below b3); have HO3 := hid (HO2.out.below b3); have HB3 : Hid (Below w.heap.size w w3) := hid (bel_on HB2.out b3); clear b3)
    | (go_at_call 12; refine (markM _ _ _ _ _ F _ hM1 HG3.out).mono ?_; rintro e w4 ⟨rfl, r4, kk, b4⟩; have HR4 := hid r4; have HO4 : Hid (OwnM w4 w.heap.size w1.heap.size ado M F) := hid (HO3.out.keep (fun g h1 h2 h3 => kk g h3 (Or.inl h2))); have HB4 : Hid (Below w.heap.size w w4) := hid (HB3.out.trans (b4.mono (HB1.out.size))); clear r4 kk b4)
    | (go_at_call 13; clear tok3; refine (heldIN4S_is _ _ _ 1 _ hM1 (by omega) (by omega) HR4.out).mono ?_; rintro e wh ⟨rfl, ew⟩; replace ew := ew.symm; subst ew)
    | (go_at_call 6; refine (HIM.out _ HB4.out).mono ?_; rintro e w5 ⟨adh, caph, rfl, o5, b5⟩; have HH5 := hid o5.row; have HO5 := hid (HO4.out.below b5); have HR5 := hid (HR4.out.below b5); have HB5 : Hid (Below w.heap.size w w5) := hid (bel_on HB4.out b5); clear o5 b5)
    | (go_at_call 11; refine (eqIN4S_same _ _ _ _ _ F _ hM1 HH5.out HO5.out.row).mono ?_; rintro e w6 ⟨rfl, b6⟩; have HR6 := hid (HR5.out.below b6); have HB6 : Hid (Below w.heap.size w w6) := hid (bel_on HB5.out b6); clear b6)
    | (go_at_call 13; refine (heldIN4S_is _ _ _ 1 _ hM1 (by omega) (by omega) HR6.out).mono ?_; rintro e wh ⟨rfl, ew⟩; replace ew := ew.symm; subst ew))
  go_returns
  exact ⟨rfl, HB6.out⟩

set_option maxRecDepth 100000 in
theorem lifted (os : Os) (started : os.Started) (H : Type) (enc : TypeId × Value → H) :
    ReturnsInHanded {} Tryd.checked os 4 .any (fun w args => (Rows.fnExactInstalmentsSpec.pre enc Tryd.prog Tryd.f4 [] false w args ∧ laidMetH Tryd.prog laid1 w) ∧ sizedMet enc Tryd.prog Tryd.f4 (OpenSpec.ofChange Rows.fnExactInstalmentsSpec) false w args)
      (Rows.fnExactInstalmentsSpec.post enc Tryd.prog Tryd.f4 false true false false) := by
  refine returnsInHanded_of_change_and (C := Tryd.checked) (X := fun w _ => laidMetH Tryd.prog laid1 w) (fun _ _ _ hh h => h.of_heap hh) own started (by kernel_rfl) Tryd.func4
    (ChangeSpec.witness_shaped (enc := enc) (C := Tryd.checked) (os := os) (X := fun w _ => laidMetH Tryd.prog laid1 w) false (World.doorLaid Tryd.prog 400 os) #[.int .i64 0, .int .i64 0, .int .i64 0, .int .i64 0] 8 rfl (World.shaped_of_RefB (by kernel_rfl) (by kernel_rfl)) (by kernel_rfl) (by kernel_rfl) (by kernel_rfl) (door_met1 os _)) ?_
  intro W base args ds gs before hval0 hW _ _ hL _
  have hval : ∀ (j : Nat) t v, Tryd.f4.params[j]? = some t → args[j]? = some v → Value.okWide Tryd.prog W .any base t v := hval0
  have hW' := hW
  obtain ⟨p, q, hA0, hV, rfl, hfz, hnd⟩ := hW
  have hA : DataW.TrodAll enc Tryd.prog W 0 (fun _ => true) true Tryd.f4.params.toList args.toList ds p := hA0
  rw [Tryd.params4] at hA hval
  obtain ⟨v0, vs0, d0, ds0, p0, q0, hargs, rfl, rfl, h0, r0⟩ := trodAll_cons hA
  obtain ⟨v1, vs1, d1, ds1, p1, q1, rfl, rfl, rfl, h1, r1⟩ := trodAll_cons r0
  obtain ⟨v2, vs2, d2, ds2, p2, q2, rfl, rfl, rfl, h2, r2⟩ := trodAll_cons r1
  obtain ⟨v3, vs3, d3, ds3, p3, q3, rfl, rfl, rfl, h3, r3⟩ := trodAll_cons r2
  obtain ⟨rfl, rfl, rfl⟩ := trodAll_nil r3
  obtain rfl : args = #[v0, v1, v2, v3] := by cases args; simp_all
  have hV1 := hV
  obtain ⟨_, _, _, _, gg, _, rfl, _⟩ := trodVars_one hV
  obtain ⟨a0, rfl, rfl, rfl, w0⟩ := open_int Tryd.underlying3 (hval 0 3 v0 rfl rfl) h0
  obtain ⟨a1, rfl, rfl, rfl, w1⟩ := open_int Tryd.underlying3 (hval 1 3 v1 rfl rfl) h1
  obtain ⟨a2, rfl, rfl, rfl, w2⟩ := open_int Tryd.underlying3 (hval 2 3 v2 rfl rfl) h2
  obtain ⟨a3, rfl, rfl, rfl, w3⟩ := open_int Tryd.underlying3 (hval 3 3 v3 rfl rfl) h3
  clear hA0 hval0
  refine (walk a0 a1 a2 a3 W (of_laid1 hL)).mono fun e W' ⟨he, hg⟩ => ?_
  subst he
  exact ⟨_, rfl, _, _, _, [], _, _, hW', (trodAll_cons_mk (shut_bool Tryd.underlying4 _) trodAll_mk0), (trodAll_cons_mk (shut_int Tryd.underlying3 w0) (trodAll_cons_mk (shut_int Tryd.underlying3 w1) (trodAll_cons_mk (shut_int Tryd.underlying3 w2) (trodAll_cons_mk (shut_int Tryd.underlying3 w3) trodAll_mk0)))), Below.trodVars laidOut hg (by kernel_rfl) hV1, hg.frame _, fun h => by cases h⟩

theorem row_holds : Rows.FnExactInstalmentsSaid :=
  OpenClaim.holds_of_wide 4 Tryd.f4 rfl rfl rfl rfl rfl rfl rfl ⟨rfl, rfl, rfl, rfl, rfl⟩ rfl rfl rfl rfl rfl (by kernel_rfl) Tryd.func4 (by kernel_rfl)
    (of_decide_eq_true (by kernel_rfl)) (by unfold Func.isWrapper; first | (rw [if_pos (by decide +kernel)]; kernel_rfl) | (rw [if_neg (by decide +kernel)]; exact ⟨rfl, rfl⟩))
    (fun os started H enc _ => lifted os started H enc)

end Go.Proofs.YtlhgmdmbjpaakaaDoor.fnExactInstalments

namespace Go.Proofs.YtlhgmdmbjpaakaaDoor
open Go
theorem fnExactInstalments_holds : Rows.FnExactInstalmentsCardSaid :=
  Claim7.holds_tied_plain_at .later [] [.data] true (true, "c1d291513df1955023e2651060fbbdc84d4b392fc56135ea0bcd4c51d8c34ec8") false
    fnExactInstalments.row_holds (fun _ h => by cases h) (by kernel_rfl) (fun _ h => by cases h) fnExactInstalments_row_tie rfl ⟨rfl, rfl⟩ (by kernel_rfl) rfl
    (fun f fn hf hfn => by
      obtain rfl : f = 4 := Option.some.inj ((show Tryd.prog.funcNamed "loop.example/g00040/laws.FnExactInstalments" = some 4 by kernel_rfl).symm.trans hf) |>.symm
      obtain rfl : fn = Tryd.f4 := (Option.some.inj (Tryd.func4.symm.trans hfn)).symm
      exact ⟨by kernel_rfl, fun j t ht => by
        rw [Tryd.params4] at ht
        have hm : t ∈ [3, 3, 3, 3] := by simpa using Array.mem_of_getElem? ht
        have hall : ([3, 3, 3, 3].all fun u => !Tryd.prog.wantsStandIn u) = true := by kernel_rfl
        exact (show Tryd.prog.wantsStandIn t = false by simpa using List.all_eq_true.1 hall t hm)⟩)
    (by kernel_rfl)
#print axioms fnExactInstalments_holds
end Go.Proofs.YtlhgmdmbjpaakaaDoor
