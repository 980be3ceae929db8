/- For every three numbers the law FnExactPeriods returns true: the program's Periods answers as the model's, and its answer owns its memory. Conditions: the two tables of lengths start as the program's text lays them, which the card ties. -/
import Derived.Test.YtadjdpoplaknkaaDoorFr
import Derived.Test.YtadjdpoplaknkaaDoorPn
import Derived.Test.YtadjdpoplaknkaaDoorTie
import Derived.Test.YtadjdpoplaknkaaDoorCards
import Derived.SevenTiedAt
import Derived.OpenVars
import Derived.ChangeVars
import Derived.Carry
namespace Go.Proofs.YtadjdpoplaknkaaDoor.fnExactPeriods
open Go.ChangeShapes Go.WideShapes Go.ChangeAt Go.WideMaps Go.WideElems Go.RowKit
set_option linter.unusedVariables false
set_option linter.unusedSimpArgs false

set_option maxHeartbeats 2000000 in
theorem walk (a0 : Int) (a1 : Int) (a2 : Int) (w : World) (hM : ML w) (hQ : QL w) :
    Calls Tryd.prog 10 #[.int .i64 a0, .int .i64 a1, .int .i64 a2] w fun e w' => e = .returned (.bool true) ∧ Below w.heap.size w w' := by
  have HT : Hid (ML w) := hM
  have HQ : Hid (QL w) := hQ
  have hp0 := hM.pos
  have hp1 := hQ.pos
  clear hM hQ
  by_cases hp : perOk a0 a1 a2
  · obtain ⟨n, rfl⟩ : ∃ n : Nat, a2 = (n : Int) := ⟨a2.toNat, by have := hp.2.1.1; omega⟩
    have hn : (n : Int) ≤ 60 := hp.2.1.2
    have HP : Hid (perOk a0 a1 (n : Int)) := hp
    clear hp
    have tok1 : True := trivial
    have tok2 : True := trivial
    have tok3 : True := trivial
    go_enter Tryd.func10, Tryd.ntmps10
    go_wp2_with (first
      | (go_at_call 22; refine (specPeriods_p _ _ _ _ HP.out).mono ?_; rintro e w1 ⟨b1, cap1, rfl, l1, R1, B1⟩)
      | (go_at_call 21; clear tok1; refine (implPeriods_p _ _ _ _ (HT.out.below B1 hp0) (HQ.out.below B1 hp1) HP.out).mono ?_; rintro e w2 ⟨b2, cap2, rfl, l2, R2, B2⟩; have R12 := R1.below B2 R1.lt; have l12 : b1 < b2 := Nat.lt_of_lt_of_le R1.lt l2; replace B2 := bel_on B1 B2)
      | (go_at_call 29; clear tok2; refine (eqPeriodS_same _ _ _ _ _ _ _ _ (by omega) R2.2 R12.2).mono ?_; rintro e w3 ⟨rfl, B3⟩; have R13 := R12.below B3 R12.lt; have R23 := R2.below B3 R2.lt; replace B3 := bel_on B2 B3)
      | (go_at_call 30; refine (mark_any _ _ _ R23.1.choose _ R23.1.choose_spec.1 R23.1.choose_spec.2 hn).mono ?_; rintro e w4 ⟨rfl, M4, B4⟩; have R14 := R13.below B4 l12; replace B4 : Below w.heap.size w w4 := B3.trans (B4.mono (by have := B1.size; omega)))
      | (go_at_call 31; clear tok3; refine (held_any _ _ _ _ M4 hn).mono ?_; rintro e w5 ⟨rfl, ew⟩; replace ew := ew.symm; subst ew)
      | (go_at_call 21; refine (implPeriods_p _ _ _ _ (HT.out.below B4 hp0) (HQ.out.below B4 hp1) HP.out).mono ?_; rintro e w6 ⟨b6, cap6, rfl, l6, R6, B6⟩; have R16 := R14.below B6 R14.lt; have M6 := M4.below B6 (by obtain ⟨_, hC, _⟩ := M4; exact hC.lt); replace B6 := bel_on B4 B6)
      | (go_at_call 29; refine (eqPeriodS_same _ _ _ _ _ _ _ _ (by omega) R6.2 R16.2).mono ?_; rintro e w7 ⟨rfl, B7⟩; have M7 := M6.below B7 (by obtain ⟨_, hC, _⟩ := M6; exact hC.lt); replace B7 := bel_on B6 B7)
      | (go_at_call 31; refine (held_any _ _ _ _ M7 hn).mono ?_; rintro e w8 ⟨rfl, ew⟩; replace ew := ew.symm; subst ew))
    go_returns
    exact ⟨rfl, B7⟩
  · have HP : Hid (¬ perOk a0 a1 a2) := hp
    clear hp
    have tok1 : True := trivial
    have tok2 : True := trivial
    have z0 : ((0 : Nat) : Int) ≤ 1048576 := by decide
    go_enter Tryd.func10, Tryd.ntmps10
    go_wp2_with (first
      | (go_at_call 22; refine (specPeriods_n _ _ _ _ HP.out).mono ?_; rintro e w1 ⟨ad1, cap1, rfl, B1⟩)
      | (go_at_call 21; clear tok1; refine (implPeriods_n _ _ _ _ (HT.out.below B1 hp0) (HQ.out.below B1 hp1) HP.out).mono ?_; rintro e w2 ⟨ad2, cap2, rfl, B2⟩; replace B2 := bel_on B1 B2)
      | (go_at_call 29; clear tok2; refine (eqPeriodS_same _ _ 0 _ _ (fun _ => 0) (fun _ => 0) _ z0 (.inl rfl) (.inl rfl)).mono ?_; rintro e w3 ⟨rfl, B3⟩; replace B3 := bel_on B2 B3)
      | (go_at_call 30; refine (mark_zero _ _ _).mono ?_; rintro e w4 ⟨rfl, ew⟩; replace ew := ew.symm; subst ew)
      | (go_at_call 31; refine (held_zero _ _ _).mono ?_; rintro e w5 ⟨rfl, ew⟩; replace ew := ew.symm; subst ew)
      | (go_at_call 21; refine (implPeriods_n _ _ _ _ (HT.out.below B3 hp0) (HQ.out.below B3 hp1) HP.out).mono ?_; rintro e w6 ⟨ad6, cap6, rfl, B6⟩; replace B6 := bel_on B3 B6)
      | (go_at_call 29; refine (eqPeriodS_same _ _ 0 _ _ (fun _ => 0) (fun _ => 0) _ z0 (.inl rfl) (.inl rfl)).mono ?_; rintro e w7 ⟨rfl, B7⟩; replace B7 := bel_on B6 B7))
    go_returns
    exact ⟨rfl, B7⟩

set_option maxRecDepth 100000 in
theorem lifted (os : Os) (started : os.Started) (H : Type) (enc : TypeId × Value → H) :
    ReturnsInHanded {} Tryd.checked os 10 .any (fun w args => (Rows.fnExactPeriodsSpec.pre enc Tryd.prog Tryd.f10 [] false w args ∧ laidMetH Tryd.prog laid2 w) ∧ sizedMet enc Tryd.prog Tryd.f10 (OpenSpec.ofChange Rows.fnExactPeriodsSpec) false w args)
      (Rows.fnExactPeriodsSpec.post enc Tryd.prog Tryd.f10 false true false false) := by
  refine returnsInHanded_of_change_and (C := Tryd.checked) (X := fun w _ => laidMetH Tryd.prog laid2 w) (fun _ _ _ hh h => h.of_heap hh) own started (by kernel_rfl) Tryd.func10
    (ChangeSpec.witness_shaped (enc := enc) (C := Tryd.checked) (os := os) (X := fun w _ => laidMetH Tryd.prog laid2 w) false (World.doorLaid Tryd.prog 400 os) #[.int .i64 0, .int .i64 0, .int .i64 0] 8 rfl (World.shaped_of_RefB (by kernel_rfl) (by kernel_rfl)) (by kernel_rfl) (by kernel_rfl) (by kernel_rfl) (door_met2 os _)) ?_
  intro W base args ds gs before hval0 hW _ _ hL _
  have hval : ∀ (j : Nat) t v, Tryd.f10.params[j]? = some t → args[j]? = some v → Value.okWide Tryd.prog W .any base t v := hval0
  have hW' := hW
  obtain ⟨p, q, hA0, hV, rfl, hfz, hnd⟩ := hW
  have hA : DataW.TrodAll enc Tryd.prog W 0 (fun _ => true) true Tryd.f10.params.toList args.toList ds p := hA0
  rw [Tryd.params10] at hA hval
  obtain ⟨v0, vs0, d0, ds0, p0, q0, hargs, rfl, rfl, h0, r0⟩ := trodAll_cons hA
  obtain ⟨v1, vs1, d1, ds1, p1, q1, rfl, rfl, rfl, h1, r1⟩ := trodAll_cons r0
  obtain ⟨v2, vs2, d2, ds2, p2, q2, rfl, rfl, rfl, h2, r2⟩ := trodAll_cons r1
  obtain ⟨rfl, rfl, rfl⟩ := trodAll_nil r2
  obtain rfl : args = #[v0, v1, v2] := by cases args; simp_all
  have hV1 := hV
  obtain ⟨_, _, _, _, gg, _, _, _, _, _, gh, _, rfl, _⟩ := trodVars_two hV
  obtain ⟨a0, rfl, rfl, rfl, w0⟩ := open_int Tryd.underlying3 (hval 0 3 v0 rfl rfl) h0
  obtain ⟨a1, rfl, rfl, rfl, w1⟩ := open_int Tryd.underlying3 (hval 1 3 v1 rfl rfl) h1
  obtain ⟨a2, rfl, rfl, rfl, w2⟩ := open_int Tryd.underlying3 (hval 2 3 v2 rfl rfl) h2
  clear hA0 hval0
  refine (walk a0 a1 a2 W (of_laid2 hL).1 (of_laid2 hL).2).mono fun e W' ⟨he, hg⟩ => ?_
  subst he
  exact ⟨_, rfl, _, _, _, [], _, _, hW', (trodAll_cons_mk (shut_bool Tryd.underlying4 _) trodAll_mk0), (trodAll_cons_mk (shut_int Tryd.underlying3 w0) (trodAll_cons_mk (shut_int Tryd.underlying3 w1) (trodAll_cons_mk (shut_int Tryd.underlying3 w2) trodAll_mk0))), Below.trodVars laidOut hg (by kernel_rfl) hV1, hg.frame _, fun h => by cases h⟩

theorem row_holds : Rows.FnExactPeriodsSaid :=
  OpenClaim.holds_of_wide 10 Tryd.f10 rfl rfl rfl rfl rfl rfl rfl ⟨rfl, rfl, rfl, rfl, rfl⟩ rfl rfl rfl rfl rfl (by kernel_rfl) Tryd.func10 (by kernel_rfl)
    (of_decide_eq_true (by kernel_rfl)) (by unfold Func.isWrapper; first | (rw [if_pos (by decide +kernel)]; kernel_rfl) | (rw [if_neg (by decide +kernel)]; exact ⟨rfl, rfl⟩))
    (fun os started H enc _ => lifted os started H enc)

end Go.Proofs.YtadjdpoplaknkaaDoor.fnExactPeriods

namespace Go.Proofs.YtadjdpoplaknkaaDoor
open Go
theorem fnExactPeriods_holds : Rows.FnExactPeriodsCardSaid :=
  Claim7.holds_tied_plain_at .later [] [.data, .data] true (true, "28b4b20e04e03052a64fc97e98ef870f25ef3248cef6f97c820d5f919366e238") false
    fnExactPeriods.row_holds (fun _ h => by cases h) (by kernel_rfl) (fun _ h => by cases h) fnExactPeriods_row_tie rfl ⟨rfl, rfl⟩ (by kernel_rfl) rfl
    (fun f fn hf hfn => by
      obtain rfl : f = 10 := Option.some.inj ((show Tryd.prog.funcNamed "loop.example/g00040/laws.FnExactPeriods" = some 10 by kernel_rfl).symm.trans hf) |>.symm
      obtain rfl : fn = Tryd.f10 := (Option.some.inj (Tryd.func10.symm.trans hfn)).symm
      exact ⟨by kernel_rfl, fun j t ht => by
        rw [Tryd.params10] at ht
        have hm : t ∈ [3, 3, 3] := by simpa using Array.mem_of_getElem? ht
        have hall : ([3, 3, 3].all fun u => !Tryd.prog.wantsStandIn u) = true := by kernel_rfl
        exact (show Tryd.prog.wantsStandIn t = false by simpa using List.all_eq_true.1 hall t hm)⟩)
    (by kernel_rfl)
#print axioms fnExactPeriods_holds
end Go.Proofs.YtadjdpoplaknkaaDoor
