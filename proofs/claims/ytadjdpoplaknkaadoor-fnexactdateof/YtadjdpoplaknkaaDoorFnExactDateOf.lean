/- For every number the law FnExactDateOf returns true: the program's DateOf answers as the model's. Conditions: the table of the months' days starts as the program's text lays it, which the card ties. -/
import Derived.Test.YtadjdpoplaknkaaDoorFr
import Derived.Test.YtadjdpoplaknkaaDoorDq
import Derived.Test.YtadjdpoplaknkaaDoorTie
import Derived.Test.YtadjdpoplaknkaaDoorCards
import Derived.SevenTiedAt
import Derived.OpenVars
import Derived.ChangeVars
import Derived.Carry
namespace Go.Proofs.YtadjdpoplaknkaaDoor.fnExactDateOf
open Go.ChangeShapes Go.WideShapes Go.ChangeAt Go.WideMaps Go.WideElems Go.RowKit
set_option linter.unusedVariables false
set_option linter.unusedSimpArgs false

set_option maxHeartbeats 2000000 in
theorem walk (a0 : Int) (w : World) (hM : ML w) :
    Calls Tryd.prog 7 #[.int .i64 a0] w fun e w' => e = .returned (.bool true) ∧ Below w.heap.size w w' := by
  have HT : Hid (ML w) := hM
  have hp := hM.pos
  obtain ⟨t, hT⟩ : ∃ t, t = dat a0 := ⟨_, rfl⟩
  obtain ⟨ta, tb, tc⟩ := t
  have k1 : dateA (dat a0) = .agg #[.int .i64 ta, .int .i64 tb, .int .i64 tc] := by rw [← hT]; rfl
  clear hT hM
  go_enter Tryd.func7, Tryd.ntmps7
  go_wp2_with (first
    | (go_at_call 26; refine (specDateOf_any _ _).mono ?_; rintro e w1 ⟨rfl, hb1⟩; rw [k1])
    | (go_at_call 14; refine (implDateOf_any _ (w1.alloc (.cells #[.int .i64 ta, .int .i64 tb, .int .i64 tc] 27 (0, 0))) ((HT.out.below hb1 hp).alloc (by have := hb1.size; omega) _) (by simp)).mono ?_; rintro e w2 ⟨rfl, hb2⟩; rw [k1]; have D2 : DB w2 w1.heap.size ta tb tc := DB.below (DB.new ta tb tc) hb2 (by simp); have e0 := fun o => (D2.alloc o).c0; have e1 := fun o => (D2.alloc o).c1; have e2 := fun o => (D2.alloc o).c2; clear D2)
    | (go_at_call 27; refine (eqDate_same ta tb tc _).mono ?_; rintro e w3 ⟨rfl, hb3⟩))
  go_returns
  refine ⟨rfl, ?_⟩
  have s1 := hb1.size
  have s2 := hb2.size
  have a1 := (hb1.alloc s1 _).trans (hb2.mono (by simp; omega))
  exact (a1.alloc a1.size _).trans (hb3.mono (by simp; simp at s2; omega))

set_option maxRecDepth 100000 in
theorem lifted (os : Os) (started : os.Started) (H : Type) (enc : TypeId × Value → H) :
    ReturnsInHanded {} Tryd.checked os 7 .any (fun w args => (Rows.fnExactDateOfSpec.pre enc Tryd.prog Tryd.f7 [] false w args ∧ laidMetH Tryd.prog laid1 w) ∧ sizedMet enc Tryd.prog Tryd.f7 (OpenSpec.ofChange Rows.fnExactDateOfSpec) false w args)
      (Rows.fnExactDateOfSpec.post enc Tryd.prog Tryd.f7 false true false false) := by
  refine returnsInHanded_of_change_and (C := Tryd.checked) (X := fun w _ => laidMetH Tryd.prog laid1 w) (fun _ _ _ hh h => h.of_heap hh) own started (by kernel_rfl) Tryd.func7
    (ChangeSpec.witness_shaped (enc := enc) (C := Tryd.checked) (os := os) (X := fun w _ => laidMetH Tryd.prog laid1 w) false (World.doorLaid Tryd.prog 400 os) #[.int .i64 0] 8 rfl (World.shaped_of_RefB (by kernel_rfl) (by kernel_rfl)) (by kernel_rfl) (by kernel_rfl) (by kernel_rfl) (door_met1 os _)) ?_
  intro W base args ds gs before hval0 hW _ _ hL _
  have hval : ∀ (j : Nat) t v, Tryd.f7.params[j]? = some t → args[j]? = some v → Value.okWide Tryd.prog W .any base t v := hval0
  have hW' := hW
  obtain ⟨p, q, hA0, hV, rfl, hfz, hnd⟩ := hW
  have hA : DataW.TrodAll enc Tryd.prog W 0 (fun _ => true) true Tryd.f7.params.toList args.toList ds p := hA0
  rw [Tryd.params7] at hA hval
  obtain ⟨v0, vs0, d0, ds0, p0, q0, hargs, rfl, rfl, h0, r0⟩ := trodAll_cons hA
  obtain ⟨rfl, rfl, rfl⟩ := trodAll_nil r0
  obtain rfl : args = #[v0] := by cases args; simp_all
  have hV1 := hV
  obtain ⟨_, _, _, _, gg, _, rfl, _⟩ := trodVars_one hV
  obtain ⟨a0, rfl, rfl, rfl, w0⟩ := open_int Tryd.underlying3 (hval 0 3 v0 rfl rfl) h0
  clear hA0 hval0
  refine (walk a0 W (of_laid1 hL)).mono fun e W' ⟨he, hg⟩ => ?_
  subst he
  exact ⟨_, rfl, _, _, _, [], _, _, hW', (trodAll_cons_mk (shut_bool Tryd.underlying4 _) trodAll_mk0), (trodAll_cons_mk (shut_int Tryd.underlying3 w0) trodAll_mk0), Below.trodVars laidOut hg (by kernel_rfl) hV1, hg.frame _, fun h => by cases h⟩

theorem row_holds : Rows.FnExactDateOfSaid :=
  OpenClaim.holds_of_wide 7 Tryd.f7 rfl rfl rfl rfl rfl rfl rfl ⟨rfl, rfl, rfl, rfl, rfl⟩ rfl rfl rfl rfl rfl (by kernel_rfl) Tryd.func7 (by kernel_rfl)
    (of_decide_eq_true (by kernel_rfl)) (by unfold Func.isWrapper; first | (rw [if_pos (by decide +kernel)]; kernel_rfl) | (rw [if_neg (by decide +kernel)]; exact ⟨rfl, rfl⟩))
    (fun os started H enc _ => lifted os started H enc)

end Go.Proofs.YtadjdpoplaknkaaDoor.fnExactDateOf

namespace Go.Proofs.YtadjdpoplaknkaaDoor
open Go
theorem fnExactDateOf_holds : Rows.FnExactDateOfCardSaid :=
  Claim7.holds_tied_plain_at .later [] [.data] true (true, "28b4b20e04e03052a64fc97e98ef870f25ef3248cef6f97c820d5f919366e238") false
    fnExactDateOf.row_holds (fun _ h => by cases h) (by kernel_rfl) (fun _ h => by cases h) fnExactDateOf_row_tie rfl ⟨rfl, rfl⟩ (by kernel_rfl) rfl
    (fun f fn hf hfn => by
      obtain rfl : f = 7 := Option.some.inj ((show Tryd.prog.funcNamed "loop.example/g00040/laws.FnExactDateOf" = some 7 by kernel_rfl).symm.trans hf) |>.symm
      obtain rfl : fn = Tryd.f7 := (Option.some.inj (Tryd.func7.symm.trans hfn)).symm
      exact ⟨by kernel_rfl, fun j t ht => by
        rw [Tryd.params7] at ht
        have hm : t ∈ [3] := by simpa using Array.mem_of_getElem? ht
        have hall : ([3].all fun u => !Tryd.prog.wantsStandIn u) = true := by kernel_rfl
        exact (show Tryd.prog.wantsStandIn t = false by simpa using List.all_eq_true.1 hall t hm)⟩)
    (by kernel_rfl)
#print axioms fnExactDateOf_holds
end Go.Proofs.YtadjdpoplaknkaaDoor
