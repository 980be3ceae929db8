/- At every machine, hour and number of hours the program's Occupy answers as the model's; no condition beyond what the statement says. -/
import Derived.Test.YtogolmbgboihdaaRows
import Derived.WalkKit
import Derived.ProofKit
import Derived.OpenShut
import Derived.ShutString
import Derived.ChangeOld
import Derived.Below
import Derived.Handy
import Derived.Carry
import Derived.Lib.SmallJoins
import Derived.Deep.SlicePairs
import Derived.Test.YtogolmbgboihdaaOe
namespace Go.Proofs.Ytogolmbgboihdaa.fnExactOccupy
open Go.ChangeShapes Go.WideShapes Go.ChangeAt Go.RowKit
set_option linter.unusedVariables false
set_option linter.unusedSimpArgs false

theorem own : ownKnob Try.prog.godebug = none := by kernel_rfl
theorem laidOut : laidOutB Try.prog = true := by kernel_rfl

set_option maxRecDepth 20000 in
set_option maxHeartbeats 4000000 in
theorem walk (mop msh mst : Int) (a1 : Int) (a2 : Int) (w : World)  :
    Calls Try.prog 7 #[.agg #[.int .i64 mop, .int .i64 msh, .int .i64 mst], .int .i64 a1, .int .i64 a2] w fun e w' => e = .returned (.bool true) ∧ Below w.heap.size w w' := by
  obtain ⟨BV, hBV⟩ : ∃ x, ocB ⟨mop, msh, mst⟩ a1 a2 = x := ⟨_, rfl⟩
  obtain ⟨EV, hEV⟩ : ∃ x, ocF ⟨mop, msh, mst⟩ a1 a2 = x := ⟨_, rfl⟩
  have HSP : Hid (∀ W : World, Calls Try.prog 32 #[.agg #[.int .i64 mop, .int .i64 msh, .int .i64 mst], .int .i64 a1, .int .i64 a2] W fun e w' => e = .returned (.tuple #[.int .i64 BV, .int .i64 EV]) ∧ Below W.heap.size W w') := fun W => by
    have := specOccupy_any ⟨mop, msh, mst⟩ a1 a2 W
    rw [hBV, hEV] at this; exact this
  have HIM : Hid (∀ W : World, Calls Try.prog 17 #[.agg #[.int .i64 mop, .int .i64 msh, .int .i64 mst], .int .i64 a1, .int .i64 a2] W fun e w' => e = .returned (.tuple #[.int .i64 BV, .int .i64 EV]) ∧ Below W.heap.size W w') := fun W => by
    have := implOccupy_any ⟨mop, msh, mst⟩ a1 a2 W
    rw [hBV, hEV] at this; exact this
  have htv : (BV != BV) = false := by simp
  have hcv : (EV != EV) = false := by simp
  clear hBV hEV
  have HBX : Hid (Below w.heap.size w (w.alloc (.cells #[.int .i64 mop, .int .i64 msh, .int .i64 mst] 61 (0, 0)))) := (Below.refl _ _).alloc (Nat.le_refl _) _
  have HCX : Hid (CB (w.alloc (.cells #[.int .i64 mop, .int .i64 msh, .int .i64 mst] 61 (0, 0))) w.heap.size #[.int .i64 mop, .int .i64 msh, .int .i64 mst] 61) := CB.new _ _
  have tok1 : True := trivial
  go_enter Try.func7, Try.ntmps7
  go_wp2_with (first
    | (go_at_call 33; clear tok1; refine (toMA3_any _ _ _ _).mono ?_; rintro e w1 ⟨rfl, b1⟩; have HB1 : Hid (Below w.heap.size w w1) := bel_on HBX.out b1; have HC1 := hid (HCX.out.below b1 HCX.out.lt); clear b1)
    | (go_at_call 32; refine (HSP.out _).mono ?_; rintro e w2 ⟨rfl, b2⟩; have HB2 : Hid (Below w.heap.size w w2) := bel_on HB1.out b2; have HC2 := hid (HC1.out.below b2 HC1.out.lt); have k0 := (HC2.out.cell 0).trans rfl; have k1 := (HC2.out.cell 1).trans rfl; have k2 := (HC2.out.cell 2).trans rfl; clear b2)
    | (go_at_call 33; refine (toMA3_any _ _ _ _).mono ?_; rintro e w3 ⟨rfl, b3⟩; have HB3 : Hid (Below w.heap.size w w3) := bel_on HB2.out b3; clear b3)
    | (go_at_call 17; refine (HIM.out _).mono ?_; rintro e w4 ⟨rfl, b4⟩; have HB4 : Hid (Below w.heap.size w w4) := bel_on HB3.out b4; clear b4))
  go_returns
  exact ⟨rfl, HB4.out⟩

set_option maxRecDepth 100000 in
theorem lifted (os : Os) (started : os.Started) (H : Type) (enc : TypeId × Value → H) :
    ReturnsInHanded {} Try.checked os 7 .any (Rows.fnExactOccupySpec.pre6 enc Try.prog Try.f7 Rows.fnExactOccupyRow.domain false) (Rows.fnExactOccupySpec.post enc Try.prog Try.f7 false true false false) := by
  refine returnsInHanded_of_change (C := Try.checked) own started (by kernel_rfl) Try.func7
    (ChangeSpec.witness6 (enc := enc) (C := Try.checked) false ⟨#[], #[.agg #[.int .i64 0, .int .i64 0, .int .i64 0], .int .i64 0, .int .i64 0], []⟩ 8 (by kernel_rfl) (by kernel_rfl) (by kernel_rfl) (by kernel_rfl)) ?_
  intro W base args ds gs before hval0 hW hcnd _
  have hval : ∀ (j : Nat) t v, Try.f7.params[j]? = some t → args[j]? = some v → Value.okWide Try.prog W .any base t v := hval0
  have hW' := hW
  obtain ⟨p, q, hA0, hV, rfl, hfz, hnd⟩ := hW
  have hA : DataW.TrodAll enc Try.prog W 0 (fun _ => true) true Try.f7.params.toList args.toList ds p := hA0
  rw [Try.params7] at hA hval
  obtain ⟨v0, vs0, d0, ds0, p0, q0, hargs, rfl, rfl, h0, r0⟩ := trodAll_cons hA
  obtain ⟨v1, vs1, d1, ds1, p1, q1, rfl, rfl, rfl, h1, r1⟩ := trodAll_cons r0
  obtain ⟨v2, vs2, d2, ds2, p2, q2, rfl, rfl, rfl, h2, r2⟩ := trodAll_cons r1
  obtain ⟨rfl, rfl, rfl⟩ := trodAll_nil r2
  obtain rfl : args = #[v0, v1, v2] := by cases args; simp_all
  obtain ⟨rfl, rfl⟩ := trodVars_none hV
  have k0 := h0
  have lt0 : ∀ x ∈ p0, x.block < W.heap.size := by obtain ⟨m, hm⟩ := k0; exact DataW.trod_lt m _ _ _ hm
  have k1 := h1
  have lt1 : ∀ x ∈ p1, x.block < W.heap.size := by obtain ⟨m, hm⟩ := k1; exact DataW.trod_lt m _ _ _ hm
  have k2 := h2
  have lt2 : ∀ x ∈ p2, x.block < W.heap.size := by obtain ⟨m, hm⟩ := k2; exact DataW.trod_lt m _ _ _ hm
  obtain ⟨tx0, tx1, tx2, ty0, ty1, ty2, tnn, rfl, rfl, rfl, tg0, tg1, tg2⟩ := Go.Joins.open_agg3 Try.underlying61 (by kernel_rfl) (by kernel_rfl) (hval 0 61 v0 rfl rfl) h0
  obtain ⟨mop, te0, mw0, _⟩ := DataW.trod_int Try.underlying3 tg0
  obtain rfl : tx0 = .int .i64 mop := by simpa using te0
  obtain ⟨msh, te1, mw1, _⟩ := DataW.trod_int Try.underlying3 tg1
  obtain rfl : tx1 = .int .i64 msh := by simpa using te1
  obtain ⟨mst, te2, mw2, _⟩ := DataW.trod_int Try.underlying3 tg2
  obtain rfl : tx2 = .int .i64 mst := by simpa using te2
  obtain ⟨a1, rfl, rfl, rfl, w1⟩ := open_int Try.underlying3 (hval 1 3 v1 rfl rfl) h1
  obtain ⟨a2, rfl, rfl, rfl, w2⟩ := open_int Try.underlying3 (hval 2 3 v2 rfl rfl) h2
  clear hA0 hval0
  refine (walk mop msh mst a1 a2 W ).mono fun e W' ⟨he, hg⟩ => ?_
  subst he
  exact ⟨_, rfl, _, _, _, [], _, [], hW', (trodAll_cons_mk (shut_bool Try.underlying4 _) trodAll_mk0), (trodAll_cons_mk (Below.trod laidOut (by kernel_rfl) (of_decide_eq_true (by kernel_rfl)) k0 hg lt0) (trodAll_cons_mk (Below.trod laidOut (by kernel_rfl) (of_decide_eq_true (by kernel_rfl)) k1 hg lt1) (trodAll_cons_mk (Below.trod laidOut (by kernel_rfl) (of_decide_eq_true (by kernel_rfl)) k2 hg lt2) trodAll_mk0))), rfl, hg.frame _, fun h => by cases h⟩

theorem over : Rows.fnExactOccupyRow.holds Try.pinned (OpenSpec.ofChange Rows.fnExactOccupySpec) :=
  OpenClaim.holds_of_wide 7 Try.f7 rfl rfl rfl rfl rfl rfl rfl ⟨rfl, rfl, rfl, rfl, rfl⟩ rfl rfl rfl rfl rfl (by kernel_rfl) Try.func7 (by kernel_rfl)
    (of_decide_eq_true (by kernel_rfl)) (by unfold Func.isWrapper; first | (rw [if_pos (by decide +kernel)]; kernel_rfl) | (rw [if_neg (by decide +kernel)]; exact ⟨rfl, rfl⟩))
    (fun os started H enc _ => lifted os started H enc)

end Go.Proofs.Ytogolmbgboihdaa.fnExactOccupy

namespace Go.Proofs.Ytogolmbgboihdaa
theorem fnExactOccupy_holds : Rows.FnExactOccupySaid := fnExactOccupy.over
#print axioms fnExactOccupy_holds
end Go.Proofs.Ytogolmbgboihdaa
