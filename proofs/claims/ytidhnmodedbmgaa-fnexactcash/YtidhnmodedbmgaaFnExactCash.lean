/- For every currency and every amount the program's Cash answers as the model's, and writes nothing that was there. -/
import Derived.Test.YtidhnmodedbmgaaRows
import Derived.WalkKit
import Derived.ProofKit
import Derived.OpenShut
import Derived.ShutString
import Derived.ChangeOld
import Derived.Below
import Derived.Handy
import Derived.Carry
import Derived.Lib.SmallJoins
import Derived.Deep.SlicePairs
import Derived.Test.YtidhnmodedbmgaaCa
namespace Go.Proofs.Ytidhnmodedbmgaa.fnExactCash
open Go.ChangeShapes Go.WideShapes Go.ChangeAt Go.RowKit
set_option linter.unusedVariables false
set_option linter.unusedSimpArgs false

theorem own : ownKnob Try.prog.godebug = none := by kernel_rfl
theorem laidOut : laidOutB Try.prog = true := by kernel_rfl

set_option maxHeartbeats 4000000 in
theorem walk (s0 : ByteArray) (p0 q0 : Int) (a1 : Int) (w : World) (hs : s0.size ≤ maxLen) :
    Calls Try.prog 9 #[.agg #[.string s0, .int .i64 p0, .int .i64 q0], .int .i64 a1] w fun e w' => e = .returned (.bool true) ∧ Below w.heap.size w w' := by
  have hB0 : Below w.heap.size w (w.alloc (.cells #[.string s0, .int .i64 p0, .int .i64 q0] 52 (0, 0))) := (Below.refl _ _).alloc (Nat.le_refl _) _
  have hC := CB.new (w := w) #[.string s0, .int .i64 p0, .int .i64 q0] 52
  have hs2 : (s0.size : Int) ≤ 9223372036854775807 := by unfold maxLen at hs; omega
  by_cases hb : (s0.size : Int) ≤ 1048576
  · have tok1 : True := trivial
    have hb3 : (0 : Int) ≤ 1048576 - (s0.size : Int) := by omega
    go_enter Try.func9, Try.ntmps9
    go_wp2_with (first
      | (go_at_call 29; refine (szCur_in _ _ _ _ _ hb (by omega)).mono ?_; rintro e w1 ⟨rfl, b1⟩; have X1 := hC.below b1 (by simp); have x0 := X1.cell 0; have x1 := X1.cell 1; have x2 := X1.cell 2; simp at x0 x1 x2; replace b1 := bel_on hB0 b1)
      | (go_at_call 31; clear tok1; refine (toCur_any _ _ _ _).mono ?_; rintro e w2 ⟨rfl, b2⟩; have X2 := X1.below b2 X1.lt; replace b2 := bel_on b1 b2)
      | (go_at_call 30; refine (specCash_any _ _ _ _ _ hs).mono ?_; rintro e w3 ⟨rfl, b3⟩; have X3 := X2.below b3 X2.lt; have y0 := X3.cell 0; have y1 := X3.cell 1; have y2 := X3.cell 2; simp at y0 y1 y2; replace b3 := bel_on b2 b3)
      | (go_at_call 31; refine (toCur_any _ _ _ _).mono ?_; rintro e w4 ⟨rfl, b4⟩; replace b4 := bel_on b3 b4)
      | (go_at_call 17; refine (implCash_any _ _ _ _ _ hs).mono ?_; rintro e w5 ⟨rfl, b5⟩; replace b5 := bel_on b4 b5))
    go_returns
    exact ⟨rfl, b5⟩
  · go_enter Try.func9, Try.ntmps9
    go_wp2_with (go_at_call 29; refine (szCur_out _ _ _ _ _ (by omega) (by omega) hs2).mono ?_; rintro e w1 ⟨rfl, b1⟩; replace b1 := bel_on hB0 b1)
    go_returns
    exact ⟨rfl, b1⟩

set_option maxRecDepth 100000 in
theorem lifted (os : Os) (started : os.Started) (H : Type) (enc : TypeId × Value → H) :
    ReturnsInHanded {} Try.checked os 9 .any (Rows.fnExactCashSpec.pre6 enc Try.prog Try.f9 Rows.fnExactCashRow.domain false) (Rows.fnExactCashSpec.post enc Try.prog Try.f9 false true false false) := by
  refine returnsInHanded_of_change (C := Try.checked) own started (by kernel_rfl) Try.func9
    (ChangeSpec.witness6 (enc := enc) (C := Try.checked) false ⟨#[], #[.agg #[.string ByteArray.empty, .int .i64 0, .int .i64 0], .int .i64 0], []⟩ 8 (by kernel_rfl) (by kernel_rfl) (by kernel_rfl) (by kernel_rfl)) ?_
  intro W base args ds gs before hval0 hW hcnd _
  have hval : ∀ (j : Nat) t v, Try.f9.params[j]? = some t → args[j]? = some v → Value.okWide Try.prog W .any base t v := hval0
  have hW' := hW
  obtain ⟨p, q, hA0, hV, rfl, hfz, hnd⟩ := hW
  have hA : DataW.TrodAll enc Try.prog W 0 (fun _ => true) true Try.f9.params.toList args.toList ds p := hA0
  rw [Try.params9] at hA hval
  obtain ⟨v0, vs0, d0, ds0, p0, q0, hargs, rfl, rfl, h0, r0⟩ := trodAll_cons hA
  obtain ⟨v1, vs1, d1, ds1, p1, q1, rfl, rfl, rfl, h1, r1⟩ := trodAll_cons r0
  obtain ⟨rfl, rfl, rfl⟩ := trodAll_nil r1
  obtain rfl : args = #[v0, v1] := by cases args; simp_all
  obtain ⟨rfl, rfl⟩ := trodVars_none hV
  have k0 := h0
  have lt0 : ∀ x ∈ p0, x.block < W.heap.size := by obtain ⟨m, hm⟩ := k0; exact DataW.trod_lt m _ _ _ hm
  have k1 := h1
  have lt1 : ∀ x ∈ p1, x.block < W.heap.size := by obtain ⟨m, hm⟩ := k1; exact DataW.trod_lt m _ _ _ hm
  obtain ⟨x0, x1, x2, y0, y1, y2, nn, rfl, rfl, rfl, g0, g1, g2⟩ := Go.Joins.open_agg3 Try.underlying52 (by kernel_rfl) (by kernel_rfl) (hval 0 52 v0 rfl rfl) h0
  obtain ⟨s0, e0, rfl, hs⟩ := DataW.trod_string Try.underlying9 g0
  obtain rfl : x0 = .string s0 := by simpa using e0
  obtain ⟨u0, e1, rfl, _⟩ := DataW.trod_int Try.underlying3 g1
  obtain rfl : x1 = .int .i64 u0 := by simpa using e1
  obtain ⟨t0, e2, rfl, _⟩ := DataW.trod_int Try.underlying3 g2
  obtain rfl : x2 = .int .i64 t0 := by simpa using e2
  obtain ⟨a1, rfl, rfl, rfl, w1⟩ := open_int Try.underlying3 (hval 1 3 v1 rfl rfl) h1
  clear hA0 hval0
  refine (walk s0 u0 t0 a1 W hs).mono fun e W' ⟨he, hg⟩ => ?_
  subst he
  exact ⟨_, rfl, _, _, _, [], _, [], hW', (trodAll_cons_mk (shut_bool Try.underlying4 _) trodAll_mk0), (trodAll_cons_mk (Below.trod laidOut (by kernel_rfl) (of_decide_eq_true (by kernel_rfl)) k0 hg lt0) (trodAll_cons_mk (Below.trod laidOut (by kernel_rfl) (of_decide_eq_true (by kernel_rfl)) k1 hg lt1) trodAll_mk0)), rfl, hg.frame _, fun h => by cases h⟩

theorem over : Rows.fnExactCashRow.holds Try.pinned (OpenSpec.ofChange Rows.fnExactCashSpec) :=
  OpenClaim.holds_of_wide 9 Try.f9 rfl rfl rfl rfl rfl rfl rfl ⟨rfl, rfl, rfl, rfl, rfl⟩ rfl rfl rfl rfl rfl (by kernel_rfl) Try.func9 (by kernel_rfl)
    (of_decide_eq_true (by kernel_rfl)) (by unfold Func.isWrapper; first | (rw [if_pos (by decide +kernel)]; kernel_rfl) | (rw [if_neg (by decide +kernel)]; exact ⟨rfl, rfl⟩))
    (fun os started H enc _ => lifted os started H enc)

end Go.Proofs.Ytidhnmodedbmgaa.fnExactCash

namespace Go.Proofs.Ytidhnmodedbmgaa
theorem fnExactCash_holds : Rows.FnExactCashSaid := fnExactCash.over
#print axioms fnExactCash_holds
end Go.Proofs.Ytidhnmodedbmgaa
