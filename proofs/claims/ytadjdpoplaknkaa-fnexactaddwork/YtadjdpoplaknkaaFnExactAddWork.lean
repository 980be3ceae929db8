/- For every calendar and every two numbers the law FnExactAddWork returns true: the program's AddWork answers as the model's and leaves its argument as it was. Conditions: none. -/
import Derived.Test.YtadjdpoplaknkaaRows
import Derived.WalkKit
import Derived.ProofKit
import Derived.OpenShut
import Derived.ShutString
import Derived.ChangeOld
import Derived.Below
import Derived.Handy
import Derived.Carry
import Derived.Lib.SmallJoins
import Derived.Deep.SlicePairs
import Derived.Test.YtadjdpoplaknkaaAs
import Derived.Test.YtadjdpoplaknkaaIo
namespace Go.Proofs.Ytadjdpoplaknkaa.fnExactAddWork
open Go.ChangeShapes Go.WideShapes Go.ChangeAt Go.RowKit
set_option linter.unusedVariables false
set_option linter.unusedSimpArgs false

theorem own : ownKnob Try.prog.godebug = none := by kernel_rfl
theorem laidOut : laidOutB Try.prog = true := by kernel_rfl

set_option maxHeartbeats 4000000 in
theorem walk (a0 : Int) (ad : Option Addr) (len cap : Nat) (z : Nat → Int) (a1 : Int) (a2 : Int) (w : World) (hl : len ≤ maxLen) (hr : IR w ad len z) :
    Calls Try.prog 7 #[.agg #[.int .i64 a0, .slice ad len cap], .int .i64 a1, .int .i64 a2] w fun e w' => e = .returned (.bool true) ∧ Below w.heap.size w w' := by
  have HR : Hid (IR w ad len z) := hr
  by_cases hb : (len : Int) ≤ 1048576
  · clear hr hl
    have tok1 : True := trivial
    have tok2 : True := trivial
    go_enter Try.func7, Try.ntmps7
    go_wp2_with (first
      | (go_at_call 18; refine (szCal_in _ _ _ _ _ hb).mono ?_; rintro e w1 ⟨rfl, b1⟩; have X1 : CB w1 w.heap.size #[.int .i64 a0, .slice ad len cap] 33 := (CB.new _ _).below b1 (by simp); replace b1 := bel_on ((Below.refl _ _).alloc (Nat.le_refl _) _) b1; have x0 := X1.cell 0; have x1 := X1.cell 1; simp at x0 x1)
      | (go_at_call 20; clear tok1; refine (toCal_any _ _ _ _ z _ hb (HR.out.below b1)).mono ?_; rintro e w2 ⟨k2, rfl, k2l, i2, b2⟩)
      | (go_at_call 14; refine (specAdd_any _ _ _ _ z _ _ _ hb i2).mono ?_; rintro e w3 ⟨rfl, b3⟩; replace b3 := bel_on b2 b3; have X3 := X1.below b3 X1.lt; have y0 := X3.cell 0; have y1 := X3.cell 1; simp at y0 y1; replace b3 := bel_on b1 b3)
      | (go_at_call 20; clear tok2; refine (toCal_any _ _ _ _ z _ hb (HR.out.below b3)).mono ?_; rintro e w4 ⟨k4, rfl, k4l, i4, b4⟩; have X4 := X3.below b4 X3.lt; replace b4 := bel_on b3 b4)
      | (go_at_call 13; refine (implAdd_any _ _ _ _ z _ _ _ hb (i4.alloc _)).mono ?_; rintro e w5 ⟨rfl, b5⟩))
    have X5 := (X4.alloc (.cells #[.int .i64 a0, .slice (some ⟨k4, 0, none⟩) len len] 26 (0, 0))).below b5 (by simp; exact Nat.lt_succ_of_lt X4.lt)
    have Y5 : CB w5 w4.heap.size #[.int .i64 a0, .slice (some ⟨k4, 0, none⟩) len len] 26 := (CB.new _ _).below b5 (by simp)
    have I5 : IR w5.drew (some ⟨k4, 0, none⟩) len z := (i4.alloc _).below b5.drew
    replace b5 : Below w.heap.size w w5.drew := (bel_on (b4.alloc b4.size _) b5).drew
    have m0 := X5.cell 0
    have m1 := X5.cell 1
    have m2 := Y5.cell 0
    have m3 := Y5.cell 1
    simp at m0 m1 m2 m3
    clear X1 X3 X4 X5 Y5 x0 x1 y0 y1 i2 i4 b1 b2 b3 b4
    go_region_held3 (fun w' => w'.cell? ⟨w.heap.size, 0, none⟩ = some (.int .i64 a0) ∧ w'.cell? ⟨w.heap.size, 1, none⟩ = some (.slice ad len cap) ∧ w'.cell? ⟨w4.heap.size, 0, none⟩ = some (.int .i64 a0) ∧ w'.cell? ⟨w4.heap.size, 1, none⟩ = some (.slice (some ⟨k4, 0, none⟩) len len) ∧ IR w' (some ⟨k4, 0, none⟩) len z ∧ Below w.heap.size w w')
      (refine ⟨?_, ?_, ?_, ?_, ?_, ?_⟩ <;> first | assumption | (simp [*]; done))
      (first
      | (go_at_call 20; refine (toCal_any _ _ _ _ z _ hb (HR.out.below (by assumption))).mono ?_; rintro e w6 ⟨k6, rfl, _, i6, b6⟩; have q0 : w6.cell? ⟨w.heap.size, 0, none⟩ = some (.int .i64 a0) := keep_cell b6 (by simp [*]); have q1 : w6.cell? ⟨w.heap.size, 1, none⟩ = some (.slice ad len cap) := keep_cell b6 (by simp [*]); have q2 : w6.cell? ⟨w4.heap.size, 0, none⟩ = some (.int .i64 a0) := keep_cell b6 (by simp [*]); have q3 : w6.cell? ⟨w4.heap.size, 1, none⟩ = some (.slice (some ⟨k4, 0, none⟩) len len) := keep_cell b6 (by simp [*]); have q4 : IR w6 (some ⟨k4, 0, none⟩) len z := IR.below (by assumption) b6; have q5 : Below w.heap.size w w6 := bel_on (by assumption) b6)
      | (go_at_call 22; refine (eqCal_same _ _ _ _ _ _ z _ hb (by assumption) (by assumption)).mono ?_; rintro e w7 ⟨rfl, b7⟩; have q0 : w7.cell? ⟨w.heap.size, 0, none⟩ = some (.int .i64 a0) := keep_cell b7 (by simp [*]); have q1 : w7.cell? ⟨w.heap.size, 1, none⟩ = some (.slice ad len cap) := keep_cell b7 (by simp [*]); have q2 : w7.cell? ⟨w4.heap.size, 0, none⟩ = some (.int .i64 a0) := keep_cell b7 (by simp [*]); have q3 : w7.cell? ⟨w4.heap.size, 1, none⟩ = some (.slice (some ⟨k4, 0, none⟩) len len) := keep_cell b7 (by simp [*]); have q4 : IR w7 (some ⟨k4, 0, none⟩) len z := IR.below (by assumption) b7; have q5 : Below w.heap.size w w7 := bel_on (by assumption) b7))
    go_wp2
    go_returns
    exact ⟨rfl, by assumption⟩
  · have hb2 : (1048576 : Int) < (len : Int) := by omega
    have hl2 : (len : Int) ≤ 9223372036854775807 := by unfold maxLen at hl; omega
    clear hr hl hb
    go_enter Try.func7, Try.ntmps7
    go_wp2_with (go_at_call 18; refine (szCal_out _ _ _ _ _ hb2 hl2).mono ?_; rintro e w1 ⟨rfl, b1⟩)
    go_returns
    exact ⟨rfl, bel_on ((Below.refl _ _).alloc (Nat.le_refl _) _) b1⟩

set_option maxRecDepth 100000 in
theorem lifted (os : Os) (started : os.Started) (H : Type) (enc : TypeId × Value → H) :
    ReturnsInHanded {} Try.checked os 7 .any (Rows.fnExactAddWorkSpec.pre6 enc Try.prog Try.f7 Rows.fnExactAddWorkRow.domain false) (Rows.fnExactAddWorkSpec.post enc Try.prog Try.f7 false true false false) := by
  refine returnsInHanded_of_change (C := Try.checked) own started (by kernel_rfl) Try.func7
    (ChangeSpec.witness6 (enc := enc) (C := Try.checked) false ⟨#[], #[.agg #[.int .i64 0, .slice none 0 0], .int .i64 0, .int .i64 0], []⟩ 8 (by kernel_rfl) (by kernel_rfl) (by kernel_rfl) (by kernel_rfl)) ?_
  intro W base args ds gs before hval0 hW hcnd _
  have hval : ∀ (j : Nat) t v, Try.f7.params[j]? = some t → args[j]? = some v → Value.okWide Try.prog W .any base t v := hval0
  have hW' := hW
  obtain ⟨p, q, hA0, hV, rfl, hfz, hnd⟩ := hW
  have hA : DataW.TrodAll enc Try.prog W 0 (fun _ => true) true Try.f7.params.toList args.toList ds p := hA0
  rw [Try.params7] at hA hval
  obtain ⟨v0, vs0, d0, ds0, p0, q0, hargs, rfl, rfl, h0, r0⟩ := trodAll_cons hA
  obtain ⟨v1, vs1, d1, ds1, p1, q1, rfl, rfl, rfl, h1, r1⟩ := trodAll_cons r0
  obtain ⟨v2, vs2, d2, ds2, p2, q2, rfl, rfl, rfl, h2, r2⟩ := trodAll_cons r1
  obtain ⟨rfl, rfl, rfl⟩ := trodAll_nil r2
  obtain rfl : args = #[v0, v1, v2] := by cases args; simp_all
  obtain ⟨rfl, rfl⟩ := trodVars_none hV
  have k0 := h0
  have lt0 : ∀ x ∈ p0, x.block < W.heap.size := by obtain ⟨m, hm⟩ := k0; exact DataW.trod_lt m _ _ _ hm
  have k1 := h1
  have lt1 : ∀ x ∈ p1, x.block < W.heap.size := by obtain ⟨m, hm⟩ := k1; exact DataW.trod_lt m _ _ _ hm
  have k2 := h2
  have lt2 : ∀ x ∈ p2, x.block < W.heap.size := by obtain ⟨m, hm⟩ := k2; exact DataW.trod_lt m _ _ _ hm
  obtain ⟨x0, x1, y0, y1, nn, rfl, rfl, rfl, g0, g1⟩ := Go.Joins.open_agg2 Try.underlying33 (by kernel_rfl) (by kernel_rfl) (hval 0 33 v0 rfl rfl) h0
  obtain ⟨a0, e0, rfl, _⟩ := DataW.trod_int Try.underlying3 g0
  obtain rfl : x0 = .int .i64 a0 := by simpa using e0
  obtain ⟨ad, len, cap, z, rfl, hl, hr⟩ := ints_of Try.underlying24 Try.underlying3 (by kernel_rfl) g1
  obtain ⟨a1, rfl, rfl, rfl, w1⟩ := open_int Try.underlying3 (hval 1 3 v1 rfl rfl) h1
  obtain ⟨a2, rfl, rfl, rfl, w2⟩ := open_int Try.underlying3 (hval 2 3 v2 rfl rfl) h2
  clear hA0 hval0
  refine (walk a0 ad len cap z a1 a2 W hl hr).mono fun e W' ⟨he, hg⟩ => ?_
  subst he
  exact ⟨_, rfl, _, _, _, [], _, [], hW', (trodAll_cons_mk (shut_bool Try.underlying4 _) trodAll_mk0), (trodAll_cons_mk (Below.trod laidOut (by kernel_rfl) (of_decide_eq_true (by kernel_rfl)) k0 hg lt0) (trodAll_cons_mk (Below.trod laidOut (by kernel_rfl) (of_decide_eq_true (by kernel_rfl)) k1 hg lt1) (trodAll_cons_mk (Below.trod laidOut (by kernel_rfl) (of_decide_eq_true (by kernel_rfl)) k2 hg lt2) trodAll_mk0))), rfl, hg.frame _, fun h => by cases h⟩

theorem over : Rows.fnExactAddWorkRow.holds Try.pinned (OpenSpec.ofChange Rows.fnExactAddWorkSpec) :=
  OpenClaim.holds_of_wide 7 Try.f7 rfl rfl rfl rfl rfl rfl rfl ⟨rfl, rfl, rfl, rfl, rfl⟩ rfl rfl rfl rfl rfl (by kernel_rfl) Try.func7 (by kernel_rfl)
    (of_decide_eq_true (by kernel_rfl)) (by unfold Func.isWrapper; first | (rw [if_pos (by decide +kernel)]; kernel_rfl) | (rw [if_neg (by decide +kernel)]; exact ⟨rfl, rfl⟩))
    (fun os started H enc _ => lifted os started H enc)

end Go.Proofs.Ytadjdpoplaknkaa.fnExactAddWork

namespace Go.Proofs.Ytadjdpoplaknkaa
theorem fnExactAddWork_holds : Rows.FnExactAddWorkSaid := fnExactAddWork.over
#print axioms fnExactAddWork_holds
end Go.Proofs.Ytadjdpoplaknkaa
