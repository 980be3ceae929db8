/- At every worth Value of the program answers as the model does, and leaves it as it was. -/
import Derived.Test.YtdgccdlaokbnhaaRows
import Derived.WalkKit
import Derived.ProofKit
import Derived.OpenShut
import Derived.ShutString
import Derived.ChangeOld
import Derived.Below
import Derived.Handy
import Derived.Carry
import Derived.Lib.SmallJoins
import Derived.Deep.SlicePairs
import Derived.Test.YtdgccdlaokbnhaaWd
namespace Go.Proofs.Ytdgccdlaokbnhaa.fnExactValue
open Go.ChangeShapes Go.WideShapes Go.ChangeAt Go.RowKit
set_option linter.unusedVariables false
set_option linter.unusedSimpArgs false

theorem own : ownKnob Try.prog.godebug = none := by kernel_rfl
theorem laidOut : laidOutB Try.prog = true := by kernel_rfl

set_option maxRecDepth 20000 in
set_option maxHeartbeats 4000000 in
theorem walk (wm wp : Int) (ad : Option Addr) (len cap : Nat) (wo : Int) (c : Nat → LA2) (w : World) (hl : len ≤ maxLen) (hr : LAr w ad len c) :
    Calls Try.prog 12 #[.agg #[.int .i64 wm, .int .i64 wp, .slice ad len cap, .int .i64 wo]] w fun e w' => e = .returned (.bool true) ∧ Below w.heap.size w w' := by
  have HR : Hid (LAr w ad len c) := hr
  have hl2 : (len : Int) ≤ 9223372036854775807 := by unfold maxLen at hl; omega
  clear hr hl
  have tok1 : True := trivial
  have tok2 : True := trivial
  go_enter Try.func12, Try.ntmps12
  go_wp2_with (first
    | (go_at_call 27; refine (szWorth_any _ _ _ _ _ _ _ _ (by omega) (by omega) hl2).mono ?_; rintro e w1 ⟨v, rfl, hv, b1⟩; have HU1 : Hid (WB w wm wp ad len cap wo c w1) := hid ((WB.start HR.out).below b1); clear b1; obtain ⟨a0, a1, a2, a3⟩ := HU1.out.cells; have la := HU1.out.bx.lt; rcases hv with rfl | ⟨hv, hv1, hb⟩)
    | (go_at_call 28; clear tok1; refine (toWorth_any _ _ _ _ _ _ c _ hb HU1.out.r).mono ?_; rintro e w2 ⟨x2, _, rfl, ⟨i2, _⟩, b2⟩; have HU2 := hid (HU1.out.below b2); have HI2 := hid i2; clear i2 b2)
    | (go_at_call 48; refine (specValue_any _ _ _ _ _ _ c _ _ _ hb HI2.out rfl rfl).mono ?_; rintro e w3 ⟨rfl, b3⟩; have HU3 := hid (HU2.out.below b3); clear b3; obtain ⟨b0, b1, b2, b3⟩ := HU3.out.cells; have lb := HU3.out.bx.lt)
    | (go_at_call 28; clear tok2; refine (toWorth_any _ _ _ _ _ _ c _ hb HU3.out.r).mono ?_; rintro e w4 ⟨yb, _, rfl, ⟨i4, _⟩, b4⟩; have HU4 := hid (HU3.out.below b4); have HI4 := hid i4; clear i4 b4)
    | (go_at_call 23; refine (implValue_any _ _ _ _ _ _ c _ _ _ hb (HI4.out.alloc _) rfl rfl).mono ?_; rintro e w5 ⟨rfl, b5⟩; have HX5 : Hid (WX w wm wp ad len cap wo c w4.heap.size yb w5) := hid ⟨(HU4.out.alloc _).below b5, (CB.new _ _).below b5 (CB.new _ _).lt, (HI4.out.alloc _).below b5⟩; clear b5))
  · go_returns
    exact ⟨rfl, HU1.out.bl⟩
  have D0 := HX5.out
  obtain ⟨xb, hxb⟩ : ∃ xb, w4.heap.size = xb := ⟨_, rfl⟩
  rw [hxb] at D0 ⊢
  have D1 : WX w wm wp ad len cap wo c xb yb w5.drew := D0.below ((Below.refl _ _).drew)
  obtain ⟨p0, p1, p2, p3⟩ := D1.cells
  obtain ⟨r0, r1, r2, r3⟩ := D1.u.cells
  clear D0 HX5 HU4 HU3 HU2 HU1 HI2 HI4
  go_region_held3 (fun w' => (w'.cell? ⟨w.heap.size, 0, none⟩ = some (.int .i64 wm) ∧ w'.cell? ⟨w.heap.size, 1, none⟩ = some (.int .i64 wp) ∧ w'.cell? ⟨w.heap.size, 2, none⟩ = some (.slice ad len cap) ∧ w'.cell? ⟨w.heap.size, 3, none⟩ = some (.int .i64 wo) ∧ w'.cell? ⟨xb, 0, none⟩ = some (.int .i64 wm) ∧ w'.cell? ⟨xb, 1, none⟩ = some (.int .i64 wp) ∧ w'.cell? ⟨xb, 2, none⟩ = some (.slice (some ⟨yb, 0, none⟩) len len) ∧ w'.cell? ⟨xb, 3, none⟩ = some (.int .i64 wo)) ∧ WX w wm wp ad len cap wo c xb yb w')
    (refine ⟨⟨?_, ?_, ?_, ?_, ?_, ?_, ?_, ?_⟩, ?_⟩ <;> first | assumption | (simp [*]; done))
    (first
    | (go_at_call 28; refine (toWorth_any _ _ _ _ _ _ c _ hb (WX.u (xb := xb) (yb := yb) (by assumption)).r).mono ?_; rintro e w6 ⟨z6, _, rfl, ⟨i6, _⟩, b6⟩; have q0 : w6.cell? ⟨w.heap.size, 0, none⟩ = some (.int .i64 wm) := keep_cell b6 (by simp [*]); have q1 : w6.cell? ⟨w.heap.size, 1, none⟩ = some (.int .i64 wp) := keep_cell b6 (by simp [*]); have q2 : w6.cell? ⟨w.heap.size, 2, none⟩ = some (.slice ad len cap) := keep_cell b6 (by simp [*]); have q3 : w6.cell? ⟨w.heap.size, 3, none⟩ = some (.int .i64 wo) := keep_cell b6 (by simp [*]); have q4 : w6.cell? ⟨xb, 0, none⟩ = some (.int .i64 wm) := keep_cell b6 (by simp [*]); have q5 : w6.cell? ⟨xb, 1, none⟩ = some (.int .i64 wp) := keep_cell b6 (by simp [*]); have q6 : w6.cell? ⟨xb, 2, none⟩ = some (.slice (some ⟨yb, 0, none⟩) len len) := keep_cell b6 (by simp [*]); have q7 : w6.cell? ⟨xb, 3, none⟩ = some (.int .i64 wo) := keep_cell b6 (by simp [*]); have q8 : WX w wm wp ad len cap wo c xb yb w6 := WX.below (by assumption) b6; have HI6 := hid i6; clear i6)
    | (go_at_call 29; refine (eqWorth_same _ _ _ _ _ _ _ _ c _ hb (WX.xr (w := w) (ad := ad) (cap := cap) (xb := xb) (by assumption)) HI6.out).mono ?_; rintro e w7 ⟨rfl, b7⟩; have q0 : w7.cell? ⟨w.heap.size, 0, none⟩ = some (.int .i64 wm) := keep_cell b7 (by simp [*]); have q1 : w7.cell? ⟨w.heap.size, 1, none⟩ = some (.int .i64 wp) := keep_cell b7 (by simp [*]); have q2 : w7.cell? ⟨w.heap.size, 2, none⟩ = some (.slice ad len cap) := keep_cell b7 (by simp [*]); have q3 : w7.cell? ⟨w.heap.size, 3, none⟩ = some (.int .i64 wo) := keep_cell b7 (by simp [*]); have q4 : w7.cell? ⟨xb, 0, none⟩ = some (.int .i64 wm) := keep_cell b7 (by simp [*]); have q5 : w7.cell? ⟨xb, 1, none⟩ = some (.int .i64 wp) := keep_cell b7 (by simp [*]); have q6 : w7.cell? ⟨xb, 2, none⟩ = some (.slice (some ⟨yb, 0, none⟩) len len) := keep_cell b7 (by simp [*]); have q7 : w7.cell? ⟨xb, 3, none⟩ = some (.int .i64 wo) := keep_cell b7 (by simp [*]); have q8 : WX w wm wp ad len cap wo c xb yb w7 := WX.below (by assumption) b7))
  go_wp2
  go_returns
  exact ⟨rfl, q8.u.bl⟩

set_option maxRecDepth 100000 in
theorem lifted (os : Os) (started : os.Started) (H : Type) (enc : TypeId × Value → H) :
    ReturnsInHanded {} Try.checked os 12 .any (Rows.fnExactValueSpec.pre6 enc Try.prog Try.f12 Rows.fnExactValueRow.domain false) (Rows.fnExactValueSpec.post enc Try.prog Try.f12 false true false false) := by
  refine returnsInHanded_of_change (C := Try.checked) own started (by kernel_rfl) Try.func12
    (ChangeSpec.witness6 (enc := enc) (C := Try.checked) false ⟨#[], #[.agg #[.int .i64 0, .int .i64 0, .slice none 0 0, .int .i64 0]], []⟩ 8 (by kernel_rfl) (by kernel_rfl) (by kernel_rfl) (by kernel_rfl)) ?_
  intro W base args ds gs before hval0 hW hcnd _
  have hval : ∀ (j : Nat) t v, Try.f12.params[j]? = some t → args[j]? = some v → Value.okWide Try.prog W .any base t v := hval0
  have hW' := hW
  obtain ⟨p, q, hA0, hV, rfl, hfz, hnd⟩ := hW
  have hA : DataW.TrodAll enc Try.prog W 0 (fun _ => true) true Try.f12.params.toList args.toList ds p := hA0
  rw [Try.params12] at hA hval
  obtain ⟨v0, vs0, d0, ds0, p0, q0, hargs, rfl, rfl, h0, r0⟩ := trodAll_cons hA
  obtain ⟨rfl, rfl, rfl⟩ := trodAll_nil r0
  obtain rfl : args = #[v0] := by cases args; simp_all
  obtain ⟨rfl, rfl⟩ := trodVars_none hV
  have k0 := h0
  have lt0 : ∀ x ∈ p0, x.block < W.heap.size := by obtain ⟨m, hm⟩ := k0; exact DataW.trod_lt m _ _ _ hm
  obtain ⟨ex0, ex1, ex2, ex3, ey0, ey1, ey2, ey3, enn, rfl, rfl, rfl, eg0, eg1, eg2, eg3⟩ := Go.Joins.open_agg4 Try.underlying48 (by kernel_rfl) (by kernel_rfl) (hval 0 48 v0 rfl rfl) h0
  obtain ⟨wm, ee0, _, _⟩ := DataW.trod_int Try.underlying3 eg0
  obtain rfl : ex0 = .int .i64 wm := by simpa using ee0
  obtain ⟨wp, ee1, _, _⟩ := DataW.trod_int Try.underlying3 eg1
  obtain rfl : ex1 = .int .i64 wp := by simpa using ee1
  obtain ⟨wo, ee3, _, _⟩ := DataW.trod_int Try.underlying3 eg3
  obtain rfl : ex3 = .int .i64 wo := by simpa using ee3
  obtain ⟨ad, len, cap, rfl, lT⟩ := slice_of Try.underlying46 eg2
  obtain ⟨c, hl, hr⟩ := LA2_of Try.underlying46 Try.underlying115 (by kernel_rfl) ⟨rfl, rfl⟩ ⟨by kernel_rfl, by kernel_rfl⟩ Try.underlying3 Try.underlying3 lT
  clear hA0 hval0
  refine (walk wm wp ad len cap wo c W hl hr).mono fun e W' ⟨he, hg⟩ => ?_
  subst he
  exact ⟨_, rfl, _, _, _, [], _, [], hW', (trodAll_cons_mk (shut_bool Try.underlying4 _) trodAll_mk0), (trodAll_cons_mk (Below.trod laidOut (by kernel_rfl) (of_decide_eq_true (by kernel_rfl)) k0 hg lt0) trodAll_mk0), rfl, hg.frame _, fun h => by cases h⟩

theorem over : Rows.fnExactValueRow.holds Try.pinned (OpenSpec.ofChange Rows.fnExactValueSpec) :=
  OpenClaim.holds_of_wide 12 Try.f12 rfl rfl rfl rfl rfl rfl rfl ⟨rfl, rfl, rfl, rfl, rfl⟩ rfl rfl rfl rfl rfl (by kernel_rfl) Try.func12 (by kernel_rfl)
    (of_decide_eq_true (by kernel_rfl)) (by unfold Func.isWrapper; first | (rw [if_pos (by decide +kernel)]; kernel_rfl) | (rw [if_neg (by decide +kernel)]; exact ⟨rfl, rfl⟩))
    (fun os started H enc _ => lifted os started H enc)

end Go.Proofs.Ytdgccdlaokbnhaa.fnExactValue

namespace Go.Proofs.Ytdgccdlaokbnhaa
theorem fnExactValue_holds : Rows.FnExactValueSaid := fnExactValue.over
#print axioms fnExactValue_holds
end Go.Proofs.Ytdgccdlaokbnhaa
