/- FnExactBalance: at every ledger that the size test lets through and all five numbers, the program's Balance tells what the model's does, and leaves what it was handed. No conditions. -/
import Derived.Test.YtgnhpjlfdkpaiaaRows
import Derived.WalkKit
import Derived.ProofKit
import Derived.OpenShut
import Derived.ShutString
import Derived.ChangeOld
import Derived.Below
import Derived.Handy
import Derived.Carry
import Derived.Lib.SmallJoins
import Derived.Deep.SlicePairs
import Derived.Test.YtgnhpjlfdkpaiaaFl
import Derived.Test.YtgnhpjlfdkpaiaaLl
import Derived.Test.YtgnhpjlfdkpaiaaBb
import Derived.Test.YtgnhpjlfdkpaiaaBc
namespace Go.Proofs.Ytgnhpjlfdkpaiaa.fnExactBalance
open Go.ChangeShapes Go.WideShapes Go.ChangeAt Go.RowKit
set_option linter.unusedVariables false
set_option linter.unusedSimpArgs false

theorem own : ownKnob Try.prog.godebug = none := by kernel_rfl
theorem laidOut : laidOutB Try.prog = true := by kernel_rfl

set_option maxRecDepth 20000 in
set_option maxHeartbeats 4000000 in
theorem walk (ad : Option Addr) (len cap : Nat) (es : Nat → E4) (hd : Int) (a1 : Int) (a2 : Int) (a3 : Int) (a4 : Int) (a5 : Int) (w : World) (hl : len ≤ maxLen) (hm : ∀ j, (es j).text.size ≤ maxLen ∧ (es j).n ≤ maxLen) (hr : ER w ad len es) :
    Calls Try.prog 5 #[.agg #[.slice ad len cap, .int .i64 hd], .int .i64 a1, .int .i64 a2, .int .i64 a3, .int .i64 a4, .int .i64 a5] w fun e w' => e = .returned (.bool true) ∧ Below w.heap.size w w' := by
  have HR : Hid (ER w ad len es) := hr
  have hl2 := size_small hl
  have HM : Hid (∀ j, ((es j).text.size : Int) ≤ 9223372036854775807 ∧ ((es j).n : Int) ≤ 9223372036854775807) := fun j => ⟨size_small (hm j).1, size_small (hm j).2⟩
  clear hr hm
  obtain ⟨BA, BB, hBV⟩ : ∃ BA BB, balV a1 a2 a3 a4 a5 len es = (BA, BB) := ⟨_, _, rfl⟩
  have HSP : Hid (∀ (ad : Option Addr) (cap : Nat) (w : World), ER w ad len es → Calls Try.prog 15 #[.agg #[.slice ad len cap, .int .i64 hd], .int .i64 a1, .int .i64 a2, .int .i64 a3, .int .i64 a4, .int .i64 a5] w fun e w' => e = .returned (.tuple #[.int .i64 BA, .int .i64 BB]) ∧ Below w.heap.size w w') := fun ad cap w h => by have := specBal_any ad len cap es hd a1 a2 a3 a4 a5 w h; rw [hBV] at this; exact this
  have HIM : Hid (∀ (ad : Option Addr) (cap : Nat) (w : World), ER w ad len es → Calls Try.prog 17 #[.agg #[.slice ad len cap, .int .i64 hd], .int .i64 a1, .int .i64 a2, .int .i64 a3, .int .i64 a4, .int .i64 a5] w fun e w' => e = .returned (.tuple #[.int .i64 BA, .int .i64 BB]) ∧ Below w.heap.size w w') := fun ad cap w h => by have := implBal_any ad len cap es hd a1 a2 a3 a4 a5 w h; rw [hBV] at this; exact this
  clear hBV
  have tok1 : True := trivial
  go_enter Try.func5, Try.ntmps5
  go_wp2_with (first
    | (go_at_call 14; refine (szLedger_any _ _ _ es _ _ _ (by omega) (by omega) hl2 HM.out (HR.out.alloc _)).mono ?_; rintro e w1 ⟨v, rfl, hv, b1⟩; have X0 : CB w1 w.heap.size #[.slice ad len cap, .int .i64 hd] 39 := (CB.new _ _).below b1 (by simp); have x0 := (X0.cell 0).trans rfl; have x1 := (X0.cell 1).trans rfl; have b1 := bel_on ((Below.refl _ _).alloc (Nat.le_refl _) _) b1; rcases hv with rfl | ⟨hv, hv2, hb, hn⟩)
    | (go_at_call 16; clear tok1; refine (toLedger_any _ _ _ es _ _ hb hn (HR.out.below b1)).mono ?_; rintro e w2 ⟨ba, bl2, rfl, _, _, o2, b2⟩; have i2 := o2.row; clear o2; have X2 := X0.below b2 X0.lt; have x0 := (X2.cell 0).trans rfl; have x1 := (X2.cell 1).trans rfl; have b2 := bel_on b1 b2)
    | (go_at_call 15; refine (HSP.out _ _ _ i2).mono ?_; rintro e w3 ⟨rfl, b3⟩; have X3 := X2.below b3 X2.lt; have x0 := (X3.cell 0).trans rfl; have x1 := (X3.cell 1).trans rfl; have b3 := bel_on b2 b3)
    | (go_at_call 16; refine (toLedger_any _ _ _ es _ _ hb hn (HR.out.below b3)).mono ?_; rintro e w4 ⟨bx, bl4, rfl, _, _, o4, b4⟩; have i4 := o4.row; clear o4; have X4 := X3.below b4 X3.lt; have b4 := bel_on b3 b4; have y0 : (w4.alloc (.cells #[.slice (some ⟨bx, 0, none⟩) len len, .int .i64 hd] 44 (0, 0))).cell? ⟨w.heap.size, 0, none⟩ = some (.slice ad len cap) := ((X4.alloc _).cell 0).trans rfl; have y1 : (w4.alloc (.cells #[.slice (some ⟨bx, 0, none⟩) len len, .int .i64 hd] 44 (0, 0))).cell? ⟨w.heap.size, 1, none⟩ = some (.int .i64 hd) := ((X4.alloc _).cell 1).trans rfl)
    | (go_at_call 17; refine (HIM.out _ _ _ (i4.alloc _)).mono ?_; rintro e w5 ⟨rfl, b5⟩; have X5 := (X4.alloc _).below b5 (X4.alloc _).lt; have Y5 : CB w5 w4.heap.size #[.slice (some ⟨bx, 0, none⟩) len len, .int .i64 hd] 44 := (CB.new _ _).below b5 (by simp); have i5 := (i4.alloc _).below b5; have b5 := bel_on b4 (bel_on ((Below.refl _ _).alloc (Nat.le_refl _) _) b5)))
  · go_returns
    exact ⟨rfl, b1⟩
  have z0 : w5.cell? ⟨w.heap.size, 0, none⟩ = some (.slice ad len cap) := (X5.cell 0).trans rfl
  have z1 : w5.cell? ⟨w.heap.size, 1, none⟩ = some (.int .i64 hd) := (X5.cell 1).trans rfl
  have z2 : w5.cell? ⟨w4.heap.size, 0, none⟩ = some (.slice (some ⟨bx, 0, none⟩) len len) := (Y5.cell 0).trans rfl
  have z3 : w5.cell? ⟨w4.heap.size, 1, none⟩ = some (.int .i64 hd) := (Y5.cell 1).trans rfl
  have z4 : ER w5.drew (some ⟨bx, 0, none⟩) len es := i5
  have z5 : ER w5.drew ad len es := HR.out.below b5.drew
  have z6 : Below w.heap.size w w5.drew := b5.drew
  clear X0 X2 X3 X4 X5 Y5 i2 i4 i5 b1 b2 b3 b4 x0 x1 y0 y1
  go_region_held3 (fun w' => w'.cell? ⟨w.heap.size, 0, none⟩ = some (.slice ad len cap) ∧ w'.cell? ⟨w.heap.size, 1, none⟩ = some (.int .i64 hd) ∧ w'.cell? ⟨w4.heap.size, 0, none⟩ = some (.slice (some ⟨bx, 0, none⟩) len len) ∧ w'.cell? ⟨w4.heap.size, 1, none⟩ = some (.int .i64 hd) ∧ ER w' (some ⟨bx, 0, none⟩) len es ∧ ER w' ad len es ∧ Below w.heap.size w w')
    (refine ⟨?_, ?_, ?_, ?_, ?_, ?_, ?_⟩ <;> first | assumption | (simp [*]; done))
    (first
      | (go_at_call 16; refine (toLedger_any _ _ _ es _ _ hb hn (by assumption)).mono ?_; rintro e w6 ⟨bc, bl6, rfl, _, _, o6, b6⟩; have i6 : ER w6 (some ⟨bc, 0, none⟩) len es := o6.row; clear o6; have p0 : w6.cell? ⟨w.heap.size, 0, none⟩ = some (.slice ad len cap) := keep_cell b6 (by simp [*]); have p1 : w6.cell? ⟨w.heap.size, 1, none⟩ = some (.int .i64 hd) := keep_cell b6 (by simp [*]); have p2 : w6.cell? ⟨w4.heap.size, 0, none⟩ = some (.slice (some ⟨bx, 0, none⟩) len len) := keep_cell b6 (by simp [*]); have p3 : w6.cell? ⟨w4.heap.size, 1, none⟩ = some (.int .i64 hd) := keep_cell b6 (by simp [*]); have p4 : ER w6 (some ⟨bx, 0, none⟩) len es := ER.below (by assumption) b6; have p5 : ER w6 ad len es := ER.below (by assumption) b6; have p6 : Below w.heap.size w w6 := bel_on (by assumption) b6)
      | (go_at_call 18; refine (eqLedger_same _ _ _ _ _ es _ _ hb hn (by assumption) (by assumption)).mono ?_; rintro e w7 ⟨rfl, b7⟩; have q0 : w7.cell? ⟨w.heap.size, 0, none⟩ = some (.slice ad len cap) := keep_cell b7 (by simp [*]); have q1 : w7.cell? ⟨w.heap.size, 1, none⟩ = some (.int .i64 hd) := keep_cell b7 (by simp [*]); have q2 : w7.cell? ⟨w4.heap.size, 0, none⟩ = some (.slice (some ⟨bx, 0, none⟩) len len) := keep_cell b7 (by simp [*]); have q3 : w7.cell? ⟨w4.heap.size, 1, none⟩ = some (.int .i64 hd) := keep_cell b7 (by simp [*]); have q4 : ER w7 (some ⟨bx, 0, none⟩) len es := ER.below (by assumption) b7; have q5 : ER w7 ad len es := ER.below (by assumption) b7; have q6 : Below w.heap.size w w7 := bel_on (by assumption) b7))
  go_wp2
  go_returns
  exact ⟨rfl, q6⟩

set_option maxRecDepth 100000 in
theorem lifted (os : Os) (started : os.Started) (H : Type) (enc : TypeId × Value → H) :
    ReturnsInHanded {} Try.checked os 5 .any (Rows.fnExactBalanceSpec.pre6 enc Try.prog Try.f5 Rows.fnExactBalanceRow.domain false) (Rows.fnExactBalanceSpec.post enc Try.prog Try.f5 false true false false) := by
  refine returnsInHanded_of_change (C := Try.checked) own started (by kernel_rfl) Try.func5
    (ChangeSpec.witness6 (enc := enc) (C := Try.checked) false ⟨#[], #[.agg #[.slice none 0 0, .int .i64 0], .int .i64 0, .int .i64 0, .int .i64 0, .int .i64 0, .int .i64 0], []⟩ 8 (by kernel_rfl) (by kernel_rfl) (by kernel_rfl) (by kernel_rfl)) ?_
  intro W base args ds gs before hval0 hW hcnd _
  have hval : ∀ (j : Nat) t v, Try.f5.params[j]? = some t → args[j]? = some v → Value.okWide Try.prog W .any base t v := hval0
  have hW' := hW
  obtain ⟨p, q, hA0, hV, rfl, hfz, hnd⟩ := hW
  have hA : DataW.TrodAll enc Try.prog W 0 (fun _ => true) true Try.f5.params.toList args.toList ds p := hA0
  rw [Try.params5] at hA hval
  obtain ⟨v0, vs0, d0, ds0, p0, q0, hargs, rfl, rfl, h0, r0⟩ := trodAll_cons hA
  obtain ⟨v1, vs1, d1, ds1, p1, q1, rfl, rfl, rfl, h1, r1⟩ := trodAll_cons r0
  obtain ⟨v2, vs2, d2, ds2, p2, q2, rfl, rfl, rfl, h2, r2⟩ := trodAll_cons r1
  obtain ⟨v3, vs3, d3, ds3, p3, q3, rfl, rfl, rfl, h3, r3⟩ := trodAll_cons r2
  obtain ⟨v4, vs4, d4, ds4, p4, q4, rfl, rfl, rfl, h4, r4⟩ := trodAll_cons r3
  obtain ⟨v5, vs5, d5, ds5, p5, q5, rfl, rfl, rfl, h5, r5⟩ := trodAll_cons r4
  obtain ⟨rfl, rfl, rfl⟩ := trodAll_nil r5
  obtain rfl : args = #[v0, v1, v2, v3, v4, v5] := by cases args; simp_all
  obtain ⟨rfl, rfl⟩ := trodVars_none hV
  have k0 := h0
  have lt0 : ∀ x ∈ p0, x.block < W.heap.size := by obtain ⟨m, hm⟩ := k0; exact DataW.trod_lt m _ _ _ hm
  have k1 := h1
  have lt1 : ∀ x ∈ p1, x.block < W.heap.size := by obtain ⟨m, hm⟩ := k1; exact DataW.trod_lt m _ _ _ hm
  have k2 := h2
  have lt2 : ∀ x ∈ p2, x.block < W.heap.size := by obtain ⟨m, hm⟩ := k2; exact DataW.trod_lt m _ _ _ hm
  have k3 := h3
  have lt3 : ∀ x ∈ p3, x.block < W.heap.size := by obtain ⟨m, hm⟩ := k3; exact DataW.trod_lt m _ _ _ hm
  have k4 := h4
  have lt4 : ∀ x ∈ p4, x.block < W.heap.size := by obtain ⟨m, hm⟩ := k4; exact DataW.trod_lt m _ _ _ hm
  have k5 := h5
  have lt5 : ∀ x ∈ p5, x.block < W.heap.size := by obtain ⟨m, hm⟩ := k5; exact DataW.trod_lt m _ _ _ hm
  obtain ⟨lx0, lx1, ly0, ly1, lnn, rfl, rfl, rfl, lg0, lg1⟩ := Go.Joins.open_agg2 Try.underlying39 (by kernel_rfl) (by kernel_rfl) (hval 0 39 v0 rfl rfl) h0
  obtain ⟨hd, le1, _, _⟩ := DataW.trod_int Try.underlying3 lg1
  obtain rfl : lx1 = .int .i64 hd := by simpa using le1
  obtain ⟨ad, len, cap, rfl, lT⟩ := slice_of Try.underlying33 lg0
  obtain ⟨es, hl, hm, hr⟩ := entries_of Try.underlying33 Try.underlying69 (by kernel_rfl) ⟨rfl, rfl, rfl, rfl⟩ ⟨by kernel_rfl, by kernel_rfl, by kernel_rfl, by kernel_rfl⟩ Try.underlying3 Try.underlying3 Try.underlying9 lineT lT
  obtain ⟨a1, rfl, rfl, rfl, w1⟩ := open_int Try.underlying3 (hval 1 3 v1 rfl rfl) h1
  obtain ⟨a2, rfl, rfl, rfl, w2⟩ := open_int Try.underlying3 (hval 2 3 v2 rfl rfl) h2
  obtain ⟨a3, rfl, rfl, rfl, w3⟩ := open_int Try.underlying3 (hval 3 3 v3 rfl rfl) h3
  obtain ⟨a4, rfl, rfl, rfl, w4⟩ := open_int Try.underlying3 (hval 4 3 v4 rfl rfl) h4
  obtain ⟨a5, rfl, rfl, rfl, w5⟩ := open_int Try.underlying3 (hval 5 3 v5 rfl rfl) h5
  clear hA0 hval0
  refine (walk ad len cap es hd a1 a2 a3 a4 a5 W hl hm hr).mono fun e W' ⟨he, hg⟩ => ?_
  subst he
  exact ⟨_, rfl, _, _, _, [], _, [], hW', (trodAll_cons_mk (shut_bool Try.underlying4 _) trodAll_mk0), (trodAll_cons_mk (Below.trod laidOut (by kernel_rfl) (of_decide_eq_true (by kernel_rfl)) k0 hg lt0) (trodAll_cons_mk (Below.trod laidOut (by kernel_rfl) (of_decide_eq_true (by kernel_rfl)) k1 hg lt1) (trodAll_cons_mk (Below.trod laidOut (by kernel_rfl) (of_decide_eq_true (by kernel_rfl)) k2 hg lt2) (trodAll_cons_mk (Below.trod laidOut (by kernel_rfl) (of_decide_eq_true (by kernel_rfl)) k3 hg lt3) (trodAll_cons_mk (Below.trod laidOut (by kernel_rfl) (of_decide_eq_true (by kernel_rfl)) k4 hg lt4) (trodAll_cons_mk (Below.trod laidOut (by kernel_rfl) (of_decide_eq_true (by kernel_rfl)) k5 hg lt5) trodAll_mk0)))))), rfl, hg.frame _, fun h => by cases h⟩

theorem over : Rows.fnExactBalanceRow.holds Try.pinned (OpenSpec.ofChange Rows.fnExactBalanceSpec) :=
  OpenClaim.holds_of_wide 5 Try.f5 rfl rfl rfl rfl rfl rfl rfl ⟨rfl, rfl, rfl, rfl, rfl⟩ rfl rfl rfl rfl rfl (by kernel_rfl) Try.func5 (by kernel_rfl)
    (of_decide_eq_true (by kernel_rfl)) (by unfold Func.isWrapper; first | (rw [if_pos (by decide +kernel)]; kernel_rfl) | (rw [if_neg (by decide +kernel)]; exact ⟨rfl, rfl⟩))
    (fun os started H enc _ => lifted os started H enc)

end Go.Proofs.Ytgnhpjlfdkpaiaa.fnExactBalance

namespace Go.Proofs.Ytgnhpjlfdkpaiaa
theorem fnExactBalance_holds : Rows.FnExactBalanceSaid := fnExactBalance.over
#print axioms fnExactBalance_holds
end Go.Proofs.Ytgnhpjlfdkpaiaa
