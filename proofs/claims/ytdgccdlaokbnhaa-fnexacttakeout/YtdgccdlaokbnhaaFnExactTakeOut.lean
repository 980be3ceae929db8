/- At every worth and quantity, TakeOut of the program answers as the model does; it leaves the worth as it was, and its answer owns its memory. -/
import Derived.Test.YtdgccdlaokbnhaaRows
import Derived.WalkKit
import Derived.ProofKit
import Derived.OpenShut
import Derived.ShutString
import Derived.ChangeOld
import Derived.Below
import Derived.Handy
import Derived.Carry
import Derived.Lib.SmallJoins
import Derived.Deep.SlicePairs
import Derived.Test.YtdgccdlaokbnhaaWe
import Derived.Test.YtdgccdlaokbnhaaEe
namespace Go.Proofs.Ytdgccdlaokbnhaa.fnExactTakeOut
open Go.ChangeShapes Go.WideShapes Go.ChangeAt Go.RowKit
set_option linter.unusedVariables false
set_option linter.unusedSimpArgs false

theorem own : ownKnob Try.prog.godebug = none := by kernel_rfl
theorem laidOut : laidOutB Try.prog = true := by kernel_rfl

set_option maxRecDepth 20000 in
set_option maxHeartbeats 4000000 in
theorem walk (wm wp : Int) (ad : Option Addr) (len cap : Nat) (wo : Int) (c : Nat → LA2) (a1 : Int) (w : World) (hl : len ≤ maxLen) (hr : LAr w ad len c) :
    Calls Try.prog 9 #[.agg #[.int .i64 wm, .int .i64 wp, .slice ad len cap, .int .i64 wo], .int .i64 a1] w fun e w' => e = .returned (.bool true) ∧ Below w.heap.size w w' := by
  have HR : Hid (LAr w ad len c) := hr
  have hl2 : (len : Int) ≤ 9223372036854775807 := by unfold maxLen at hl; omega
  clear hr hl
  go_enter Try.func9, Try.ntmps9
  go_wp2_with (go_at_call 27; refine (szWorth_any _ _ _ _ _ _ _ _ (by omega) (by omega) hl2).mono ?_; rintro e w1 ⟨v, rfl, hv, b1⟩; have HU1 : Hid (WB w wm wp ad len cap wo c w1) := hid ((WB.start HR.out).below b1); clear b1; have ua0 : w1.cell? ⟨w.heap.size, 0, none⟩ = some (.int .i64 wm) := HU1.out.bx.cell 0; have ua1 : w1.cell? ⟨w.heap.size, 1, none⟩ = some (.int .i64 wp) := HU1.out.bx.cell 1; have ua2 : w1.cell? ⟨w.heap.size, 2, none⟩ = some (.slice ad len cap) := HU1.out.bx.cell 2; have ua3 : w1.cell? ⟨w.heap.size, 3, none⟩ = some (.int .i64 wo) := HU1.out.bx.cell 3; have lua := HU1.out.bx.lt; rcases hv with rfl | ⟨hv, hv1, hb⟩)
  · go_returns
    exact ⟨rfl, HU1.out.bl⟩
  obtain ⟨BV, hBV⟩ : ∃ B, toB wm wp len c wo a1 = B := ⟨_, rfl⟩
  obtain ⟨rm, hrm⟩ : ∃ x, zI BV wm = x := ⟨_, rfl⟩
  obtain ⟨rp, hrp⟩ : ∃ x, zI BV wp = x := ⟨_, rfl⟩
  obtain ⟨ro, hro⟩ : ∃ x, zI BV wo = x := ⟨_, rfl⟩
  obtain ⟨N, hN⟩ : ∃ x, zN BV (toS wm len c a1).n = x := ⟨_, rfl⟩
  obtain ⟨rk, hrk⟩ : ∃ x, zI BV (toS wm len c a1).cost = x := ⟨_, rfl⟩
  obtain ⟨C, hC⟩ : ∃ x, (toS wm len c a1).c = x := ⟨_, rfl⟩
  have hN1 : (N : Int) ≤ 1048576 := by
    rw [← hN]; unfold zN
    split
    · next h =>
      rw [h] at hBV
      unfold toB at hBV
      simp at hBV
      have hwp := woB_p hBV.1.1
      have hq := inB_t hBV.1.2
      have := (to_right hwp hq.1 hBV.2).1.len300
      omega
    · omega
  have HSP : Hid (∀ (x : Addr) (k : Nat) (W : World), LAr W (some x) len c → Calls Try.prog 34 #[.agg #[.int .i64 wm, .int .i64 wp, .slice (some x) len k, .int .i64 wo], .int .i64 a1] W fun e w' => ∃ ad cap, e = .returned (.tuple #[.agg #[.int .i64 rm, .int .i64 rp, .slice ad N cap, .int .i64 ro], .int .i64 rk, .bool BV]) ∧ OwnLA2 w' W.heap.size ad N C ∧ Below W.heap.size W w') := fun x k W g => by
    have := specTakeOut_any wm wp x len k wo a1 c W hb g
    unfold ToR at this; rw [hBV, hrm, hrp, hro, hN, hrk, hC] at this; exact this
  have HIM : Hid (∀ (x : Addr) (k : Nat) (W : World), LAr W (some x) len c → Calls Try.prog 35 #[.agg #[.int .i64 wm, .int .i64 wp, .slice (some x) len k, .int .i64 wo], .int .i64 a1] W fun e w' => ∃ ad cap, e = .returned (.tuple #[.agg #[.int .i64 rm, .int .i64 rp, .slice ad N cap, .int .i64 ro], .int .i64 rk, .bool BV]) ∧ OwnLA2 w' W.heap.size ad N C ∧ Below W.heap.size W w') := fun x k W g => by
    have := implTakeOut_any wm wp x len k wo a1 c W hb g
    unfold ToR at this; rw [hBV, hrm, hrp, hro, hN, hrk, hC] at this; exact this
  clear hBV hrm hrp hro hN hC hrk
  have hv3 : ¬ v < 0 := by omega
  have hkk : ¬ (1 + 2 * (len : Int)) < 0 := by omega
  have hqq : ¬ (1 + 2 * (N : Int)) < 0 := by omega
  have hnb : (BV != BV) = false := by simp
  have hnk : (rk != rk) = false := by simp
  have tok1 : True := trivial
  have tok3 : True := trivial
  have tok5 : True := trivial
  have tok6 : True := trivial
  have tokB : True := trivial
  have tokD : True := trivial
  have tokE : True := trivial
  go_wp2_with (first
    | (go_at_call 28; clear tok1; refine (toWorth_any _ _ _ _ _ _ c _ hb HU1.out.r).mono ?_; rintro e w2 ⟨x2, _, rfl, ⟨i2, _⟩, b2⟩; have HU2 := hid (HU1.out.below b2); have HI2 := hid i2; clear i2 b2)
    | (go_at_call 34; refine (HSP.out _ _ _ HI2.out).mono ?_; rintro e w3 ⟨ado, co, rfl, o3, b3⟩; have HU3 := hid (HU2.out.below b3); have HO3 : Hid (OwnM w3 w.heap.size w3.heap.size ado N C) := hid ((ownM_of o3).lower HU2.out.bl.size); have ub0 : w3.cell? ⟨w.heap.size, 0, none⟩ = some (.int .i64 wm) := HU3.out.bx.cell 0; have ub1 : w3.cell? ⟨w.heap.size, 1, none⟩ = some (.int .i64 wp) := HU3.out.bx.cell 1; have ub2 : w3.cell? ⟨w.heap.size, 2, none⟩ = some (.slice ad len cap) := HU3.out.bx.cell 2; have ub3 : w3.cell? ⟨w.heap.size, 3, none⟩ = some (.int .i64 wo) := HU3.out.bx.cell 3; have lub := HU3.out.bx.lt; clear o3 b3)
    | (go_at_call 28; clear tok3; refine (toWorth_any _ _ _ _ _ _ c _ hb (HU3.out.alloc _).r).mono ?_; rintro e w4 ⟨yb, hyb, rfl, i4, b4⟩; have HU4 := hid ((HU3.out.alloc (.cells #[.int .i64 rm, .int .i64 rp, .slice ado N co, .int .i64 ro] 26 (0, 0))).below b4); have HOB4 : Hid (CB w4 w3.heap.size #[.int .i64 rm, .int .i64 rp, .slice ado N co, .int .i64 ro] 26) := hid ((CB.new _ _).below b4 (CB.new _ _).lt); have HO4 := hid ((HO3.out.below ((Below.refl _ _).alloc (Nat.le_refl _) (.cells #[.int .i64 rm, .int .i64 rp, .slice ado N co, .int .i64 ro] 26 (0, 0)))).below b4); have HX4 := hid i4; have HYB : Hid (w3.heap.size ≤ yb) := hid (by simp at hyb; omega); clear i4 b4 hyb)
    | (go_at_call 35; clear tok5; refine (HIM.out _ _ _ (HX4.out.1.alloc _)).mono ?_; rintro e w5 ⟨adg, cg, rfl, o5, b5⟩; have HYL : Hid (yb < w4.heap.size) := hid (by obtain ⟨cs, q1, _⟩ := HX4.out.2; exact q1.lt); have HT5 : Hid (WB w wm wp ad len cap wo c w5 ∧ CB w5 w3.heap.size #[.int .i64 rm, .int .i64 rp, .slice ado N co, .int .i64 ro] 26 ∧ OwnM w5 w.heap.size w3.heap.size ado N C ∧ CB w5 w4.heap.size #[.int .i64 wm, .int .i64 wp, .slice (some ⟨yb, 0, none⟩) len len, .int .i64 wo] 26 ∧ (LAr w5 (some ⟨yb, 0, none⟩) len c ∧ ∃ cs, CB w5 yb cs 40 ∧ cs.size = len * 2) ∧ OwnM w5 (w4.heap.size + 1) w5.heap.size adg N C) := hid ⟨(HU4.out.alloc _).below b5, (HOB4.out.alloc _).below b5 (HOB4.out.alloc _).lt, (HO4.out.below ((Below.refl _ _).alloc (Nat.le_refl _) _)).below b5, (CB.new _ _).below b5 (CB.new _ _).lt, ⟨(HX4.out.1.alloc _).below b5, by obtain ⟨cs, q1, q2⟩ := HX4.out.2; exact ⟨cs, (q1.alloc _).below b5 (q1.alloc _).lt, q2⟩⟩, by have := ownM_of o5; simpa using this⟩; have ud0 : w5.cell? ⟨w3.heap.size, 0, none⟩ = some (.int .i64 rm) := HT5.out.2.1.cell 0; have ud1 : w5.cell? ⟨w3.heap.size, 1, none⟩ = some (.int .i64 rp) := HT5.out.2.1.cell 1; have ud2 : w5.cell? ⟨w3.heap.size, 2, none⟩ = some (.slice ado N co) := HT5.out.2.1.cell 2; have ud3 : w5.cell? ⟨w3.heap.size, 3, none⟩ = some (.int .i64 ro) := HT5.out.2.1.cell 3; have lud := HT5.out.2.1.lt; clear o5 b5)
    | (go_at_call 29; clear tok6; refine (eqWorth_same _ _ _ _ _ _ _ _ C _ hN1 (HT5.out.2.2.2.2.2.row.alloc _) (HT5.out.2.2.1.row.alloc _)).mono ?_; rintro e w6 ⟨rfl, b6⟩; have HT6 : Hid (TL w wm wp ad len cap wo c rm rp ro N C w3.heap.size ado co w4.heap.size yb w5.heap.size adg cg w3.heap.size (w4.heap.size + 1) w5.heap.size w6) := hid (TL.below (W := w5.alloc (.cells #[.int .i64 rm, .int .i64 rp, .slice adg N cg, .int .i64 ro] 26 (0, 0))) ⟨HT5.out.1.alloc _, HT5.out.2.1.alloc _, HT5.out.2.2.1.below ((Below.refl _ _).alloc (Nat.le_refl _) _), HT5.out.2.2.2.1.alloc _, ⟨HT5.out.2.2.2.2.1.1.alloc _, by obtain ⟨cs, q1, q2⟩ := HT5.out.2.2.2.2.1.2; exact ⟨cs, q1.alloc _, q2⟩⟩, CB.new _ _, HT5.out.2.2.2.2.2.below ((Below.refl _ _).alloc (Nat.le_refl _) _), ⟨HU3.out.bl.size, HYB.out, by have := HYL.out; omega⟩, by have := HT5.out.2.2.2.1.lt; simp; omega⟩ b6); clear b6))
  have D0 := HT6.out
  obtain ⟨ob, hob⟩ : ∃ x, w3.heap.size = x := ⟨_, rfl⟩
  obtain ⟨xb, hxb⟩ : ∃ x, w4.heap.size = x := ⟨_, rfl⟩
  obtain ⟨gb, hgb⟩ : ∃ x, w5.heap.size = x := ⟨_, rfl⟩
  rw [hob, hxb, hgb] at D0
  rw [hob, hxb, hgb]
  obtain ⟨lo, hlo⟩ : ∃ x, x = ob := ⟨_, rfl⟩
  obtain ⟨hi, hhi⟩ : ∃ x, x = xb + 1 := ⟨_, rfl⟩
  obtain ⟨hg, hhg⟩ : ∃ x, x = gb := ⟨_, rfl⟩
  have D1 : TL w wm wp ad len cap wo c rm rp ro N C ob ado co xb yb gb adg cg lo hi hg w6.drew := by subst hlo; subst hhi; subst hhg; exact D0.below ((Below.refl _ _).drew)
  clear D0 HT6 HT5 HO3 HO4 HU1 HU2 HU3 HU4 HI2 HX4 HOB4 HYB HYL HSP hlo hhi hhg hob hxb hgb 
  have HRL : Hid (∀ W, TL w wm wp ad len cap wo c rm rp ro N C ob ado co xb yb gb adg cg lo hi hg W → LAr W ad len c) := hid (fun W h => h.u.r)
  have HXL : Hid (∀ W, TL w wm wp ad len cap wo c rm rp ro N C ob ado co xb yb gb adg cg lo hi hg W → LAr W (some ⟨yb, 0, none⟩) len c) := hid (fun W h => h.xr.1)
  have p0 := D1.x.cell 0
  have p1 := D1.x.cell 1
  have p2 := D1.x.cell 2
  have p3 := D1.x.cell 3
  obtain ⟨r0, r1, r2, r3⟩ := D1.u.cells
  replace p0 : w6.drew.cell? ⟨xb, 0, none⟩ = some (.int .i64 wm) := p0
  replace p1 : w6.drew.cell? ⟨xb, 1, none⟩ = some (.int .i64 wp) := p1
  replace p2 : w6.drew.cell? ⟨xb, 2, none⟩ = some (.slice (some ⟨yb, 0, none⟩) len len) := p2
  replace p3 : w6.drew.cell? ⟨xb, 3, none⟩ = some (.int .i64 wo) := p3
  go_region_held3 (fun w' => (w'.cell? ⟨xb, 0, none⟩ = some (.int .i64 wm) ∧ w'.cell? ⟨xb, 1, none⟩ = some (.int .i64 wp) ∧ w'.cell? ⟨xb, 2, none⟩ = some (.slice (some ⟨yb, 0, none⟩) len len) ∧ w'.cell? ⟨xb, 3, none⟩ = some (.int .i64 wo) ∧ w'.cell? ⟨w.heap.size, 0, none⟩ = some (.int .i64 wm) ∧ w'.cell? ⟨w.heap.size, 1, none⟩ = some (.int .i64 wp) ∧ w'.cell? ⟨w.heap.size, 2, none⟩ = some (.slice ad len cap) ∧ w'.cell? ⟨w.heap.size, 3, none⟩ = some (.int .i64 wo)) ∧ TL w wm wp ad len cap wo c rm rp ro N C ob ado co xb yb gb adg cg lo hi hg w')
    (refine ⟨⟨?_, ?_, ?_, ?_, ?_, ?_, ?_, ?_⟩, ?_⟩ <;> first | assumption | (simp [*]; done))
    (first
    | (go_at_call 28; refine (toWorth_any _ _ _ _ _ _ c _ hb (HRL.out _ (by assumption))).mono ?_; rintro e w7 ⟨z7, _, rfl, ⟨i7, _⟩, b7⟩; have q0 : w7.cell? ⟨xb, 0, none⟩ = some (.int .i64 wm) := keep_cell b7 (by simp [*]); have q1 : w7.cell? ⟨xb, 1, none⟩ = some (.int .i64 wp) := keep_cell b7 (by simp [*]); have q2 : w7.cell? ⟨xb, 2, none⟩ = some (.slice (some ⟨yb, 0, none⟩) len len) := keep_cell b7 (by simp [*]); have q3 : w7.cell? ⟨xb, 3, none⟩ = some (.int .i64 wo) := keep_cell b7 (by simp [*]); have q4 : w7.cell? ⟨w.heap.size, 0, none⟩ = some (.int .i64 wm) := keep_cell b7 (by simp [*]); have q5 : w7.cell? ⟨w.heap.size, 1, none⟩ = some (.int .i64 wp) := keep_cell b7 (by simp [*]); have q6 : w7.cell? ⟨w.heap.size, 2, none⟩ = some (.slice ad len cap) := keep_cell b7 (by simp [*]); have q7 : w7.cell? ⟨w.heap.size, 3, none⟩ = some (.int .i64 wo) := keep_cell b7 (by simp [*]); have q8 : TL w wm wp ad len cap wo c rm rp ro N C ob ado co xb yb gb adg cg lo hi hg w7 := TL.below (by assumption) b7; have HI7 := hid i7; clear i7)
    | (go_at_call 29; refine (eqWorth_same _ _ _ _ _ _ _ _ c _ hb (HXL.out _ (by assumption)) HI7.out).mono ?_; rintro e w8 ⟨rfl, b8⟩; have q0 : w8.cell? ⟨xb, 0, none⟩ = some (.int .i64 wm) := keep_cell b8 (by simp [*]); have q1 : w8.cell? ⟨xb, 1, none⟩ = some (.int .i64 wp) := keep_cell b8 (by simp [*]); have q2 : w8.cell? ⟨xb, 2, none⟩ = some (.slice (some ⟨yb, 0, none⟩) len len) := keep_cell b8 (by simp [*]); have q3 : w8.cell? ⟨xb, 3, none⟩ = some (.int .i64 wo) := keep_cell b8 (by simp [*]); have q4 : w8.cell? ⟨w.heap.size, 0, none⟩ = some (.int .i64 wm) := keep_cell b8 (by simp [*]); have q5 : w8.cell? ⟨w.heap.size, 1, none⟩ = some (.int .i64 wp) := keep_cell b8 (by simp [*]); have q6 : w8.cell? ⟨w.heap.size, 2, none⟩ = some (.slice ad len cap) := keep_cell b8 (by simp [*]); have q7 : w8.cell? ⟨w.heap.size, 3, none⟩ = some (.int .i64 wo) := keep_cell b8 (by simp [*]); have q8 : TL w wm wp ad len cap wo c rm rp ro N C ob ado co xb yb gb adg cg lo hi hg w8 := TL.below (by assumption) b8))
  have HT8 := hid q8
  go_wp2_with (first
    | (go_at_call 32; clear tokB; obtain ⟨cx, hcx, hsx⟩ := HT8.out.xr.2; refine (markWorth_is _ _ yb len _ _ 1 cx _ hb (by omega) (by omega) hcx (by omega)).mono ?_; rintro e w13 ⟨rfl, _, kk, b13⟩; have HM13 := hid (HT8.out.marked HR.out kk b13); have uo0 : w13.cell? ⟨ob, 0, none⟩ = some (.int .i64 rm) := HM13.out.o.cell 0; have uo1 : w13.cell? ⟨ob, 1, none⟩ = some (.int .i64 rp) := HM13.out.o.cell 1; have uo2 : w13.cell? ⟨ob, 2, none⟩ = some (.slice ado N co) := HM13.out.o.cell 2; have uo3 : w13.cell? ⟨ob, 3, none⟩ = some (.int .i64 ro) := HM13.out.o.cell 3; have luo := HM13.out.o.lt; have ug0 : w13.cell? ⟨gb, 0, none⟩ = some (.int .i64 rm) := HM13.out.g.cell 0; have ug1 : w13.cell? ⟨gb, 1, none⟩ = some (.int .i64 rp) := HM13.out.g.cell 1; have ug2 : w13.cell? ⟨gb, 2, none⟩ = some (.slice adg N cg) := HM13.out.g.cell 2; have ug3 : w13.cell? ⟨gb, 3, none⟩ = some (.int .i64 ro) := HM13.out.g.cell 3; have lug := HM13.out.g.lt; clear hcx hsx kk b13)
    | (go_at_call 29; clear tokD; refine (eqWorth_same _ _ _ _ _ _ _ _ C _ hN1 HM13.out.gg.row HM13.out.oo.row).mono ?_; rintro e w15 ⟨rfl, b15⟩; have HM15 := hid (HM13.out.below b15); have uh0 : w15.cell? ⟨gb, 0, none⟩ = some (.int .i64 rm) := HM15.out.g.cell 0; have uh1 : w15.cell? ⟨gb, 1, none⟩ = some (.int .i64 rp) := HM15.out.g.cell 1; have uh2 : w15.cell? ⟨gb, 2, none⟩ = some (.slice adg N cg) := HM15.out.g.cell 2; have uh3 : w15.cell? ⟨gb, 3, none⟩ = some (.int .i64 ro) := HM15.out.g.cell 3; have luh := HM15.out.g.lt; clear b15)
    | (go_at_call 32; refine (markWM _ _ hi hg _ _ _ _ C _ hN1 HM15.out.gg).mono ?_; rintro e w16 ⟨rfl, r16, kk, kt, b16⟩; have HN16 := hid (HM15.out.marked HR.out r16 kk kt (b16 HM15.out.hz)); have ui0 : w16.cell? ⟨gb, 0, none⟩ = some (.int .i64 rm) := HN16.out.g.cell 0; have ui1 : w16.cell? ⟨gb, 1, none⟩ = some (.int .i64 rp) := HN16.out.g.cell 1; have ui2 : w16.cell? ⟨gb, 2, none⟩ = some (.slice adg N cg) := HN16.out.g.cell 2; have ui3 : w16.cell? ⟨gb, 3, none⟩ = some (.int .i64 ro) := HN16.out.g.cell 3; have lui := HN16.out.g.lt; clear r16 kk kt b16)
    | (go_at_call 33; clear tokE; refine (heldWorth_is _ _ _ _ _ _ 1 _ hN1 (by omega) (by omega) HN16.out.gr).mono ?_; rintro e w17 ⟨rfl, b17⟩; have HN17 := hid (HN16.out.below b17); have uj0 : w17.cell? ⟨w.heap.size, 0, none⟩ = some (.int .i64 wm) := HN17.out.u.bx.cell 0; have uj1 : w17.cell? ⟨w.heap.size, 1, none⟩ = some (.int .i64 wp) := HN17.out.u.bx.cell 1; have uj2 : w17.cell? ⟨w.heap.size, 2, none⟩ = some (.slice ad len cap) := HN17.out.u.bx.cell 2; have uj3 : w17.cell? ⟨w.heap.size, 3, none⟩ = some (.int .i64 wo) := HN17.out.u.bx.cell 3; have luj := HN17.out.u.bx.lt; clear b17)
    | (go_at_call 28; refine (toWorth_any _ _ _ _ _ _ c _ hb HN17.out.u.r).mono ?_; rintro e w18 ⟨x18, _, rfl, ⟨i18, _⟩, b18⟩; have HN18 := hid (HN17.out.below b18); have HI18 := hid i18; clear i18 b18)
    | (go_at_call 35; refine (HIM.out _ _ _ HI18.out).mono ?_; rintro e w19 ⟨adh, ch, rfl, o19, b19⟩; have HE19 := hid o19.row; have HN19 := hid (HN18.out.below b19); have um0 : w19.cell? ⟨ob, 0, none⟩ = some (.int .i64 rm) := HN19.out.o.cell 0; have um1 : w19.cell? ⟨ob, 1, none⟩ = some (.int .i64 rp) := HN19.out.o.cell 1; have um2 : w19.cell? ⟨ob, 2, none⟩ = some (.slice ado N co) := HN19.out.o.cell 2; have um3 : w19.cell? ⟨ob, 3, none⟩ = some (.int .i64 ro) := HN19.out.o.cell 3; have lum := HN19.out.o.lt; clear o19 b19)
    | (go_at_call 29; refine (eqWorth_same _ _ _ _ _ _ _ _ C _ hN1 (HE19.out.alloc _) (HN19.out.oo.row.alloc _)).mono ?_; rintro e w20 ⟨rfl, b20⟩; have HN20 := hid ((HN19.out.below ((Below.refl _ _).alloc (Nat.le_refl _) _)).below b20); have un0 : w20.cell? ⟨gb, 0, none⟩ = some (.int .i64 rm) := HN20.out.g.cell 0; have un1 : w20.cell? ⟨gb, 1, none⟩ = some (.int .i64 rp) := HN20.out.g.cell 1; have un2 : w20.cell? ⟨gb, 2, none⟩ = some (.slice adg N cg) := HN20.out.g.cell 2; have un3 : w20.cell? ⟨gb, 3, none⟩ = some (.int .i64 ro) := HN20.out.g.cell 3; have lun := HN20.out.g.lt; clear b20)
    | (go_at_call 33; refine (heldWorth_is _ _ _ _ _ _ 1 _ hN1 (by omega) (by omega) HN20.out.gr).mono ?_; rintro e w21 ⟨rfl, b21⟩; have HN21 := hid (HN20.out.below b21); clear b21))
  go_returns
  exact ⟨rfl, HN21.out.u.bl⟩

set_option maxRecDepth 100000 in
theorem lifted (os : Os) (started : os.Started) (H : Type) (enc : TypeId × Value → H) :
    ReturnsInHanded {} Try.checked os 9 .any (Rows.fnExactTakeOutSpec.pre6 enc Try.prog Try.f9 Rows.fnExactTakeOutRow.domain false) (Rows.fnExactTakeOutSpec.post enc Try.prog Try.f9 false true false false) := by
  refine returnsInHanded_of_change (C := Try.checked) own started (by kernel_rfl) Try.func9
    (ChangeSpec.witness6 (enc := enc) (C := Try.checked) false ⟨#[], #[.agg #[.int .i64 0, .int .i64 0, .slice none 0 0, .int .i64 0], .int .i64 0], []⟩ 8 (by kernel_rfl) (by kernel_rfl) (by kernel_rfl) (by kernel_rfl)) ?_
  intro W base args ds gs before hval0 hW hcnd _
  have hval : ∀ (j : Nat) t v, Try.f9.params[j]? = some t → args[j]? = some v → Value.okWide Try.prog W .any base t v := hval0
  have hW' := hW
  obtain ⟨p, q, hA0, hV, rfl, hfz, hnd⟩ := hW
  have hA : DataW.TrodAll enc Try.prog W 0 (fun _ => true) true Try.f9.params.toList args.toList ds p := hA0
  rw [Try.params9] at hA hval
  obtain ⟨v0, vs0, d0, ds0, p0, q0, hargs, rfl, rfl, h0, r0⟩ := trodAll_cons hA
  obtain ⟨v1, vs1, d1, ds1, p1, q1, rfl, rfl, rfl, h1, r1⟩ := trodAll_cons r0
  obtain ⟨rfl, rfl, rfl⟩ := trodAll_nil r1
  obtain rfl : args = #[v0, v1] := by cases args; simp_all
  obtain ⟨rfl, rfl⟩ := trodVars_none hV
  have k0 := h0
  have lt0 : ∀ x ∈ p0, x.block < W.heap.size := by obtain ⟨m, hm⟩ := k0; exact DataW.trod_lt m _ _ _ hm
  have k1 := h1
  have lt1 : ∀ x ∈ p1, x.block < W.heap.size := by obtain ⟨m, hm⟩ := k1; exact DataW.trod_lt m _ _ _ hm
  obtain ⟨ex0, ex1, ex2, ex3, ey0, ey1, ey2, ey3, enn, rfl, rfl, rfl, eg0, eg1, eg2, eg3⟩ := Go.Joins.open_agg4 Try.underlying48 (by kernel_rfl) (by kernel_rfl) (hval 0 48 v0 rfl rfl) h0
  obtain ⟨wm, ee0, _, _⟩ := DataW.trod_int Try.underlying3 eg0
  obtain rfl : ex0 = .int .i64 wm := by simpa using ee0
  obtain ⟨wp, ee1, _, _⟩ := DataW.trod_int Try.underlying3 eg1
  obtain rfl : ex1 = .int .i64 wp := by simpa using ee1
  obtain ⟨wo, ee3, _, _⟩ := DataW.trod_int Try.underlying3 eg3
  obtain rfl : ex3 = .int .i64 wo := by simpa using ee3
  obtain ⟨ad, len, cap, rfl, lT⟩ := slice_of Try.underlying46 eg2
  obtain ⟨c, hl, hr⟩ := LA2_of Try.underlying46 Try.underlying115 (by kernel_rfl) ⟨rfl, rfl⟩ ⟨by kernel_rfl, by kernel_rfl⟩ Try.underlying3 Try.underlying3 lT
  obtain ⟨a1, rfl, rfl, rfl, w1⟩ := open_int Try.underlying3 (hval 1 3 v1 rfl rfl) h1
  clear hA0 hval0
  refine (walk wm wp ad len cap wo c a1 W hl hr).mono fun e W' ⟨he, hg⟩ => ?_
  subst he
  exact ⟨_, rfl, _, _, _, [], _, [], hW', (trodAll_cons_mk (shut_bool Try.underlying4 _) trodAll_mk0), (trodAll_cons_mk (Below.trod laidOut (by kernel_rfl) (of_decide_eq_true (by kernel_rfl)) k0 hg lt0) (trodAll_cons_mk (Below.trod laidOut (by kernel_rfl) (of_decide_eq_true (by kernel_rfl)) k1 hg lt1) trodAll_mk0)), rfl, hg.frame _, fun h => by cases h⟩

theorem over : Rows.fnExactTakeOutRow.holds Try.pinned (OpenSpec.ofChange Rows.fnExactTakeOutSpec) :=
  OpenClaim.holds_of_wide 9 Try.f9 rfl rfl rfl rfl rfl rfl rfl ⟨rfl, rfl, rfl, rfl, rfl⟩ rfl rfl rfl rfl rfl (by kernel_rfl) Try.func9 (by kernel_rfl)
    (of_decide_eq_true (by kernel_rfl)) (by unfold Func.isWrapper; first | (rw [if_pos (by decide +kernel)]; kernel_rfl) | (rw [if_neg (by decide +kernel)]; exact ⟨rfl, rfl⟩))
    (fun os started H enc _ => lifted os started H enc)

end Go.Proofs.Ytdgccdlaokbnhaa.fnExactTakeOut

namespace Go.Proofs.Ytdgccdlaokbnhaa
theorem fnExactTakeOut_holds : Rows.FnExactTakeOutSaid := fnExactTakeOut.over
#print axioms fnExactTakeOut_holds
end Go.Proofs.Ytdgccdlaokbnhaa
