/- FnExactTrace: at every list of costs, every number of services, every list of share lists and every place that the size test lets through, the program's Trace answers as the model's, leaves its arguments as they were and owns its answer's memory. No conditions. -/
import Derived.Test.YtjlniinahfgakaaRows
import Derived.WalkKit
import Derived.ProofKit
import Derived.OpenShut
import Derived.ShutString
import Derived.ChangeOld
import Derived.Below
import Derived.Handy
import Derived.Carry
import Derived.Lib.SmallJoins
import Derived.Deep.SlicePairs
import Derived.Test.YtjlniinahfgakaaMc
import Derived.Test.YtjlniinahfgakaaMf
namespace Go.Proofs.Ytjlniinahfgakaa.fnExactTrace
open Go.ChangeShapes Go.WideShapes Go.ChangeAt Go.RowKit
set_option linter.unusedVariables false
set_option linter.unusedSimpArgs false

theorem own : ownKnob Try.prog.godebug = none := by kernel_rfl
theorem laidOut : laidOutB Try.prog = true := by kernel_rfl

set_option maxRecDepth 20000 in
set_option maxHeartbeats 4000000 in
theorem walk (ai : Option Addr) (leni capi : Nat) (z : Nat → Int) (a1 : Int) (ra : Option Addr) (m rcap : Nat) (ln : Nat → Nat) (zz : Nat → Nat → Int) (a3 : Int) (w : World) (hli : leni ≤ maxLen) (hri : IR w ai leni z) (hm : m ≤ maxLen) (hrl : ∀ j, ln j ≤ maxLen) (hrr : SR w ra m ln zz) :
    Calls Try.prog 9 #[.slice ai leni capi, .int .i64 a1, .slice ra m rcap, .int .i64 a3] w fun e w' => e = .returned (.bool true) ∧ Below w.heap.size w w' := by
  by_cases hbig : (leni : Int) > 1048576
  · have hlm : (leni : Int) ≤ 9223372036854775807 := by unfold maxLen at hli; omega
    go_enter Try.func9, Try.ntmps9
    go_wp2
    go_returns
    exact ⟨rfl, Below.refl _ _⟩
  have hn2 : (leni : Int) ≤ 1048576 := by omega
  have HZ : Hid (IR w ai leni z) := hri
  have HR : Hid (SR w ra m ln zz) := hrr
  have HSZ : Hid (∀ j, (ln j : Int) ≤ 9223372036854775807) := fun j => by have := hrl j; unfold maxLen at this; omega
  have HML : Hid ((m : Int) ≤ 9223372036854775807) := by show (m : Int) ≤ _; unfold maxLen at hm; omega
  clear hri hrr hrl hm
  go_enter Try.func9, Try.ntmps9
  go_wp2_with (first | (go_at_call 31; refine (szIntSS_any _ _ _ ln zz _ HML.out HSZ.out HR.out).mono ?_; rintro e w1 ⟨v, rfl, hv, ew⟩; have HB1 : Hid (Below w.heap.size w w1) := (by rw [ew]; exact Below.refl _ _); clear ew; rcases hv with rfl | ⟨hv0, hv1, hm2, hnj⟩))
  · go_returns
    exact ⟨rfl, HB1.out⟩
  have HNJ : Hid (∀ j, j < m → (ln j : Int) ≤ 1048576) := hnj
  obtain ⟨M, hM⟩ : ∃ M, trM leni z a1 m ln zz a3 = M := ⟨_, rfl⟩
  obtain ⟨bb, hbb⟩ : ∃ bb, trB leni z a1 m ln zz a3 = bb := ⟨_, rfl⟩
  obtain ⟨XV, hXV⟩ : ∃ XV, trV leni z m zz a3 = XV := ⟨_, rfl⟩
  have hM1 : (M : Int) ≤ 1048576 := by rw [← hM]; unfold trM; split <;> omega
  have HZZ : Hid (∀ j, j < M → (intL XV M)[j]? = some (.int .i64 (XV j))) := fun j hj => intL_get hj
  have HSP : Hid (∀ (ca : Option Addr) (cc : Nat) (ra' : Option Addr) (rc : Nat) (W : World), IR W ca leni z → SR W ra' m ln zz → Calls Try.prog 35 #[.slice ca leni cc, .int .i64 a1, .slice ra' m rc, .int .i64 a3] W fun e w' => ∃ ad cap, e = .returned (.tuple #[.slice ad M cap, .bool bb]) ∧ w'.ownsRow W.heap.size 3 1 (.slice ad M cap) M (intL XV M) ∧ Below W.heap.size W w') := fun ca cc ra' rc W h1 h2 => by
    have := specTrace_any ca leni cc z a1 ra' m rc ln zz a3 W hn2 hm2 HNJ.out h1 h2
    unfold TrP at this; rw [hM, hbb, hXV] at this; exact this
  have HIM : Hid (∀ (ca : Option Addr) (cc : Nat) (ra' : Option Addr) (rc : Nat) (W : World), IR W ca leni z → SR W ra' m ln zz → Calls Try.prog 22 #[.slice ca leni cc, .int .i64 a1, .slice ra' m rc, .int .i64 a3] W fun e w' => ∃ ad cap, e = .returned (.tuple #[.slice ad M cap, .bool bb]) ∧ w'.ownsRow W.heap.size 3 1 (.slice ad M cap) M (intL XV M) ∧ Below W.heap.size W w') := fun ca cc ra' rc W h1 h2 => by
    have := implTrace_any ca leni cc z a1 ra' m rc ln zz a3 W hn2 hm2 HNJ.out h1 h2
    unfold TrP at this; rw [hM, hbb, hXV] at this; exact this
  have hb1 : (bb != bb) = false := by simp
  have hb2 : (bb == bb) = true := by simp
  clear hM hbb hXV hnj
  have tok1 : True := trivial
  have tok2 : True := trivial
  have tok3 : True := trivial
  have tok4 : True := trivial
  have tok5 : True := trivial
  have tok6 : True := trivial
  have tok7 : True := trivial
  have tok8 : True := trivial
  have tok9 : True := trivial
  have tok10 : True := trivial
  have tok11 : True := trivial
  have tok12 : True := trivial
  have tok13 : True := trivial
  have tok14 : True := trivial
  have tok15 : True := trivial
  have tok16 : True := trivial
  have tok17 : True := trivial
  have tok18 : True := trivial
  have tok19 : True := trivial
  have tok20 : True := trivial
  have tok21 : True := trivial
  go_wp2_with (first
    | (go_at_call 23; clear tok1; refine (toIntS_at rfl hn2 (HZ.out.below HB1.out)).mono ?_; rintro e w2 ⟨rfl, o2, b2⟩; have HX2 : Hid (IR w2 (some ⟨w1.heap.size, 0, none⟩) leni z) := o2.1; have HB2 : Hid (Below w.heap.size w w2) := bel_on HB1.out b2; clear o2 b2)
    | (go_at_call 32; clear tok2; refine (toIntSS_any _ _ _ ln zz w2 hm2 HNJ.out (HR.out.below HB2.out)).mono ?_; rintro e w3 ⟨rfl, ⟨bt3, o3⟩, b3⟩; have HX3 : Hid (IR w3 (some ⟨w1.heap.size, 0, none⟩) leni z) := HX2.out.below b3; have HY3 : Hid (SR w3 (some ⟨w2.heap.size, 0, none⟩) m ln zz) := o3.sr; have HB3 : Hid (Below w.heap.size w w3) := bel_on HB2.out b3; clear o3 b3)
    | (go_at_call 35; clear tok3; refine (HSP.out _ _ _ _ w3 HX3.out HY3.out).mono ?_; rintro e w4 ⟨ado, capo, rfl, o4, b4⟩; have HO4 : Hid (w4.ownsRow w.heap.size 3 1 (.slice ado M capo) M (intL XV M)) := row_lower o4 HB3.out.size; have HB4 : Hid (Below w.heap.size w w4) := bel_on HB3.out b4; clear o4 b4)
    | (go_at_call 23; clear tok4; refine (toIntS_at rfl hn2 (HZ.out.below HB4.out)).mono ?_; rintro e w5 ⟨rfl, o5, b5⟩; have HX5 : Hid (RowAt w5 w4.heap.size leni z) := o5; have HO5 : Hid (w5.ownsRow w.heap.size 3 1 (.slice ado M capo) M (intL XV M)) := row_below HO4.out b5; have HB5 : Hid (Below w.heap.size w w5) := bel_on HB4.out b5; clear o5 b5)
    | (go_at_call 32; clear tok5; refine (toIntSS_any _ _ _ ln zz w5 hm2 HNJ.out (HR.out.below HB5.out)).mono ?_; rintro e w6 ⟨rfl, ⟨bt, o6⟩, b6⟩; have HX6 : Hid (RowAt w6 w4.heap.size leni z) := HX5.out.below b6; have HY6 : Hid (OS w6 w5.heap.size m m ln zz bt) := o6; have HO6 : Hid (w6.ownsRow w.heap.size 3 1 (.slice ado M capo) M (intL XV M)) := row_below HO5.out b6; have HB6 : Hid (Below w.heap.size w w6) := bel_on HB5.out b6; clear o6 b6)
    | (go_at_call 22; clear tok6; refine (HIM.out _ _ _ _ w6 HX6.out.1 HY6.out.sr).mono ?_; rintro e w7 ⟨adg, capg, rfl, o7, b7⟩; have HU7 : Hid (UU w M (intL XV M) (.slice ado M capo) (.slice adg M capg) w4.heap.size leni z w5.heap.size m ln zz bt w4.heap.size w6.heap.size w7) := ⟨bel_on HB6.out b7, row_below HO6.out b7, fun q hq => (HO4.out.lt q hq).2, HX6.out.below b7, HY6.out.below b7, o7⟩; have HQ : Hid (w5.heap.size > w4.heap.size ∧ w4.heap.size < w6.heap.size ∧ w.heap.size ≤ w4.heap.size) := ⟨HX5.out.lt, (by have h1 := HX5.out.lt; have h2 := HY6.out.lt; omega), HB4.out.size⟩; have HQ2 : Hid (∀ j, j < m → bt j < w6.heap.size) := fun j hj => (HY6.out.t j hj).lt; clear o7 b7)
    | (go_at_call 24; clear tok7; refine (eqIntS_same _ _ _ _ _ XV w7 hM1 (row_IR HU7.out.g HZZ.out) (row_IR HU7.out.o HZZ.out)).mono ?_; rintro e w8 ⟨rfl, b8⟩; have HU8 : Hid (UU w M (intL XV M) (.slice ado M capo) (.slice adg M capg) w4.heap.size leni z w5.heap.size m ln zz bt w4.heap.size w6.heap.size w8) := HU7.out.below b8; clear b8)
    | (go_at_call 23; clear tok8; refine (toIntS_at rfl hn2 (HZ.out.below HU8.out.bl)).mono ?_; rintro e w9 ⟨rfl, o9, b9⟩; have HU9 : Hid (UU w M (intL XV M) (.slice ado M capo) (.slice adg M capg) w4.heap.size leni z w5.heap.size m ln zz bt w4.heap.size w6.heap.size w9) := HU8.out.below b9; have HI9 : Hid (IR w9 (some ⟨w8.heap.size, 0, none⟩) leni z) := o9.1; clear o9 b9)
    | (go_at_call 24; clear tok9; refine (eqIntS_same _ _ _ _ _ z w9 hn2 HU9.out.x.1 HI9.out).mono ?_; rintro e w10 ⟨rfl, b10⟩; have HU10 : Hid (UU w M (intL XV M) (.slice ado M capo) (.slice adg M capg) w4.heap.size leni z w5.heap.size m ln zz bt w4.heap.size w6.heap.size w10) := HU9.out.below b10; clear b10)
    | (go_at_call 32; clear tok10; refine (toIntSS_any _ _ _ ln zz w10 hm2 HNJ.out (HR.out.below HU10.out.bl)).mono ?_; rintro e w11 ⟨rfl, ⟨bt11, o11⟩, b11⟩; have HU11 : Hid (UU w M (intL XV M) (.slice ado M capo) (.slice adg M capg) w4.heap.size leni z w5.heap.size m ln zz bt w4.heap.size w6.heap.size w11) := HU10.out.below b11; have HJ11 : Hid (SR w11 (some ⟨w10.heap.size, 0, none⟩) m ln zz) := o11.sr; clear o11 b11)
    | (go_at_call 33; clear tok11; refine (eqIntSS_same _ _ _ _ _ ln zz w11 hm2 HNJ.out HU11.out.y.sr HJ11.out).mono ?_; rintro e w12 ⟨rfl, b12⟩; have HU12 : Hid (UU w M (intL XV M) (.slice ado M capo) (.slice adg M capg) w4.heap.size leni z w5.heap.size m ln zz bt w4.heap.size w6.heap.size w12) := HU11.out.below b12; clear b12)
    | (go_at_call 25; clear tok12; go_loud (refine (markIntS_row w4.heap.size leni 1 w12 hn2 (by omega) (by omega) HU12.out.x.2).mono ?_; rintro e w13 ⟨rfl, kk, b13⟩; have HV13 : Hid (UV w M (intL XV M) (.slice ado M capo) (.slice adg M capg) w5.heap.size m ln zz bt w4.heap.size w6.heap.size w13) := HU12.out.marked kk b13 HQ.out.1 HQ.out.2.1 HQ.out.2.2; clear kk b13))
    | (go_at_call 34; clear tok13; refine (markIntSS_any w5.heap.size m _ ln zz bt w5.heap.size w6.heap.size (1 + (leni : Int)) w13 hm2 HNJ.out (by omega) (by omega) HV13.out.y (Nat.le_refl _) HQ2.out).mono ?_; rintro e w14 ⟨vm, rfl, hvm, kk, b14⟩; have HW14 : Hid (UW w M (intL XV M) (.slice ado M capo) (.slice adg M capg) w4.heap.size w6.heap.size w14) := HV13.out.marked kk b14 HQ.out.1 HQ.out.2.1 HQ.out.2.2; obtain ⟨hvm0, hvm1⟩ := hvm; clear kk b14)
    | (go_at_call 24; clear tok14; refine (eqIntS_same _ _ _ _ _ XV w14 hM1 (row_IR HW14.out.g HZZ.out) (row_IR HW14.out.o HZZ.out)).mono ?_; rintro e w15 ⟨rfl, b15⟩; have HW15 : Hid (UW w M (intL XV M) (.slice ado M capo) (.slice adg M capg) w4.heap.size w6.heap.size w15) := HW14.out.below b15; clear b15)
    | (go_at_call 25; clear tok15; go_loud (refine (markIntS_any _ _ _ w6.heap.size _ w15 hM1 HW15.out.g).mono ?_; rintro e w16 ⟨rfl, gb, kk, b16⟩; have HO16 : Hid (w16.ownsRow w.heap.size 3 1 (.slice ado M capo) M (intL XV M)) := row_block HW15.out.o (fun q hq => kk q (HW15.out.o.lt q hq).2 (fun e => by have h1 := HW15.out.ob q hq; have h2 := (HW15.out.g.lt q e.symm).1; have := HQ.out.2.1; omega)); have HB16 : Hid (Below w.heap.size w w16) := HW15.out.bl.trans (b16.mono (by have h1 := HQ.out.2.2; have h2 := HQ.out.2.1; omega)); have HH16 : Hid (IR w16 adg M (fun j => (j : Int) + 1)) := gb; clear gb kk b16))
    | (go_at_call 26; clear tok16; refine (heldIntS_any _ _ _ w16 hM1 HH16.out).mono ?_; rintro e wh ⟨rfl, ew⟩; replace ew := ew.symm; subst ew)
    | (go_at_call 23; clear tok17; refine (toIntS_at rfl hn2 (HZ.out.below HB16.out)).mono ?_; rintro e w17 ⟨rfl, o17, b17⟩; have HX17 : Hid (IR w17 (some ⟨w16.heap.size, 0, none⟩) leni z) := o17.1; have HO17 : Hid (w17.ownsRow w.heap.size 3 1 (.slice ado M capo) M (intL XV M)) := row_below HO16.out b17; have HH17 : Hid (IR w17 adg M (fun j => (j : Int) + 1)) := HH16.out.below b17; have HB17 : Hid (Below w.heap.size w w17) := bel_on HB16.out b17; clear o17 b17)
    | (go_at_call 32; clear tok18; refine (toIntSS_any _ _ _ ln zz w17 hm2 HNJ.out (HR.out.below HB17.out)).mono ?_; rintro e w18 ⟨rfl, ⟨bt18, o18⟩, b18⟩; have HX18 : Hid (IR w18 (some ⟨w16.heap.size, 0, none⟩) leni z) := HX17.out.below b18; have HY18 : Hid (SR w18 (some ⟨w17.heap.size, 0, none⟩) m ln zz) := o18.sr; have HO18 : Hid (w18.ownsRow w.heap.size 3 1 (.slice ado M capo) M (intL XV M)) := row_below HO17.out b18; have HH18 : Hid (IR w18 adg M (fun j => (j : Int) + 1)) := HH17.out.below b18; have HB18 : Hid (Below w.heap.size w w18) := bel_on HB17.out b18; clear o18 b18)
    | (go_at_call 22; clear tok19; refine (HIM.out _ _ _ _ w18 HX18.out HY18.out).mono ?_; rintro e w19 ⟨adh, caph, rfl, o19, b19⟩; have HE19 : Hid (IR w19 adh M XV) := row_IR o19 HZZ.out; have HO19 : Hid (w19.ownsRow w.heap.size 3 1 (.slice ado M capo) M (intL XV M)) := row_below HO18.out b19; have HH19 : Hid (IR w19 adg M (fun j => (j : Int) + 1)) := HH18.out.below b19; have HB19 : Hid (Below w.heap.size w w19) := bel_on HB18.out b19; clear o19 b19)
    | (go_at_call 24; clear tok20; refine (eqIntS_same _ _ _ _ _ XV w19 hM1 HE19.out (row_IR HO19.out HZZ.out)).mono ?_; rintro e w20 ⟨rfl, b20⟩; have HH20 : Hid (IR w20 adg M (fun j => (j : Int) + 1)) := HH19.out.below b20; have HB20 : Hid (Below w.heap.size w w20) := bel_on HB19.out b20; clear b20)
    | (go_at_call 26; clear tok21; refine (heldIntS_any _ _ _ w20 hM1 HH20.out).mono ?_; rintro e wh ⟨rfl, ew⟩; replace ew := ew.symm; subst ew))
  go_returns
  exact ⟨rfl, HB20.out⟩

set_option maxRecDepth 100000 in
theorem lifted (os : Os) (started : os.Started) (H : Type) (enc : TypeId × Value → H) :
    ReturnsInHanded {} Try.checked os 9 .any (Rows.fnExactTraceSpec.pre6 enc Try.prog Try.f9 Rows.fnExactTraceRow.domain false) (Rows.fnExactTraceSpec.post enc Try.prog Try.f9 false true false false) := by
  refine returnsInHanded_of_change (C := Try.checked) own started (by kernel_rfl) Try.func9
    (ChangeSpec.witness6 (enc := enc) (C := Try.checked) false ⟨#[], #[.slice none 0 0, .int .i64 0, .slice none 0 0, .int .i64 0], []⟩ 8 (by kernel_rfl) (by kernel_rfl) (by kernel_rfl) (by kernel_rfl)) ?_
  intro W base args ds gs before hval0 hW hcnd _
  have hval : ∀ (j : Nat) t v, Try.f9.params[j]? = some t → args[j]? = some v → Value.okWide Try.prog W .any base t v := hval0
  have hW' := hW
  obtain ⟨p, q, hA0, hV, rfl, hfz, hnd⟩ := hW
  have hA : DataW.TrodAll enc Try.prog W 0 (fun _ => true) true Try.f9.params.toList args.toList ds p := hA0
  rw [Try.params9] at hA hval
  obtain ⟨v0, vs0, d0, ds0, p0, q0, hargs, rfl, rfl, h0, r0⟩ := trodAll_cons hA
  obtain ⟨v1, vs1, d1, ds1, p1, q1, rfl, rfl, rfl, h1, r1⟩ := trodAll_cons r0
  obtain ⟨v2, vs2, d2, ds2, p2, q2, rfl, rfl, rfl, h2, r2⟩ := trodAll_cons r1
  obtain ⟨v3, vs3, d3, ds3, p3, q3, rfl, rfl, rfl, h3, r3⟩ := trodAll_cons r2
  obtain ⟨rfl, rfl, rfl⟩ := trodAll_nil r3
  obtain rfl : args = #[v0, v1, v2, v3] := by cases args; simp_all
  obtain ⟨rfl, rfl⟩ := trodVars_none hV
  have k0 := h0
  have lt0 : ∀ x ∈ p0, x.block < W.heap.size := by obtain ⟨m, hm⟩ := k0; exact DataW.trod_lt m _ _ _ hm
  have k1 := h1
  have lt1 : ∀ x ∈ p1, x.block < W.heap.size := by obtain ⟨m, hm⟩ := k1; exact DataW.trod_lt m _ _ _ hm
  have k2 := h2
  have lt2 : ∀ x ∈ p2, x.block < W.heap.size := by obtain ⟨m, hm⟩ := k2; exact DataW.trod_lt m _ _ _ hm
  have k3 := h3
  have lt3 : ∀ x ∈ p3, x.block < W.heap.size := by obtain ⟨m, hm⟩ := k3; exact DataW.trod_lt m _ _ _ hm
  obtain ⟨ai, leni, capi, rfl⟩ := okWide_slice Try.underlying24 (hval 0 24 v0 rfl rfl)
  obtain ⟨z, hli, hri⟩ := ints_of Try.underlying24 Try.underlying3 (by kernel_rfl) h0
  obtain ⟨a1, rfl, rfl, rfl, w1⟩ := open_int Try.underlying3 (hval 1 3 v1 rfl rfl) h1
  obtain ⟨ra, m, rcap, rfl⟩ := okWide_slice Try.underlying37 (hval 2 37 v2 rfl rfl)
  obtain ⟨ln, zz, hm, hrl, hrr⟩ := lists_of Try.underlying37 (by kernel_rfl) Try.underlying24 Try.underlying3 (by kernel_rfl) h2
  obtain ⟨a3, rfl, rfl, rfl, w3⟩ := open_int Try.underlying3 (hval 3 3 v3 rfl rfl) h3
  clear hA0 hval0
  refine (walk ai leni capi z a1 ra m rcap ln zz a3 W hli hri hm hrl hrr).mono fun e W' ⟨he, hg⟩ => ?_
  subst he
  exact ⟨_, rfl, _, _, _, [], _, [], hW', (trodAll_cons_mk (shut_bool Try.underlying4 _) trodAll_mk0), (trodAll_cons_mk (Below.trod laidOut (by kernel_rfl) (of_decide_eq_true (by kernel_rfl)) k0 hg lt0) (trodAll_cons_mk (Below.trod laidOut (by kernel_rfl) (of_decide_eq_true (by kernel_rfl)) k1 hg lt1) (trodAll_cons_mk (Below.trod laidOut (by kernel_rfl) (of_decide_eq_true (by kernel_rfl)) k2 hg lt2) (trodAll_cons_mk (Below.trod laidOut (by kernel_rfl) (of_decide_eq_true (by kernel_rfl)) k3 hg lt3) trodAll_mk0)))), rfl, hg.frame _, fun h => by cases h⟩

theorem over : Rows.fnExactTraceRow.holds Try.pinned (OpenSpec.ofChange Rows.fnExactTraceSpec) :=
  OpenClaim.holds_of_wide 9 Try.f9 rfl rfl rfl rfl rfl rfl rfl ⟨rfl, rfl, rfl, rfl, rfl⟩ rfl rfl rfl rfl rfl (by kernel_rfl) Try.func9 (by kernel_rfl)
    (of_decide_eq_true (by kernel_rfl)) (by unfold Func.isWrapper; first | (rw [if_pos (by decide +kernel)]; kernel_rfl) | (rw [if_neg (by decide +kernel)]; exact ⟨rfl, rfl⟩))
    (fun os started H enc _ => lifted os started H enc)

end Go.Proofs.Ytjlniinahfgakaa.fnExactTrace

namespace Go.Proofs.Ytjlniinahfgakaa
theorem fnExactTrace_holds : Rows.FnExactTraceSaid := fnExactTrace.over
#print axioms fnExactTrace_holds
end Go.Proofs.Ytjlniinahfgakaa
