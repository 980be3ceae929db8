/- At every argument BestOffer answers as the model, and writes into no argument; no condition. -/
import Derived.Test.YtghphlnpginmhaaRows
import Derived.WalkKit
import Derived.ProofKit
import Derived.OpenShut
import Derived.ShutString
import Derived.ChangeOld
import Derived.Below
import Derived.Handy
import Derived.Carry
import Derived.Lib.SmallJoins
import Derived.Deep.SlicePairs
import Derived.Test.YtghphlnpginmhaaOs
namespace Go.Proofs.Ytghphlnpginmhaa.fnExactBestOffer
open Go.ChangeShapes Go.WideShapes Go.ChangeAt Go.RowKit
set_option linter.unusedVariables false
set_option linter.unusedSimpArgs false

theorem own : ownKnob Try.prog.godebug = none := by kernel_rfl
theorem laidOut : laidOutB Try.prog = true := by kernel_rfl

set_option maxRecDepth 20000 in
set_option maxHeartbeats 4000000 in
theorem walk (ad : Option Addr) (len cap : Nat) (c : Nat → OF) (aq : Option Addr) (nq qcap : Nat) (rs : Nat → R4) (a2 : Int) (s3 : ByteArray) (a4 : Int) (a5 : Int) (w : World) (hl : len ≤ maxLen) (hc : ∀ j, (c j).rn ≤ maxLen ∧ (c j).who.size ≤ maxLen ∧ (c j).item.size ≤ maxLen) (hr : OFr w ad len c) (hnq : nq ≤ maxLen) (hqr : RR w aq nq rs) (hs3 : s3.size ≤ maxLen) :
    Calls Try.prog 7 #[.slice ad len cap, .slice aq nq qcap, .int .i64 a2, .string s3, .int .i64 a4, .int .i64 a5] w fun e w' => e = .returned (.bool true) ∧ Below w.heap.size w w' := by
  have HO : Hid (OFr w ad len c) := hr
  have HQ : Hid (RR w aq nq rs) := hqr
  have hl2 : (len : Int) ≤ 9223372036854775807 := by unfold maxLen at hl; omega
  have hq2 : (nq : Int) ≤ 9223372036854775807 := by unfold maxLen at hnq; omega
  have HA : Hid (∀ j, ((c j).rn : Int) ≤ 9223372036854775807) := fun j => by have := (hc j).1; unfold maxLen at this; omega
  have HB : Hid (∀ j, ((c j).who.size : Int) ≤ 9223372036854775807) := fun j => by have := (hc j).2.1; unfold maxLen at this; omega
  have HC : Hid (∀ j, ((c j).item.size : Int) ≤ 9223372036854775807) := fun j => by have := (hc j).2.2; unfold maxLen at this; omega
  have HZ : Hid (∀ j, (c j).who.size ≤ maxLen ∧ (c j).item.size ≤ maxLen) := fun j => ⟨(hc j).2.1, (hc j).2.2⟩
  have hsm : (s3.size : Int) ≤ 9223372036854775807 := by unfold maxLen at hs3; omega
  clear hr hqr hc hl hnq hs3
  by_cases hs : 1048576 < (s3.size : Int)
  · go_enter Try.func7, Try.ntmps7
    go_wp2
    go_returns
    exact ⟨rfl, Below.refl _ _⟩
  have hs4 : (s3.size : Int) ≤ 1048576 := by omega
  clear hs
  go_enter Try.func7, Try.ntmps7
  go_wp2_with (first
    | (go_at_call 27; go_loud (refine (szOFS_any _ _ _ c _ _ (by omega) (by omega) hl2 HA.out HB.out HC.out HO.out).mono ?_; rintro e w1 ⟨v, rfl, hv, b1⟩; have HB1 : Hid (Below w.heap.size w w1) := b1; clear b1; rcases hv with rfl | ⟨hv, hv1, hlb, hrn⟩))
    | (go_at_call 28; go_loud (refine (szR4_any _ _ _ _ _ hv hv1 hq2).mono ?_; rintro e w1' ⟨u, rfl, hu, ew⟩; replace ew := ew.symm; subst ew; rcases hu with rfl | ⟨hu, hu1, hqb⟩)))
  · go_returns
    exact ⟨rfl, HB1.out⟩
  · go_returns
    exact ⟨rfl, HB1.out⟩
  have HRN : Hid (∀ j, j < len → ((c j).rn : Int) ≤ 1048576) := hrn
  obtain ⟨R, hR⟩ : ∃ R, beF len c nq rs a2 s3 a4 a5 = R := ⟨_, rfl⟩
  have HSP : Hid (∀ (x : Option Addr) (k : Nat) (y : Option Addr) (l : Nat) (W : World), OFr W x len c → RR W y nq rs → Calls Try.prog 15 #[.slice x len k, .slice y nq l, .int .i64 a2, .string s3, .int .i64 a4, .int .i64 a5] W fun e w' => e = .returned (.tuple #[.int .i64 R.1, .int .i64 R.2]) ∧ Below W.heap.size W w') := hid (fun x k y l W h1 h2 => by rw [← hR]; exact specBest_any x len k c y nq l rs a2 s3 a4 a5 W hlb hqb HRN.out HZ.out h1 h2)
  have HIM : Hid (∀ (x : Option Addr) (k : Nat) (y : Option Addr) (l : Nat) (W : World), OFr W x len c → RR W y nq rs → Calls Try.prog 14 #[.slice x len k, .slice y nq l, .int .i64 a2, .string s3, .int .i64 a4, .int .i64 a5] W fun e w' => e = .returned (.tuple #[.int .i64 R.1, .int .i64 R.2]) ∧ Below W.heap.size W w') := hid (fun x k y l W h1 h2 => by rw [← hR]; exact implBest_any x len k c y nq l rs a2 s3 a4 a5 W hlb hqb HRN.out HZ.out h1 h2)
  obtain ⟨R1, R2⟩ := R
  simp only at HSP HIM
  have hv3 : ¬ v < 0 := by omega
  have hu3 : ¬ u < 0 := by omega
  clear hR hrn
  have tok1 : True := trivial
  have tok2 : True := trivial
  have tok3 : True := trivial
  have tok4 : True := trivial
  go_wp2_with (first
    | (go_at_call 29; clear tok1; go_loud (refine (toOFS_any _ _ _ c w1 hlb HRN.out (HO.out.below HB1.out)).mono ?_; rintro e w2 ⟨rfl, ⟨bt2, o2⟩, b2⟩; have HX2 : Hid (OFr w2 (some ⟨w1.heap.size, 0, none⟩) len c) := o2.row; have HB2 : Hid (Below w.heap.size w w2) := bel_on HB1.out b2; clear o2 b2))
    | (go_at_call 30; clear tok2; go_loud (refine (Rt.toRateS_any _ _ _ rs w2 hqb (HQ.out.below HB2.out)).mono ?_; rintro e w3 ⟨rfl, o3, b3⟩; have HX3 : Hid (OFr w3 (some ⟨w1.heap.size, 0, none⟩) len c) := HX2.out.below b3; have HY3 : Hid (RR w3 (some ⟨w2.heap.size, 0, none⟩) nq rs) := o3; have HB3 : Hid (Below w.heap.size w w3) := bel_on HB2.out b3; clear o3 b3))
    | (go_at_call 15; go_loud (refine (HSP.out _ _ _ _ w3 HX3.out HY3.out).mono ?_; rintro e w4 ⟨rfl, b4⟩; have HB4 : Hid (Below w.heap.size w w4) := bel_on HB3.out b4; clear b4))
    | (go_at_call 29; clear tok3; go_loud (refine (toOFS_any _ _ _ c w4 hlb HRN.out (HO.out.below HB4.out)).mono ?_; rintro e w5 ⟨rfl, ⟨bt5, o5⟩, b5⟩; have HX5 : Hid (OFr w5 (some ⟨w4.heap.size, 0, none⟩) len c) := o5.row; have HB5 : Hid (Below w.heap.size w w5) := bel_on HB4.out b5; clear o5 b5))
    | (go_at_call 30; clear tok4; go_loud (refine (Rt.toRateS_any _ _ _ rs w5 hqb (HQ.out.below HB5.out)).mono ?_; rintro e w6 ⟨rfl, o6, b6⟩; have HX6 : Hid (OFr w6 (some ⟨w4.heap.size, 0, none⟩) len c) := HX5.out.below b6; have HY6 : Hid (RR w6 (some ⟨w5.heap.size, 0, none⟩) nq rs) := o6; have HB6 : Hid (Below w.heap.size w w6) := bel_on HB5.out b6; clear o6 b6))
    | (go_at_call 14; go_loud (refine (HIM.out _ _ _ _ w6 HX6.out HY6.out).mono ?_; rintro e w7 ⟨rfl, b7⟩; have HX7 : Hid (OFr w7 (some ⟨w4.heap.size, 0, none⟩) len c) := HX6.out.below b7; have HY7 : Hid (RR w7 (some ⟨w5.heap.size, 0, none⟩) nq rs) := HY6.out.below b7; have HB7 : Hid (Below w.heap.size w w7) := bel_on HB6.out b7; clear b7))
    | (go_at_call 29; go_loud (refine (toOFS_any _ _ _ c w7 hlb HRN.out (HO.out.below HB7.out)).mono ?_; rintro e w8 ⟨rfl, ⟨bt8, o8⟩, b8⟩; have HI8 : Hid (OFr w8 (some ⟨w7.heap.size, 0, none⟩) len c) := o8.row; have HX8 : Hid (OFr w8 (some ⟨w4.heap.size, 0, none⟩) len c) := HX7.out.below b8; have HY8 : Hid (RR w8 (some ⟨w5.heap.size, 0, none⟩) nq rs) := HY7.out.below b8; have HB8 : Hid (Below w.heap.size w w8) := bel_on HB7.out b8; clear o8 b8))
    | (go_at_call 31; go_loud (refine (eqOFS_same _ _ _ _ _ c w8 hlb HRN.out HX8.out HI8.out).mono ?_; rintro e w9 ⟨rfl, b9⟩; have HY9 : Hid (RR w9 (some ⟨w5.heap.size, 0, none⟩) nq rs) := HY8.out.below b9; have HB9 : Hid (Below w.heap.size w w9) := bel_on HB8.out b9; clear b9))
    | (go_at_call 30; go_loud (refine (Rt.toRateS_any _ _ _ rs w9 hqb (HQ.out.below HB9.out)).mono ?_; rintro e w10 ⟨rfl, o10, b10⟩; have HI10 : Hid (RR w10 (some ⟨w9.heap.size, 0, none⟩) nq rs) := o10; have HY10 : Hid (RR w10 (some ⟨w5.heap.size, 0, none⟩) nq rs) := HY9.out.below b10; have HB10 : Hid (Below w.heap.size w w10) := bel_on HB9.out b10; clear o10 b10))
    | (go_at_call 32; go_loud (refine (Rt.eqRateS_same _ _ _ _ _ rs w10 hqb HY10.out HI10.out).mono ?_; rintro e w11 ⟨rfl, b11⟩; have HB11 : Hid (Below w.heap.size w w11) := bel_on HB10.out b11; clear b11)))
  go_returns
  exact ⟨rfl, HB11.out⟩

set_option maxRecDepth 100000 in
theorem lifted (os : Os) (started : os.Started) (H : Type) (enc : TypeId × Value → H) :
    ReturnsInHanded {} Try.checked os 7 .any (Rows.fnExactBestOfferSpec.pre6 enc Try.prog Try.f7 Rows.fnExactBestOfferRow.domain false) (Rows.fnExactBestOfferSpec.post enc Try.prog Try.f7 false true false false) := by
  refine returnsInHanded_of_change (C := Try.checked) own started (by kernel_rfl) Try.func7
    (ChangeSpec.witness6 (enc := enc) (C := Try.checked) false ⟨#[], #[.slice none 0 0, .slice none 0 0, .int .i64 0, .string ByteArray.empty, .int .i64 0, .int .i64 0], []⟩ 8 (by kernel_rfl) (by kernel_rfl) (by kernel_rfl) (by kernel_rfl)) ?_
  intro W base args ds gs before hval0 hW hcnd _
  have hval : ∀ (j : Nat) t v, Try.f7.params[j]? = some t → args[j]? = some v → Value.okWide Try.prog W .any base t v := hval0
  have hW' := hW
  obtain ⟨p, q, hA0, hV, rfl, hfz, hnd⟩ := hW
  have hA : DataW.TrodAll enc Try.prog W 0 (fun _ => true) true Try.f7.params.toList args.toList ds p := hA0
  rw [Try.params7] at hA hval
  obtain ⟨v0, vs0, d0, ds0, p0, q0, hargs, rfl, rfl, h0, r0⟩ := trodAll_cons hA
  obtain ⟨v1, vs1, d1, ds1, p1, q1, rfl, rfl, rfl, h1, r1⟩ := trodAll_cons r0
  obtain ⟨v2, vs2, d2, ds2, p2, q2, rfl, rfl, rfl, h2, r2⟩ := trodAll_cons r1
  obtain ⟨v3, vs3, d3, ds3, p3, q3, rfl, rfl, rfl, h3, r3⟩ := trodAll_cons r2
  obtain ⟨v4, vs4, d4, ds4, p4, q4, rfl, rfl, rfl, h4, r4⟩ := trodAll_cons r3
  obtain ⟨v5, vs5, d5, ds5, p5, q5, rfl, rfl, rfl, h5, r5⟩ := trodAll_cons r4
  obtain ⟨rfl, rfl, rfl⟩ := trodAll_nil r5
  obtain rfl : args = #[v0, v1, v2, v3, v4, v5] := by cases args; simp_all
  obtain ⟨rfl, rfl⟩ := trodVars_none hV
  have k0 := h0
  have lt0 : ∀ x ∈ p0, x.block < W.heap.size := by obtain ⟨m, hm⟩ := k0; exact DataW.trod_lt m _ _ _ hm
  have k1 := h1
  have lt1 : ∀ x ∈ p1, x.block < W.heap.size := by obtain ⟨m, hm⟩ := k1; exact DataW.trod_lt m _ _ _ hm
  have k2 := h2
  have lt2 : ∀ x ∈ p2, x.block < W.heap.size := by obtain ⟨m, hm⟩ := k2; exact DataW.trod_lt m _ _ _ hm
  have k3 := h3
  have lt3 : ∀ x ∈ p3, x.block < W.heap.size := by obtain ⟨m, hm⟩ := k3; exact DataW.trod_lt m _ _ _ hm
  have k4 := h4
  have lt4 : ∀ x ∈ p4, x.block < W.heap.size := by obtain ⟨m, hm⟩ := k4; exact DataW.trod_lt m _ _ _ hm
  have k5 := h5
  have lt5 : ∀ x ∈ p5, x.block < W.heap.size := by obtain ⟨m, hm⟩ := k5; exact DataW.trod_lt m _ _ _ hm
  obtain ⟨ad, len, cap, rfl⟩ := okWide_slice Try.underlying59 (hval 0 59 v0 rfl rfl)
  obtain ⟨c, hl, hc, hr⟩ := OF_of Try.underlying59 Try.underlying52 (by kernel_rfl) ⟨rfl, rfl, rfl, rfl, rfl, rfl, rfl⟩ ⟨by kernel_rfl, by kernel_rfl, by kernel_rfl, by kernel_rfl, by kernel_rfl, by kernel_rfl, by kernel_rfl⟩ Try.underlying9 Try.underlying9 Try.underlying3 Try.underlying3 Try.underlying3 Try.underlying3 Try.underlying50 Try.underlying182 (by kernel_rfl) ⟨rfl, rfl⟩ ⟨by kernel_rfl, by kernel_rfl⟩ Try.underlying3 Try.underlying3 h0
  obtain ⟨aq, nq, qcap, rfl⟩ := okWide_slice Try.underlying60 (hval 1 60 v1 rfl rfl)
  obtain ⟨rs, hnq, hqr⟩ := rates_of Try.underlying60 Try.underlying146 (by kernel_rfl) ⟨rfl, rfl, rfl, rfl⟩ ⟨by kernel_rfl, by kernel_rfl, by kernel_rfl, by kernel_rfl⟩ Try.underlying3 Try.underlying3 Try.underlying3 Try.underlying3 h1
  obtain ⟨a2, rfl, rfl, rfl, w2⟩ := open_int Try.underlying3 (hval 2 3 v2 rfl rfl) h2
  obtain ⟨s3, rfl, rfl, rfl, hs3⟩ := Go.ChangeMaps.open_string Try.underlying9 (hval 3 9 v3 rfl rfl) h3
  obtain ⟨a4, rfl, rfl, rfl, w4⟩ := open_int Try.underlying3 (hval 4 3 v4 rfl rfl) h4
  obtain ⟨a5, rfl, rfl, rfl, w5⟩ := open_int Try.underlying3 (hval 5 3 v5 rfl rfl) h5
  clear hA0 hval0
  refine (walk ad len cap c aq nq qcap rs a2 s3 a4 a5 W hl hc hr hnq hqr hs3).mono fun e W' ⟨he, hg⟩ => ?_
  subst he
  exact ⟨_, rfl, _, _, _, [], _, [], hW', (trodAll_cons_mk (shut_bool Try.underlying4 _) trodAll_mk0), (trodAll_cons_mk (Below.trod laidOut (by kernel_rfl) (of_decide_eq_true (by kernel_rfl)) k0 hg lt0) (trodAll_cons_mk (Below.trod laidOut (by kernel_rfl) (of_decide_eq_true (by kernel_rfl)) k1 hg lt1) (trodAll_cons_mk (Below.trod laidOut (by kernel_rfl) (of_decide_eq_true (by kernel_rfl)) k2 hg lt2) (trodAll_cons_mk (Below.trod laidOut (by kernel_rfl) (of_decide_eq_true (by kernel_rfl)) k3 hg lt3) (trodAll_cons_mk (Below.trod laidOut (by kernel_rfl) (of_decide_eq_true (by kernel_rfl)) k4 hg lt4) (trodAll_cons_mk (Below.trod laidOut (by kernel_rfl) (of_decide_eq_true (by kernel_rfl)) k5 hg lt5) trodAll_mk0)))))), rfl, hg.frame _, fun h => by cases h⟩

theorem over : Rows.fnExactBestOfferRow.holds Try.pinned (OpenSpec.ofChange Rows.fnExactBestOfferSpec) :=
  OpenClaim.holds_of_wide 7 Try.f7 rfl rfl rfl rfl rfl rfl rfl ⟨rfl, rfl, rfl, rfl, rfl⟩ rfl rfl rfl rfl rfl (by kernel_rfl) Try.func7 (by kernel_rfl)
    (of_decide_eq_true (by kernel_rfl)) (by unfold Func.isWrapper; first | (rw [if_pos (by decide +kernel)]; kernel_rfl) | (rw [if_neg (by decide +kernel)]; exact ⟨rfl, rfl⟩))
    (fun os started H enc _ => lifted os started H enc)

end Go.Proofs.Ytghphlnpginmhaa.fnExactBestOffer

namespace Go.Proofs.Ytghphlnpginmhaa
theorem fnExactBestOffer_holds : Rows.FnExactBestOfferSaid := fnExactBestOffer.over
#print axioms fnExactBestOffer_holds
end Go.Proofs.Ytghphlnpginmhaa
