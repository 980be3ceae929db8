/- Whether one may is answered alike on both sides, and the program leaves the people as they were. -/
import Derived.Test.YtdhpadcihlmhiaaRows
import Derived.WalkKit
import Derived.ProofKit
import Derived.OpenShut
import Derived.ShutString
import Derived.ChangeOld
import Derived.Below
import Derived.Handy
import Derived.Carry
import Derived.Lib.SmallJoins
import Derived.Deep.SlicePairs
import Derived.Test.YtdhpadcihlmhiaaQh
namespace Go.Proofs.Ytdhpadcihlmhiaa.fnExactMay
open Go.ChangeShapes Go.WideShapes Go.ChangeAt Go.RowKit
set_option linter.unusedVariables false
set_option linter.unusedSimpArgs false

theorem own : ownKnob Try.prog.godebug = none := by kernel_rfl
theorem laidOut : laidOutB Try.prog = true := by kernel_rfl

set_option maxRecDepth 20000 in
set_option maxHeartbeats 4000000 in
theorem walk (ad : Option Addr) (len cap : Nat) (c : Nat → PE) (a1 : Int) (s2 : ByteArray) (a3 : Int) (w : World) (hl : len ≤ maxLen) (hc : ∀ j, (c j).rn ≤ maxLen ∧ (∀ i, ((c j).rz i).size ≤ maxLen) ∧ (c j).nm.size ≤ maxLen ∧ (c j).fr.size ≤ maxLen) (hr : PEr w ad len c) (hs2 : s2.size ≤ maxLen) :
    Calls Try.prog 4 #[.slice ad len cap, .int .i64 a1, .string s2, .int .i64 a3] w fun e w' => e = .returned (.bool true) ∧ Below w.heap.size w w' := by
  have hl2 : (len : Int) ≤ 9223372036854775807 := by unfold maxLen at hl; omega
  have HR : Hid (PEr w ad len c) := hr
  have HC : Hid (PSz c) := hc
  have HZ : Hid ((∀ j, ((c j).rn : Int) ≤ 9223372036854775807) ∧ (∀ j i, (((c j).rz i).size : Int) ≤ 9223372036854775807) ∧ (∀ j, ((c j).nm.size : Int) ≤ 9223372036854775807) ∧ (∀ j, ((c j).fr.size : Int) ≤ 9223372036854775807)) := ⟨fun j => by have := (hc j).1; unfold maxLen at this; omega, fun j i => by have := (hc j).2.1 i; unfold maxLen at this; omega, fun j => by have := (hc j).2.2.1; unfold maxLen at this; omega, fun j => by have := (hc j).2.2.2; unfold maxLen at this; omega⟩
  obtain ⟨v, hv0⟩ : ∃ v, mayB len c a1 s2 a3 = v := ⟨_, rfl⟩
  have HV : Hid (mayB len c a1 s2 a3 = v) := hv0
  have tk1 : True := trivial
  have tk2 : True := trivial
  clear hr hc hl hv0
  by_cases hbig : (1048576 : Int) < (s2.size : Int)
  · go_enter Try.func4, Try.ntmps4
    go_wp2
    go_returns
    exact ⟨rfl, Below.refl _ _⟩
  go_enter Try.func4, Try.ntmps4
  go_wp2_with (first
    | (go_at_call 5; refine (szPES_any _ _ _ c _ _ (by omega) (by omega) hl2 HZ.out.1 HZ.out.2.1 HZ.out.2.2.1 HZ.out.2.2.2 HR.out).mono ?_; rintro e w1 ⟨v1, rfl, hv, b1⟩; have HB1 : Hid (Below w.heap.size w w1) := b1; clear b1; rcases hv with rfl | ⟨hv, hv1, hb, hn⟩; rotate_left; (have HN : Hid (∀ j, j < len → ((c j).rn : Int) ≤ 1048576) := hn); (have h3 : ¬ v1 < 0 := by omega); clear hn)
    | (go_at_call 7; clear tk1; refine (toPES_any _ _ _ c _ hb HN.out (HR.out.below HB1.out)).mono ?_; rintro e w2 ⟨rfl, ⟨bt2, i2⟩, b2⟩; have HI2 : Hid (PEr w2 (some ⟨w1.heap.size, 0, none⟩) len c) := i2.row; have HB2 : Hid (Below w.heap.size w w2) := bel_on HB1.out b2; clear i2 b2)
    | (go_at_call 10; refine (specMay_any _ _ _ c a1 s2 a3 _ hb HC.out HI2.out).mono ?_; rintro e w3 ⟨rfl, b3⟩; have HB3 : Hid (Below w.heap.size w w3) := bel_on HB2.out b3; rw [HV.out]; clear b3)
    | (go_at_call 7; clear tk2; refine (toPES_any _ _ _ c _ hb HN.out (HR.out.below HB3.out)).mono ?_; rintro e w4 ⟨rfl, ⟨bt4, i4⟩, b4⟩; have HI4 : Hid (PEr w4 (some ⟨w3.heap.size, 0, none⟩) len c) := i4.row; have HB4 : Hid (Below w.heap.size w w4) := bel_on HB3.out b4; clear i4 b4)
    | (go_at_call 11; refine (implMay_any _ _ _ c a1 s2 a3 _ hb HC.out HI4.out).mono ?_; rintro e w5 ⟨rfl, b5⟩; have HB5 : Hid (Below w.heap.size w w5) := bel_on HB4.out b5; have HI5 := hid (HI4.out.below b5); rw [HV.out]; clear b5)
    | (go_at_call 7; refine (toPES_any _ _ _ c _ hb HN.out (HR.out.below HB5.out)).mono ?_; rintro e w6 ⟨rfl, ⟨bt6, i6⟩, b6⟩; have HI6 : Hid (PEr w6 (some ⟨w5.heap.size, 0, none⟩) len c) := i6.row; have HJ6 := hid (HI5.out.below b6); have HB6 : Hid (Below w.heap.size w w6) := bel_on HB5.out b6; clear i6 b6)
    | (go_at_call 9; refine (eqPES_same _ _ _ _ _ c _ hb HN.out HJ6.out HI6.out).mono ?_; rintro e w7 ⟨rfl, b7⟩; have HB7 : Hid (Below w.heap.size w w7) := bel_on HB6.out b7; clear b7))
  · go_returns
    exact ⟨rfl, HB7.out⟩
  · go_returns
    exact ⟨rfl, HB1.out⟩

set_option maxRecDepth 100000 in
theorem lifted (os : Os) (started : os.Started) (H : Type) (enc : TypeId × Value → H) :
    ReturnsInHanded {} Try.checked os 4 .any (Rows.fnExactMaySpec.pre6 enc Try.prog Try.f4 Rows.fnExactMayRow.domain false) (Rows.fnExactMaySpec.post enc Try.prog Try.f4 false true false false) := by
  refine returnsInHanded_of_change (C := Try.checked) own started (by kernel_rfl) Try.func4
    (ChangeSpec.witness6 (enc := enc) (C := Try.checked) false ⟨#[], #[.slice none 0 0, .int .i64 0, .string ByteArray.empty, .int .i64 0], []⟩ 8 (by kernel_rfl) (by kernel_rfl) (by kernel_rfl) (by kernel_rfl)) ?_
  intro W base args ds gs before hval0 hW hcnd _
  have hval : ∀ (j : Nat) t v, Try.f4.params[j]? = some t → args[j]? = some v → Value.okWide Try.prog W .any base t v := hval0
  have hW' := hW
  obtain ⟨p, q, hA0, hV, rfl, hfz, hnd⟩ := hW
  have hA : DataW.TrodAll enc Try.prog W 0 (fun _ => true) true Try.f4.params.toList args.toList ds p := hA0
  rw [Try.params4] at hA hval
  obtain ⟨v0, vs0, d0, ds0, p0, q0, hargs, rfl, rfl, h0, r0⟩ := trodAll_cons hA
  obtain ⟨v1, vs1, d1, ds1, p1, q1, rfl, rfl, rfl, h1, r1⟩ := trodAll_cons r0
  obtain ⟨v2, vs2, d2, ds2, p2, q2, rfl, rfl, rfl, h2, r2⟩ := trodAll_cons r1
  obtain ⟨v3, vs3, d3, ds3, p3, q3, rfl, rfl, rfl, h3, r3⟩ := trodAll_cons r2
  obtain ⟨rfl, rfl, rfl⟩ := trodAll_nil r3
  obtain rfl : args = #[v0, v1, v2, v3] := by cases args; simp_all
  obtain ⟨rfl, rfl⟩ := trodVars_none hV
  have k0 := h0
  have lt0 : ∀ x ∈ p0, x.block < W.heap.size := by obtain ⟨m, hm⟩ := k0; exact DataW.trod_lt m _ _ _ hm
  have k1 := h1
  have lt1 : ∀ x ∈ p1, x.block < W.heap.size := by obtain ⟨m, hm⟩ := k1; exact DataW.trod_lt m _ _ _ hm
  have k2 := h2
  have lt2 : ∀ x ∈ p2, x.block < W.heap.size := by obtain ⟨m, hm⟩ := k2; exact DataW.trod_lt m _ _ _ hm
  have k3 := h3
  have lt3 : ∀ x ∈ p3, x.block < W.heap.size := by obtain ⟨m, hm⟩ := k3; exact DataW.trod_lt m _ _ _ hm
  obtain ⟨ad, len, cap, rfl⟩ := okWide_slice Try.underlying22 (hval 0 22 v0 rfl rfl)
  obtain ⟨c, hl, hc, hr⟩ := PE_of Try.underlying22 Try.underlying34 (by kernel_rfl) ⟨rfl, rfl, rfl, rfl, rfl⟩ ⟨by kernel_rfl, by kernel_rfl, by kernel_rfl, by kernel_rfl, by kernel_rfl⟩ Try.underlying9 Try.underlying32 Try.underlying3 Try.underlying9 Try.underlying4 Try.underlying9 (by kernel_rfl) h0
  obtain ⟨a1, rfl, rfl, rfl, w1⟩ := open_int Try.underlying3 (hval 1 3 v1 rfl rfl) h1
  obtain ⟨s2, rfl, rfl, rfl, hs2⟩ := Go.ChangeMaps.open_string Try.underlying9 (hval 2 9 v2 rfl rfl) h2
  obtain ⟨a3, rfl, rfl, rfl, w3⟩ := open_int Try.underlying3 (hval 3 3 v3 rfl rfl) h3
  clear hA0 hval0
  refine (walk ad len cap c a1 s2 a3 W hl hc hr hs2).mono fun e W' ⟨he, hg⟩ => ?_
  subst he
  exact ⟨_, rfl, _, _, _, [], _, [], hW', (trodAll_cons_mk (shut_bool Try.underlying4 _) trodAll_mk0), (trodAll_cons_mk (Below.trod laidOut (by kernel_rfl) (of_decide_eq_true (by kernel_rfl)) k0 hg lt0) (trodAll_cons_mk (Below.trod laidOut (by kernel_rfl) (of_decide_eq_true (by kernel_rfl)) k1 hg lt1) (trodAll_cons_mk (Below.trod laidOut (by kernel_rfl) (of_decide_eq_true (by kernel_rfl)) k2 hg lt2) (trodAll_cons_mk (Below.trod laidOut (by kernel_rfl) (of_decide_eq_true (by kernel_rfl)) k3 hg lt3) trodAll_mk0)))), rfl, hg.frame _, fun h => by cases h⟩

theorem over : Rows.fnExactMayRow.holds Try.pinned (OpenSpec.ofChange Rows.fnExactMaySpec) :=
  OpenClaim.holds_of_wide 4 Try.f4 rfl rfl rfl rfl rfl rfl rfl ⟨rfl, rfl, rfl, rfl, rfl⟩ rfl rfl rfl rfl rfl (by kernel_rfl) Try.func4 (by kernel_rfl)
    (of_decide_eq_true (by kernel_rfl)) (by unfold Func.isWrapper; first | (rw [if_pos (by decide +kernel)]; kernel_rfl) | (rw [if_neg (by decide +kernel)]; exact ⟨rfl, rfl⟩))
    (fun os started H enc _ => lifted os started H enc)

end Go.Proofs.Ytdhpadcihlmhiaa.fnExactMay

namespace Go.Proofs.Ytdhpadcihlmhiaa
theorem fnExactMay_holds : Rows.FnExactMaySaid := fnExactMay.over
#print axioms fnExactMay_holds
end Go.Proofs.Ytdhpadcihlmhiaa
