/- At every argument OfferPrice answers as the model, and writes into no argument; no condition. -/
import Derived.Test.YtghphlnpginmhaaRows
import Derived.WalkKit
import Derived.ProofKit
import Derived.OpenShut
import Derived.ShutString
import Derived.ChangeOld
import Derived.Below
import Derived.Handy
import Derived.Carry
import Derived.Lib.SmallJoins
import Derived.Deep.SlicePairs
import Derived.Test.YtghphlnpginmhaaOj
import Derived.Test.YtghphlnpginmhaaOk
namespace Go.Proofs.Ytghphlnpginmhaa.fnExactOfferPrice
open Go.ChangeShapes Go.WideShapes Go.ChangeAt Go.RowKit
set_option linter.unusedVariables false
set_option linter.unusedSimpArgs false

theorem own : ownKnob Try.prog.godebug = none := by kernel_rfl
theorem laidOut : laidOutB Try.prog = true := by kernel_rfl

set_option maxRecDepth 20000 in
set_option maxHeartbeats 4000000 in
theorem walk (who item : ByteArray) (cur fst lst lea : Int) (ra : Option Addr) (rn rc : Nat) (rz : Nat → SC2) (a1 : Int) (a2 : Int) (w : World) (hwho : who.size ≤ maxLen) (hitem : item.size ≤ maxLen) (hrn : rn ≤ maxLen) (hsr : SCr w ra rn rz) :
    Calls Try.prog 6 #[.agg #[.string who, .string item, .int .i64 cur, .int .i64 fst, .int .i64 lst, .int .i64 lea, .slice ra rn rc], .int .i64 a1, .int .i64 a2] w fun e w' => e = .returned (.bool true) ∧ Below w.heap.size w w' := by
  have HS : Hid (SCr w ra rn rz) := hsr
  have HW : Hid (who.size ≤ maxLen) := hwho
  have HI : Hid (item.size ≤ maxLen) := hitem
  have hw2 : (who.size : Int) ≤ 9223372036854775807 := by unfold maxLen at hwho; omega
  have hi2 : (item.size : Int) ≤ 9223372036854775807 := by unfold maxLen at hitem; omega
  have hr2 : (rn : Int) ≤ 9223372036854775807 := by unfold maxLen at hrn; omega
  clear hsr hwho hitem hrn
  have tok1 : True := trivial
  go_enter Try.func6, Try.ntmps6
  go_wp2_with (first
    | (go_at_call 21; refine (szOF_any who item cur fst lst lea ra rn rc rz _ _ (by omega) (by omega) hr2 hw2 hi2 (HS.out.alloc _)).mono ?_; rintro e w1 ⟨v, rfl, hv, b1⟩; obtain ⟨C1, B1⟩ := box_bl b1; have HC1 : Hid (CB w1 w.heap.size #[.string who, .string item, .int .i64 cur, .int .i64 fst, .int .i64 lst, .int .i64 lea, .slice ra rn rc] 52) := C1; have HB1 : Hid (Below w.heap.size w w1) := B1; clear b1 B1 C1; have x0 := (HC1.out.cell 0).trans rfl; have x1 := (HC1.out.cell 1).trans rfl; have x2 := (HC1.out.cell 2).trans rfl; have x3 := (HC1.out.cell 3).trans rfl; have x4 := (HC1.out.cell 4).trans rfl; have x5 := (HC1.out.cell 5).trans rfl; have x6 := (HC1.out.cell 6).trans rfl; rcases hv with rfl | ⟨hv, hv1, hb⟩)
    | (go_at_call 23; clear tok1; refine (toOF_any who item cur fst lst lea ra rn rc rz _ hb (HS.out.below HB1.out)).mono ?_; rintro e w2 ⟨t2, rfl, _, o2, b2⟩; have HO2 : Hid (SCr w2 (some ⟨t2, 0, none⟩) rn rz) := o2.1; have HB2 : Hid (Below w.heap.size w w2) := bel_on HB1.out b2; have HC2 : Hid (CB w2 w.heap.size #[.string who, .string item, .int .i64 cur, .int .i64 fst, .int .i64 lst, .int .i64 lea, .slice ra rn rc] 52) := HC1.out.below b2 HC1.out.lt; clear o2 b2)
    | (go_at_call 26; refine (specPrice_any who item cur fst lst lea _ rn _ rz a1 a2 _ HW.out HI.out hb HO2.out).mono ?_; rintro e w3 ⟨rfl, b3⟩; have HB3 : Hid (Below w.heap.size w w3) := bel_on HB2.out b3; have HC3 : Hid (CB w3 w.heap.size #[.string who, .string item, .int .i64 cur, .int .i64 fst, .int .i64 lst, .int .i64 lea, .slice ra rn rc] 52) := HC2.out.below b3 HC2.out.lt; clear b3; replace x0 := (HC3.out.cell 0).trans rfl; replace x1 := (HC3.out.cell 1).trans rfl; replace x2 := (HC3.out.cell 2).trans rfl; replace x3 := (HC3.out.cell 3).trans rfl; replace x4 := (HC3.out.cell 4).trans rfl; replace x5 := (HC3.out.cell 5).trans rfl; replace x6 := (HC3.out.cell 6).trans rfl)
    | (go_at_call 23; refine (toOF_any who item cur fst lst lea ra rn rc rz _ hb (HS.out.below HB3.out)).mono ?_; rintro e w4 ⟨t4, rfl, _, o4, b4⟩; have HO4 : Hid (SCr w4 (some ⟨t4, 0, none⟩) rn rz) := o4.1; have HB4 : Hid (Below w.heap.size w w4) := bel_on HB3.out b4; have HC4 : Hid (CB w4 w.heap.size #[.string who, .string item, .int .i64 cur, .int .i64 fst, .int .i64 lst, .int .i64 lea, .slice ra rn rc] 52) := HC3.out.below b4 HC3.out.lt; clear o4 b4)
    | (go_at_call 16; refine (implPrice_any who item cur fst lst lea _ rn _ rz a1 a2 _ HW.out HI.out hb (HO4.out.alloc _)).mono ?_; rintro e w5 ⟨rfl, b5⟩; obtain ⟨C5, B5⟩ := box_bl b5; have HD5 : Hid (CB w5 w4.heap.size #[.string who, .string item, .int .i64 cur, .int .i64 fst, .int .i64 lst, .int .i64 lea, .slice (some ⟨t4, 0, none⟩) rn rn] 34) := C5; have HC5 : Hid (CB w5 w.heap.size #[.string who, .string item, .int .i64 cur, .int .i64 fst, .int .i64 lst, .int .i64 lea, .slice ra rn rc] 52) := HC4.out.below B5 HC4.out.lt; have HO5 : Hid (SCr w5 (some ⟨t4, 0, none⟩) rn rz) := HO4.out.below B5; have HB5 : Hid (Below w.heap.size w w5) := bel_on HB4.out B5; clear C5 B5 b5; replace x0 := (HC5.out.cell 0).trans rfl; replace x1 := (HC5.out.cell 1).trans rfl; replace x2 := (HC5.out.cell 2).trans rfl; replace x3 := (HC5.out.cell 3).trans rfl; replace x4 := (HC5.out.cell 4).trans rfl; replace x5 := (HC5.out.cell 5).trans rfl; replace x6 := (HC5.out.cell 6).trans rfl; have z0 := (HD5.out.cell 0).trans rfl; have z1 := (HD5.out.cell 1).trans rfl; have z2 := (HD5.out.cell 2).trans rfl; have z3 := (HD5.out.cell 3).trans rfl; have z4 := (HD5.out.cell 4).trans rfl; have z5 := (HD5.out.cell 5).trans rfl; have z6 := (HD5.out.cell 6).trans rfl))
  · go_returns
    exact ⟨rfl, HB1.out⟩
  have hBd : Below w.heap.size w w5.drew := HB5.out.drew
  have hSd : SCr w5.drew (some ⟨t4, 0, none⟩) rn rz := HO5.out
  go_region_held3 (fun w' => (w'.cell? ⟨w.heap.size, 0, none⟩ = some (.string who) ∧ w'.cell? ⟨w.heap.size, 1, none⟩ = some (.string item) ∧ w'.cell? ⟨w.heap.size, 2, none⟩ = some (.int .i64 cur) ∧ w'.cell? ⟨w.heap.size, 3, none⟩ = some (.int .i64 fst) ∧ w'.cell? ⟨w.heap.size, 4, none⟩ = some (.int .i64 lst) ∧ w'.cell? ⟨w.heap.size, 5, none⟩ = some (.int .i64 lea) ∧ w'.cell? ⟨w.heap.size, 6, none⟩ = some (.slice ra rn rc)) ∧ (w'.cell? ⟨w4.heap.size, 0, none⟩ = some (.string who) ∧ w'.cell? ⟨w4.heap.size, 1, none⟩ = some (.string item) ∧ w'.cell? ⟨w4.heap.size, 2, none⟩ = some (.int .i64 cur) ∧ w'.cell? ⟨w4.heap.size, 3, none⟩ = some (.int .i64 fst) ∧ w'.cell? ⟨w4.heap.size, 4, none⟩ = some (.int .i64 lst) ∧ w'.cell? ⟨w4.heap.size, 5, none⟩ = some (.int .i64 lea) ∧ w'.cell? ⟨w4.heap.size, 6, none⟩ = some (.slice (some ⟨t4, 0, none⟩) rn rn)) ∧ Below w.heap.size w w' ∧ SCr w' (some ⟨t4, 0, none⟩) rn rz)
    (refine ⟨⟨?_, ?_, ?_, ?_, ?_, ?_, ?_⟩, ⟨?_, ?_, ?_, ?_, ?_, ?_, ?_⟩, ?_, ?_⟩ <;> first | assumption | (simp [*]; done))
    (first
    | (go_at_call 23; refine (toOF_any who item cur fst lst lea ra rn rc rz _ hb (HS.out.below (by assumption))).mono ?_; rintro e wz ⟨t6, rfl, _, oz, bz⟩; have HO6 : Hid (SCr wz (some ⟨t6, 0, none⟩) rn rz) := oz.1; have k0_0 : wz.cell? ⟨w.heap.size, 0, none⟩ = some (.string who) := keep_cell bz (by simp [*]); have k0_1 : wz.cell? ⟨w.heap.size, 1, none⟩ = some (.string item) := keep_cell bz (by simp [*]); have k0_2 : wz.cell? ⟨w.heap.size, 2, none⟩ = some (.int .i64 cur) := keep_cell bz (by simp [*]); have k0_3 : wz.cell? ⟨w.heap.size, 3, none⟩ = some (.int .i64 fst) := keep_cell bz (by simp [*]); have k0_4 : wz.cell? ⟨w.heap.size, 4, none⟩ = some (.int .i64 lst) := keep_cell bz (by simp [*]); have k0_5 : wz.cell? ⟨w.heap.size, 5, none⟩ = some (.int .i64 lea) := keep_cell bz (by simp [*]); have k0_6 : wz.cell? ⟨w.heap.size, 6, none⟩ = some (.slice ra rn rc) := keep_cell bz (by simp [*]); have k1_0 : wz.cell? ⟨w4.heap.size, 0, none⟩ = some (.string who) := keep_cell bz (by simp [*]); have k1_1 : wz.cell? ⟨w4.heap.size, 1, none⟩ = some (.string item) := keep_cell bz (by simp [*]); have k1_2 : wz.cell? ⟨w4.heap.size, 2, none⟩ = some (.int .i64 cur) := keep_cell bz (by simp [*]); have k1_3 : wz.cell? ⟨w4.heap.size, 3, none⟩ = some (.int .i64 fst) := keep_cell bz (by simp [*]); have k1_4 : wz.cell? ⟨w4.heap.size, 4, none⟩ = some (.int .i64 lst) := keep_cell bz (by simp [*]); have k1_5 : wz.cell? ⟨w4.heap.size, 5, none⟩ = some (.int .i64 lea) := keep_cell bz (by simp [*]); have k1_6 : wz.cell? ⟨w4.heap.size, 6, none⟩ = some (.slice (some ⟨t4, 0, none⟩) rn rn) := keep_cell bz (by simp [*]); have k4 : Below w.heap.size w wz := bel_on (by assumption) bz; have k5 : SCr wz (some ⟨t4, 0, none⟩) rn rz := SCr.below (by assumption) bz; clear oz bz)
    | (go_at_call 25; refine (eqOF_same who item cur fst lst lea _ _ rn _ _ rz _ hb (by assumption) HO6.out).mono ?_; rintro e wz ⟨rfl, bz⟩; have k0_0 : wz.cell? ⟨w.heap.size, 0, none⟩ = some (.string who) := keep_cell bz (by simp [*]); have k0_1 : wz.cell? ⟨w.heap.size, 1, none⟩ = some (.string item) := keep_cell bz (by simp [*]); have k0_2 : wz.cell? ⟨w.heap.size, 2, none⟩ = some (.int .i64 cur) := keep_cell bz (by simp [*]); have k0_3 : wz.cell? ⟨w.heap.size, 3, none⟩ = some (.int .i64 fst) := keep_cell bz (by simp [*]); have k0_4 : wz.cell? ⟨w.heap.size, 4, none⟩ = some (.int .i64 lst) := keep_cell bz (by simp [*]); have k0_5 : wz.cell? ⟨w.heap.size, 5, none⟩ = some (.int .i64 lea) := keep_cell bz (by simp [*]); have k0_6 : wz.cell? ⟨w.heap.size, 6, none⟩ = some (.slice ra rn rc) := keep_cell bz (by simp [*]); have k1_0 : wz.cell? ⟨w4.heap.size, 0, none⟩ = some (.string who) := keep_cell bz (by simp [*]); have k1_1 : wz.cell? ⟨w4.heap.size, 1, none⟩ = some (.string item) := keep_cell bz (by simp [*]); have k1_2 : wz.cell? ⟨w4.heap.size, 2, none⟩ = some (.int .i64 cur) := keep_cell bz (by simp [*]); have k1_3 : wz.cell? ⟨w4.heap.size, 3, none⟩ = some (.int .i64 fst) := keep_cell bz (by simp [*]); have k1_4 : wz.cell? ⟨w4.heap.size, 4, none⟩ = some (.int .i64 lst) := keep_cell bz (by simp [*]); have k1_5 : wz.cell? ⟨w4.heap.size, 5, none⟩ = some (.int .i64 lea) := keep_cell bz (by simp [*]); have k1_6 : wz.cell? ⟨w4.heap.size, 6, none⟩ = some (.slice (some ⟨t4, 0, none⟩) rn rn) := keep_cell bz (by simp [*]); have k4 : Below w.heap.size w wz := bel_on (by assumption) bz; have k5 : SCr wz (some ⟨t4, 0, none⟩) rn rz := SCr.below (by assumption) bz; clear bz))
  go_wp2
  go_returns
  exact ⟨rfl, k4⟩

set_option maxRecDepth 100000 in
theorem lifted (os : Os) (started : os.Started) (H : Type) (enc : TypeId × Value → H) :
    ReturnsInHanded {} Try.checked os 6 .any (Rows.fnExactOfferPriceSpec.pre6 enc Try.prog Try.f6 Rows.fnExactOfferPriceRow.domain false) (Rows.fnExactOfferPriceSpec.post enc Try.prog Try.f6 false true false false) := by
  refine returnsInHanded_of_change (C := Try.checked) own started (by kernel_rfl) Try.func6
    (ChangeSpec.witness6 (enc := enc) (C := Try.checked) false ⟨#[], #[.agg #[.string ByteArray.empty, .string ByteArray.empty, .int .i64 0, .int .i64 0, .int .i64 0, .int .i64 0, .slice none 0 0], .int .i64 0, .int .i64 0], []⟩ 8 (by kernel_rfl) (by kernel_rfl) (by kernel_rfl) (by kernel_rfl)) ?_
  intro W base args ds gs before hval0 hW hcnd _
  have hval : ∀ (j : Nat) t v, Try.f6.params[j]? = some t → args[j]? = some v → Value.okWide Try.prog W .any base t v := hval0
  have hW' := hW
  obtain ⟨p, q, hA0, hV, rfl, hfz, hnd⟩ := hW
  have hA : DataW.TrodAll enc Try.prog W 0 (fun _ => true) true Try.f6.params.toList args.toList ds p := hA0
  rw [Try.params6] at hA hval
  obtain ⟨v0, vs0, d0, ds0, p0, q0, hargs, rfl, rfl, h0, r0⟩ := trodAll_cons hA
  obtain ⟨v1, vs1, d1, ds1, p1, q1, rfl, rfl, rfl, h1, r1⟩ := trodAll_cons r0
  obtain ⟨v2, vs2, d2, ds2, p2, q2, rfl, rfl, rfl, h2, r2⟩ := trodAll_cons r1
  obtain ⟨rfl, rfl, rfl⟩ := trodAll_nil r2
  obtain rfl : args = #[v0, v1, v2] := by cases args; simp_all
  obtain ⟨rfl, rfl⟩ := trodVars_none hV
  have k0 := h0
  have lt0 : ∀ x ∈ p0, x.block < W.heap.size := by obtain ⟨m, hm⟩ := k0; exact DataW.trod_lt m _ _ _ hm
  have k1 := h1
  have lt1 : ∀ x ∈ p1, x.block < W.heap.size := by obtain ⟨m, hm⟩ := k1; exact DataW.trod_lt m _ _ _ hm
  have k2 := h2
  have lt2 : ∀ x ∈ p2, x.block < W.heap.size := by obtain ⟨m, hm⟩ := k2; exact DataW.trod_lt m _ _ _ hm
  obtain ⟨gx0, gx1, gx2, gx3, gx4, gx5, gx6, gy0, gy1, gy2, gy3, gy4, gy5, gy6, gnn, rfl, gg0, gg1, gg2, gg3, gg4, gg5, gg6⟩ := open_seven Try.underlying52 (by kernel_rfl) ⟨rfl, rfl, rfl, rfl, rfl, rfl, rfl⟩ ⟨by kernel_rfl, by kernel_rfl, by kernel_rfl, by kernel_rfl, by kernel_rfl, by kernel_rfl, by kernel_rfl⟩ (hval 0 52 v0 rfl rfl) h0
  obtain ⟨who, ge0, _, hwho⟩ := DataW.trod_string Try.underlying9 gg0
  obtain rfl : gx0 = .string who := by simpa using ge0
  obtain ⟨item, ge1, _, hitem⟩ := DataW.trod_string Try.underlying9 gg1
  obtain rfl : gx1 = .string item := by simpa using ge1
  obtain ⟨cur, ge2, _, _⟩ := DataW.trod_int Try.underlying3 gg2
  obtain rfl : gx2 = .int .i64 cur := by simpa using ge2
  obtain ⟨fst, ge3, _, _⟩ := DataW.trod_int Try.underlying3 gg3
  obtain rfl : gx3 = .int .i64 fst := by simpa using ge3
  obtain ⟨lst, ge4, _, _⟩ := DataW.trod_int Try.underlying3 gg4
  obtain rfl : gx4 = .int .i64 lst := by simpa using ge4
  obtain ⟨lea, ge5, _, _⟩ := DataW.trod_int Try.underlying3 gg5
  obtain rfl : gx5 = .int .i64 lea := by simpa using ge5
  obtain ⟨ra, rn, rc, rfl, fT⟩ := slice_of Try.underlying50 gg6
  obtain ⟨rz, hrn, hsr⟩ := SC2_of Try.underlying50 Try.underlying182 (by kernel_rfl) ⟨rfl, rfl⟩ ⟨by kernel_rfl, by kernel_rfl⟩ Try.underlying3 Try.underlying3 fT
  obtain ⟨a1, rfl, rfl, rfl, w1⟩ := open_int Try.underlying3 (hval 1 3 v1 rfl rfl) h1
  obtain ⟨a2, rfl, rfl, rfl, w2⟩ := open_int Try.underlying3 (hval 2 3 v2 rfl rfl) h2
  clear hA0 hval0
  refine (walk who item cur fst lst lea ra rn rc rz a1 a2 W hwho hitem hrn hsr).mono fun e W' ⟨he, hg⟩ => ?_
  subst he
  exact ⟨_, rfl, _, _, _, [], _, [], hW', (trodAll_cons_mk (shut_bool Try.underlying4 _) trodAll_mk0), (trodAll_cons_mk (Below.trod laidOut (by kernel_rfl) (of_decide_eq_true (by kernel_rfl)) k0 hg lt0) (trodAll_cons_mk (Below.trod laidOut (by kernel_rfl) (of_decide_eq_true (by kernel_rfl)) k1 hg lt1) (trodAll_cons_mk (Below.trod laidOut (by kernel_rfl) (of_decide_eq_true (by kernel_rfl)) k2 hg lt2) trodAll_mk0))), rfl, hg.frame _, fun h => by cases h⟩

theorem over : Rows.fnExactOfferPriceRow.holds Try.pinned (OpenSpec.ofChange Rows.fnExactOfferPriceSpec) :=
  OpenClaim.holds_of_wide 6 Try.f6 rfl rfl rfl rfl rfl rfl rfl ⟨rfl, rfl, rfl, rfl, rfl⟩ rfl rfl rfl rfl rfl (by kernel_rfl) Try.func6 (by kernel_rfl)
    (of_decide_eq_true (by kernel_rfl)) (by unfold Func.isWrapper; first | (rw [if_pos (by decide +kernel)]; kernel_rfl) | (rw [if_neg (by decide +kernel)]; exact ⟨rfl, rfl⟩))
    (fun os started H enc _ => lifted os started H enc)

end Go.Proofs.Ytghphlnpginmhaa.fnExactOfferPrice

namespace Go.Proofs.Ytghphlnpginmhaa
theorem fnExactOfferPrice_holds : Rows.FnExactOfferPriceSaid := fnExactOfferPrice.over
#print axioms fnExactOfferPrice_holds
end Go.Proofs.Ytghphlnpginmhaa
