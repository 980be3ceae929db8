/- LotCost answers as the specification does at every lots, every list of what is missing and every list of orders; it writes into no argument and keeps nothing of one; no condition. -/
import Derived.Test.YtmbdeafpfdeigaaRows
import Derived.WalkKit
import Derived.ProofKit
import Derived.OpenShut
import Derived.ShutString
import Derived.ChangeOld
import Derived.Below
import Derived.Handy
import Derived.Carry
import Derived.Lib.SmallJoins
import Derived.Deep.SlicePairs
import Derived.Test.YtmbdeafpfdeigaaIo
import Derived.Test.YtmbdeafpfdeigaaQg
namespace Go.Proofs.Ytmbdeafpfdeigaa.fnExactLotCost
open Go.ChangeShapes Go.WideShapes Go.ChangeAt Go.RowKit
set_option linter.unusedVariables false
set_option linter.unusedSimpArgs false

theorem own : ownKnob Try.prog.godebug = none := by kernel_rfl
theorem laidOut : laidOutB Try.prog = true := by kernel_rfl

set_option maxRecDepth 20000 in
set_option maxHeartbeats 4000000 in
theorem walk (lk lz lu lh : Int) (ai : Option Addr) (leni capi : Nat) (z : Nat → Int) (ar : Option Addr) (nr rcap : Nat) (y : Nat → Int) (w : World) (hli : leni ≤ maxLen) (hri : IR w ai leni z) (hnr : nr ≤ maxLen) (hrr : IR w ar nr y) :
    Calls Try.prog 15 #[.agg #[.int .i64 lk, .int .i64 lz, .int .i64 lu, .int .i64 lh], .slice ai leni capi, .slice ar nr rcap] w fun e w' => e = .returned (.bool true) ∧ Below w.heap.size w w' := by
  have HRI : Hid (IR w ai leni z) := hri
  have HRY : Hid (IR w ar nr y) := hrr
  have hl0 : (leni : Int) ≤ 9223372036854775807 := by have := hli; unfold maxLen at this; omega
  have hl1 : (nr : Int) ≤ 9223372036854775807 := by have := hnr; unfold maxLen at this; omega
  clear hri hrr hli hnr
  by_cases hL : (1048576 : Int) < (leni : Int)
  · go_enter Try.func15, Try.ntmps15
    go_wp2
    go_returns
    exact ⟨rfl, by go_grown⟩
  have hl2 : (leni : Int) ≤ 1048576 := by omega
  by_cases hM : (1048576 : Int) < (nr : Int)
  · go_enter Try.func15, Try.ntmps15
    go_wp2
    go_returns
    exact ⟨rfl, by go_grown⟩
  have hm2 : (nr : Int) ≤ 1048576 := by omega
  have HBL : Hid (Below w.heap.size w (w.alloc (.cells #[.int .i64 lk, .int .i64 lz, .int .i64 lu, .int .i64 lh] 62 (0, 0)))) := (Below.refl _ _).alloc (Nat.le_refl _) _
  have HC : Hid (CB (w.alloc (.cells #[.int .i64 lk, .int .i64 lz, .int .i64 lu, .int .i64 lh] 62 (0, 0))) w.heap.size #[.int .i64 lk, .int .i64 lz, .int .i64 lu, .int .i64 lh] 62) := CB.new _ _
  obtain ⟨CV, hCV⟩ : ∃ x, lcX ⟨lk, lz, lu, lh⟩ z y leni nr = x := ⟨_, rfl⟩
  obtain ⟨TV, hTV⟩ : ∃ x, lcB ⟨lk, lz, lu, lh⟩ z y leni nr = x := ⟨_, rfl⟩
  have HSP : Hid (∀ (ax : Option Addr) (kx : Nat) (ay : Option Addr) (ky : Nat) (W : World), IR W ax leni z → IR W ay nr y → Calls Try.prog 49 #[.agg #[.int .i64 lk, .int .i64 lz, .int .i64 lu, .int .i64 lh], .slice ax leni kx, .slice ay nr ky] W fun e w' => e = .returned (.tuple #[.int .i64 CV, .bool TV]) ∧ Below W.heap.size W w') := fun ax kx ay ky W g1 g2 => by
    have := specLotCost_any ⟨lk, lz, lu, lh⟩ ax ay leni kx nr ky z y W hl2 hm2 g1 g2
    rw [hCV, hTV] at this; exact this
  have HIM : Hid (∀ (ax : Option Addr) (kx : Nat) (ay : Option Addr) (ky : Nat) (W : World), IR W ax leni z → IR W ay nr y → Calls Try.prog 35 #[.agg #[.int .i64 lk, .int .i64 lz, .int .i64 lu, .int .i64 lh], .slice ax leni kx, .slice ay nr ky] W fun e w' => e = .returned (.tuple #[.int .i64 CV, .bool TV]) ∧ Below W.heap.size W w') := fun ax kx ay ky W g1 g2 => by
    have := implLotCost_any ⟨lk, lz, lu, lh⟩ ax ay leni kx nr ky z y W hl2 hm2 g1 g2
    rw [hCV, hTV] at this; exact this
  have htv : (TV != TV) = false := by simp
  have hcv : (CV != CV) = false := by simp
  clear hCV hTV
  have tok0 : True := trivial
  have tok1 : True := trivial
  have tok2 : True := trivial
  have tok3 : True := trivial
  have tok4 : True := trivial
  have tok5 : True := trivial
  have tok6 : True := trivial
  have tok7 : True := trivial
  have tok8 : True := trivial
  have tok9 : True := trivial
  have tok10 : True := trivial
  have tok11 : True := trivial
  go_enter Try.func15, Try.ntmps15
  go_wp2_with (first
      | (go_at_call 48; clear tok0; refine (toLots_any ⟨lk, lz, lu, lh⟩ _).mono ?_; rintro e w101 ⟨rfl, b_⟩; have HB101 : Hid (Below w.heap.size w w101) := hid (bel_on HBL.out b_); have HC101 := hid (HC.out.below b_ HC.out.lt); clear b_)
      | (go_at_call 47; clear tok1; refine (toIntS_any _ _ _ z _ hl2 (HRI.out.below HB101.out)).mono ?_; rintro e w102 ⟨rfl, i_, b_⟩; have HB102 : Hid (Below w.heap.size w w102) := hid (bel_on HB101.out b_); have HC102 := hid (HC101.out.below b_ HC101.out.lt); have P0 := hid i_.1; clear i_ b_)
      | (go_at_call 47; clear tok2; refine (toIntS_any _ _ _ y _ hm2 (HRY.out.below HB102.out)).mono ?_; rintro e w103 ⟨rfl, i_, b_⟩; have HB103 : Hid (Below w.heap.size w w103) := hid (bel_on HB102.out b_); have HC103 := hid (HC102.out.below b_ HC102.out.lt); replace P0 := hid (P0.out.below b_); have P1 := hid i_.1; clear i_ b_)
      | (go_at_call 49; clear tok3; refine (HSP.out _ _ _ _ _ P0.out P1.out).mono ?_; rintro e w104 ⟨rfl, b_⟩; have HB104 : Hid (Below w.heap.size w w104) := hid (bel_on HB103.out b_); have HC104 := hid (HC103.out.below b_ HC103.out.lt); replace P0 := hid (P0.out.below b_); replace P1 := hid (P1.out.below b_); clear b_)
      | (go_at_call 47; clear tok4; refine (toIntS_any _ _ _ z _ hl2 (HRI.out.below HB104.out)).mono ?_; rintro e w105 ⟨rfl, i_, b_⟩; have HB105 : Hid (Below w.heap.size w w105) := hid (bel_on HB104.out b_); have HC105 := hid (HC104.out.below b_ HC104.out.lt); replace P0 := hid (P0.out.below b_); replace P1 := hid (P1.out.below b_); have Q0 := hid i_.1; clear i_ b_)
      | (go_at_call 47; clear tok5; refine (toIntS_any _ _ _ y _ hm2 (HRY.out.below HB105.out)).mono ?_; rintro e w106 ⟨rfl, i_, b_⟩; have HB106 : Hid (Below w.heap.size w w106) := hid (bel_on HB105.out b_); have HC106 := hid (HC105.out.below b_ HC105.out.lt); replace P0 := hid (P0.out.below b_); replace P1 := hid (P1.out.below b_); replace Q0 := hid (Q0.out.below b_); have Q1 := hid i_.1; clear i_ b_; have k0 : w106.cell? ⟨w.heap.size, 0, none⟩ = some (.int .i64 lk) := (HC106.out.cell 0).trans rfl; have k1 : w106.cell? ⟨w.heap.size, 1, none⟩ = some (.int .i64 lz) := (HC106.out.cell 1).trans rfl; have k2 : w106.cell? ⟨w.heap.size, 2, none⟩ = some (.int .i64 lu) := (HC106.out.cell 2).trans rfl; have k3 : w106.cell? ⟨w.heap.size, 3, none⟩ = some (.int .i64 lh) := (HC106.out.cell 3).trans rfl)
      | (go_at_call 48; clear tok6; refine (toLots_any ⟨lk, lz, lu, lh⟩ _).mono ?_; rintro e w107 ⟨rfl, b_⟩; have HB107 : Hid (Below w.heap.size w w107) := hid (bel_on HB106.out b_); have HC107 := hid (HC106.out.below b_ HC106.out.lt); replace P0 := hid (P0.out.below b_); replace P1 := hid (P1.out.below b_); replace Q0 := hid (Q0.out.below b_); replace Q1 := hid (Q1.out.below b_); clear b_)
      | (go_at_call 35; clear tok7; refine (HIM.out _ _ _ _ _ Q0.out Q1.out).mono ?_; rintro e w108 ⟨rfl, b_⟩; have HB108 : Hid (Below w.heap.size w w108) := hid (bel_on HB107.out b_); have HC108 := hid (HC107.out.below b_ HC107.out.lt); replace P0 := hid (P0.out.below b_); replace P1 := hid (P1.out.below b_); replace Q0 := hid (Q0.out.below b_); replace Q1 := hid (Q1.out.below b_); clear b_)
      | (go_at_call 47; clear tok8; refine (toIntS_any _ _ _ z _ hl2 (HRI.out.below HB108.out)).mono ?_; rintro e w109 ⟨rfl, i_, b_⟩; have HB109 : Hid (Below w.heap.size w w109) := hid (bel_on HB108.out b_); have HC109 := hid (HC108.out.below b_ HC108.out.lt); replace P0 := hid (P0.out.below b_); replace P1 := hid (P1.out.below b_); replace Q0 := hid (Q0.out.below b_); replace Q1 := hid (Q1.out.below b_); have R0 := hid i_.1; clear i_ b_)
      | (go_at_call 40; clear tok9; refine (eqIntS_same _ _ _ _ _ z _ hl2 Q0.out R0.out).mono ?_; rintro e w110 ⟨rfl, b_⟩; have HB110 : Hid (Below w.heap.size w w110) := hid (bel_on HB109.out b_); have HC110 := hid (HC109.out.below b_ HC109.out.lt); replace P0 := hid (P0.out.below b_); replace P1 := hid (P1.out.below b_); replace Q0 := hid (Q0.out.below b_); replace Q1 := hid (Q1.out.below b_); replace R0 := hid (R0.out.below b_); clear b_)
      | (go_at_call 47; clear tok10; refine (toIntS_any _ _ _ y _ hm2 (HRY.out.below HB110.out)).mono ?_; rintro e w111 ⟨rfl, i_, b_⟩; have HB111 : Hid (Below w.heap.size w w111) := hid (bel_on HB110.out b_); have HC111 := hid (HC110.out.below b_ HC110.out.lt); replace P0 := hid (P0.out.below b_); replace P1 := hid (P1.out.below b_); replace Q0 := hid (Q0.out.below b_); replace Q1 := hid (Q1.out.below b_); replace R0 := hid (R0.out.below b_); have R1 := hid i_.1; clear i_ b_)
      | (go_at_call 40; clear tok11; refine (eqIntS_same _ _ _ _ _ y _ hm2 Q1.out R1.out).mono ?_; rintro e w112 ⟨rfl, b_⟩; have HB112 : Hid (Below w.heap.size w w112) := hid (bel_on HB111.out b_); have HC112 := hid (HC111.out.below b_ HC111.out.lt); replace P0 := hid (P0.out.below b_); replace P1 := hid (P1.out.below b_); replace Q0 := hid (Q0.out.below b_); replace Q1 := hid (Q1.out.below b_); replace R0 := hid (R0.out.below b_); replace R1 := hid (R1.out.below b_); clear b_))
  go_returns
  exact ⟨rfl, HB112.out⟩

set_option maxRecDepth 100000 in
theorem lifted (os : Os) (started : os.Started) (H : Type) (enc : TypeId × Value → H) :
    ReturnsInHanded {} Try.checked os 15 .any (Rows.fnExactLotCostSpec.pre6 enc Try.prog Try.f15 Rows.fnExactLotCostRow.domain false) (Rows.fnExactLotCostSpec.post enc Try.prog Try.f15 false true false false) := by
  refine returnsInHanded_of_change (C := Try.checked) own started (by kernel_rfl) Try.func15
    (ChangeSpec.witness6 (enc := enc) (C := Try.checked) false ⟨#[], #[.agg #[.int .i64 0, .int .i64 0, .int .i64 0, .int .i64 0], .slice none 0 0, .slice none 0 0], []⟩ 8 (by kernel_rfl) (by kernel_rfl) (by kernel_rfl) (by kernel_rfl)) ?_
  intro W base args ds gs before hval0 hW hcnd _
  have hval : ∀ (j : Nat) t v, Try.f15.params[j]? = some t → args[j]? = some v → Value.okWide Try.prog W .any base t v := hval0
  have hW' := hW
  obtain ⟨p, q, hA0, hV, rfl, hfz, hnd⟩ := hW
  have hA : DataW.TrodAll enc Try.prog W 0 (fun _ => true) true Try.f15.params.toList args.toList ds p := hA0
  rw [Try.params15] at hA hval
  obtain ⟨v0, vs0, d0, ds0, p0, q0, hargs, rfl, rfl, h0, r0⟩ := trodAll_cons hA
  obtain ⟨v1, vs1, d1, ds1, p1, q1, rfl, rfl, rfl, h1, r1⟩ := trodAll_cons r0
  obtain ⟨v2, vs2, d2, ds2, p2, q2, rfl, rfl, rfl, h2, r2⟩ := trodAll_cons r1
  obtain ⟨rfl, rfl, rfl⟩ := trodAll_nil r2
  obtain rfl : args = #[v0, v1, v2] := by cases args; simp_all
  obtain ⟨rfl, rfl⟩ := trodVars_none hV
  have k0 := h0
  have lt0 : ∀ x ∈ p0, x.block < W.heap.size := by obtain ⟨m, hm⟩ := k0; exact DataW.trod_lt m _ _ _ hm
  have k1 := h1
  have lt1 : ∀ x ∈ p1, x.block < W.heap.size := by obtain ⟨m, hm⟩ := k1; exact DataW.trod_lt m _ _ _ hm
  have k2 := h2
  have lt2 : ∀ x ∈ p2, x.block < W.heap.size := by obtain ⟨m, hm⟩ := k2; exact DataW.trod_lt m _ _ _ hm
  obtain ⟨ex0, ex1, ex2, ex3, ey0, ey1, ey2, ey3, enn, rfl, rfl, rfl, eg0, eg1, eg2, eg3⟩ := Go.Joins.open_agg4 Try.underlying62 (by kernel_rfl) (by kernel_rfl) (hval 0 62 v0 rfl rfl) h0
  obtain ⟨lk, ee0, _, _⟩ := DataW.trod_int Try.underlying3 eg0
  obtain rfl : ex0 = .int .i64 lk := by simpa using ee0
  obtain ⟨lz, ee1, _, _⟩ := DataW.trod_int Try.underlying3 eg1
  obtain rfl : ex1 = .int .i64 lz := by simpa using ee1
  obtain ⟨lu, ee2, _, _⟩ := DataW.trod_int Try.underlying3 eg2
  obtain rfl : ex2 = .int .i64 lu := by simpa using ee2
  obtain ⟨lh, ee3, _, _⟩ := DataW.trod_int Try.underlying3 eg3
  obtain rfl : ex3 = .int .i64 lh := by simpa using ee3
  obtain ⟨ai, leni, capi, rfl⟩ := okWide_slice Try.underlying24 (hval 1 24 v1 rfl rfl)
  obtain ⟨z, hli, hri⟩ := ints_of Try.underlying24 Try.underlying3 (by kernel_rfl) h1
  obtain ⟨ar, nr, rcap, rfl⟩ := okWide_slice Try.underlying24 (hval 2 24 v2 rfl rfl)
  obtain ⟨y, hnr, hrr⟩ := ints_of Try.underlying24 Try.underlying3 (by kernel_rfl) h2
  clear hA0 hval0
  refine (walk lk lz lu lh ai leni capi z ar nr rcap y W hli hri hnr hrr).mono fun e W' ⟨he, hg⟩ => ?_
  subst he
  exact ⟨_, rfl, _, _, _, [], _, [], hW', (trodAll_cons_mk (shut_bool Try.underlying4 _) trodAll_mk0), (trodAll_cons_mk (Below.trod laidOut (by kernel_rfl) (of_decide_eq_true (by kernel_rfl)) k0 hg lt0) (trodAll_cons_mk (Below.trod laidOut (by kernel_rfl) (of_decide_eq_true (by kernel_rfl)) k1 hg lt1) (trodAll_cons_mk (Below.trod laidOut (by kernel_rfl) (of_decide_eq_true (by kernel_rfl)) k2 hg lt2) trodAll_mk0))), rfl, hg.frame _, fun h => by cases h⟩

theorem over : Rows.fnExactLotCostRow.holds Try.pinned (OpenSpec.ofChange Rows.fnExactLotCostSpec) :=
  OpenClaim.holds_of_wide 15 Try.f15 rfl rfl rfl rfl rfl rfl rfl ⟨rfl, rfl, rfl, rfl, rfl⟩ rfl rfl rfl rfl rfl (by kernel_rfl) Try.func15 (by kernel_rfl)
    (of_decide_eq_true (by kernel_rfl)) (by unfold Func.isWrapper; first | (rw [if_pos (by decide +kernel)]; kernel_rfl) | (rw [if_neg (by decide +kernel)]; exact ⟨rfl, rfl⟩))
    (fun os started H enc _ => lifted os started H enc)

end Go.Proofs.Ytmbdeafpfdeigaa.fnExactLotCost

namespace Go.Proofs.Ytmbdeafpfdeigaa
theorem fnExactLotCost_holds : Rows.FnExactLotCostSaid := fnExactLotCost.over
#print axioms fnExactLotCost_holds
end Go.Proofs.Ytmbdeafpfdeigaa
