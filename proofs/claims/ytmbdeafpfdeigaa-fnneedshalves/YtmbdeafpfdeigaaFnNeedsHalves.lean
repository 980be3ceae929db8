/- Of drawn items the needs of a part and of the rest are together no less than the needs of the whole, and those of the part no more; the example of the law holds; no condition but what can be drawn. -/
import Derived.Test.YtmbdeafpfdeigaaRows
import Derived.WalkKit
import Derived.ProofKit
import Derived.OpenShut
import Derived.ShutString
import Derived.ChangeOld
import Derived.Below
import Derived.Handy
import Derived.Carry
import Derived.Lib.SmallJoins
import Derived.Deep.SlicePairs
import Derived.Test.YtmbdeafpfdeigaaJ3
namespace Go.Proofs.Ytmbdeafpfdeigaa.fnNeedsHalves
open Go.ChangeShapes Go.WideShapes Go.ChangeAt Go.RowKit
set_option linter.unusedVariables false
set_option linter.unusedSimpArgs false

theorem own : ownKnob Try.prog.godebug = none := by kernel_rfl
theorem laidOut : laidOutB Try.prog = true := by kernel_rfl

set_option maxRecDepth 20000 in
set_option maxHeartbeats 4000000 in
theorem walk (a0 : Option Addr) (len0 cap0 : Nat) (z0 : List Int) (w : World) (w0 : IsRow .u8 w a0 len0 cap0 z0) :
    Calls Try.prog 3 #[.slice a0 len0 cap0] w fun e w' => e = .returned (.bool true) ∧ Below w.heap.size w w' := by
  by_cases hbig : (1048576 : Int) < (len0 : Int)
  · go_enter Try.func3, Try.ntmps3
    go_wp2_with (go_at_call 16; refine (big_t _ _ _ _ hbig).mono ?_; rintro e w1 ⟨rfl, ew⟩; replace ew := ew.symm; subst ew)
    go_returns
    exact ⟨rfl, Below.refl _ _⟩
  have hb2 : (len0 : Int) ≤ 1048576 := by omega
  have HRW : Hid (ByteRow w w.heap.size a0 len0) := row_of w0
  clear w0
  have HLIT : Hid (∀ (W : World) (x : Option Addr) (cap : Nat), ITr W x 2 litC → Calls Try.prog 17 #[.slice x 2 cap, .int .i64 0, .int .i64 7, .int .i64 4] W fun e w' => ∃ ad cp, e = .returned (.tuple #[.slice ad 2 cp, .bool true]) ∧ OwnI w' W.heap.size ad 2 (neF 2 litC 4 0 7) ∧ Below W.heap.size W w') := fun W x cap h => by
    have := implNeeds_any x 2 cap litC 0 7 4 W (by omega) lit_IZ h
    rw [rk_m lit_rk, lit_rk] at this
    exact this
  have HW0 : Hid (Below w.heap.size w ((w.alloc (.cells litP 28 (0, 0))).alloc (.cells (litI w.heap.size) 31 (0, 0)))) := ((Below.refl _ _).alloc (Nat.le_refl _) _).alloc (by simp) _
  go_enter Try.func3, Try.ntmps3
  go_wp2_with (first
    | (go_at_call 16; refine (big_f _ _ _ _ hb2).mono ?_; rintro e wq ⟨rfl, ew⟩; replace ew := ew.symm; subst ew)
    | (go_at_call 17; refine (HLIT.out _ _ _ (lit_ITr w)).mono ?_; rintro e w1 ⟨ga, gc, rfl, o1, b1⟩; have HB1 : Hid (Below w.heap.size w w1) := hid (bel_on HW0.out b1); obtain ⟨gb, gof, rfl, _⟩ := o1.row.addr (by omega); have c1 := o1.row.cell (show 1 < 2 by omega); rw [lit_nf] at c1; clear o1 b1 HLIT HW0)
    | (go_at_call 18; refine (drawNeeds_any a0 len0 cap0 _ hb2 (HRW.out.up HB1.out)).mono ?_; rintro e w2 ⟨ia, n, ic, d, a, q, y, rfl, hn60, hr2, hd2, hq2, b2, hsa⟩; have HB2 : Hid (Below w.heap.size w w2) := hid (bel_on HB1.out b2); have HR2 : Hid (ITr w2 ia n d) := hr2; have HIZ : Hid (IZ n d) := hid (fun j hj => ⟨by have := (hd2 j hj).1; unfold maxLen; omega, by have := (hd2 j hj).2.1; omega, by have := (hd2 j hj).2.2; omega⟩); have hn1 : (n : Int) ≤ 1048576 := (by omega); clear hr2 hd2 b2 c1 HB1 hsa))
  have HIN : Hid (∀ (W : World) (x : Int), ITr W ia n d → Calls Try.prog 17 #[.slice ia n ic, .int .i64 a, .int .i64 x, .int .i64 y] W fun e w' => ∃ ad cp, e = .returned (.tuple #[.slice ad (rkM neB n d a x y) cp, .bool (rkB neB n d a x y)]) ∧ OwnI w' W.heap.size ad (rkM neB n d a x y) (neF n d y a.toNat x) ∧ Below W.heap.size W w') := fun W x h => implNeeds_any ia n ic d a x y W hn1 HIZ.out h
  have HSN : Hid (∀ (W : World), ITr W ia n d → Calls Try.prog 19 #[.slice ia n ic, .int .i64 a, .int .i64 q, .int .i64 y] W fun e w' => ∃ ad cp, e = .returned (.tuple #[.slice ad (rkM neB n d a q y) cp, .bool (rkB neB n d a q y)]) ∧ OwnI w' W.heap.size ad (rkM neB n d a q y) (neF n d y a.toNat q) ∧ Below W.heap.size W w') := fun W h => specNeeds_any ia n ic d a q y W hn1 HIZ.out h
  cases hT : rkB neB n d a q y
  · rw [hT] at HSN
    have HI2 := hid (HIN.out w2 q)
    rw [hT] at HI2
    clear hT HIN
    go_wp2_with (first
      | (go_at_call 17; refine (HI2.out HR2.out).mono ?_; rintro e w3 ⟨x1, x2, rfl, _, b3⟩; have HB3 : Hid (Below w.heap.size w w3) := hid (bel_on HB2.out b3); have HR3 := hid (HR2.out.below b3); clear b3)
      | (go_at_call 19; refine (HSN.out _ HR3.out).mono ?_; rintro e w4 ⟨x3, x4, rfl, _, b4⟩; have HB4 : Hid (Below w.heap.size w w4) := hid (bel_on HB3.out b4); clear b4))
    go_returns
    exact ⟨rfl, HB4.out⟩
  have HT : Hid (rkB neB n d a q y = true) := hT
  have hqq := rk_qty hT
  have HI2 := hid (HIN.out w2 q)
  rw [rk_m hT, hT] at HSN HI2
  clear hT hq2
  go_wp2_with (first
    | (go_at_call 17; refine (HI2.out HR2.out).mono ?_; rintro e w3 ⟨ra, rc, rfl, o3, b3⟩; have HB3 : Hid (Below w.heap.size w w3) := hid (bel_on HB2.out b3); have HR3 := hid (HR2.out.below b3); have HO3 : Hid (IR w3 ra n (neF n d y a.toNat q)) := hid o3.row; clear b3 o3 HI2)
    | (go_at_call 19; refine (HSN.out _ HR3.out).mono ?_; rintro e w4 ⟨x3, x4, rfl, _, b4⟩; have HB4 : Hid (Below w.heap.size w w4) := hid (bel_on HB3.out b4); have HR4 := hid (HR3.out.below b4); have HO4 := hid (HO3.out.below b4); clear b4)
    | (go_at_call 20; refine (at_any _ a0 len0 cap0 0 _ hb2 (by omega) (HRW.out.up HB4.out)).mono ?_; rintro e wq ⟨x, rfl, x0, x1, ew⟩; replace ew := ew.symm; subst ew))
  obtain ⟨P, hP⟩ : ∃ P, x % (q + 1) = P := ⟨_, rfl⟩
  have hP0 : 0 ≤ P ∧ P ≤ q := by rw [← hP]; exact ⟨Int.emod_nonneg _ (by omega), by have := Int.emod_lt_of_pos x (show 0 < q + 1 by omega); omega⟩
  rw [hP]
  clear hP x0 x1
  have hw1 : IntKind.i64.wrap (q - P) = q - P := IntWalk.i64_in _ ⟨by omega, by omega⟩
  have r1 := rk_dn HT.out hP0.1 hP0.2
  have r2 := rk_dn (q1 := q - P) HT.out (by omega) (by omega)
  have HI5 : Hid (Calls Try.prog 17 #[.slice ia n ic, .int .i64 a, .int .i64 P, .int .i64 y] w4 fun e w' => ∃ ad cp, e = .returned (.tuple #[.slice ad n cp, .bool true]) ∧ OwnI w' w4.heap.size ad n (neF n d y a.toNat P) ∧ Below w4.heap.size w4 w') := hid (by
    have := HIN.out w4 P HR4.out
    rw [rk_m r1, r1] at this; exact this)
  have HI6 : Hid (∀ W, ITr W ia n d → Calls Try.prog 17 #[.slice ia n ic, .int .i64 a, .int .i64 (q - P), .int .i64 y] W fun e w' => ∃ ad cp, e = .returned (.tuple #[.slice ad n cp, .bool true]) ∧ OwnI w' W.heap.size ad n (neF n d y a.toNat (q - P)) ∧ Below W.heap.size W w') := hid (fun W h => by
    have := HIN.out W (q - P) h
    rw [rk_m r2, r2] at this; exact this)
  have HHV : Hid (Hv (neF n d y a.toNat q) (neF n d y a.toNat P) (neF n d y a.toNat (q - P)) ∧ FQ (neF n d y a.toNat P) ∧ FQ (neF n d y a.toNat (q - P))) := hid ⟨rk_hv HT.out hP0.1 hP0.2, ne_q r1, ne_q r2⟩
  clear r1 r2 HIN HSN HT
  have hnn : ((n : Int) != (n : Int)) = false := by simp
  obtain ⟨F, hF⟩ : ∃ F, neF n d y a.toNat q = F := ⟨_, rfl⟩
  obtain ⟨A, hA⟩ : ∃ F, neF n d y a.toNat P = F := ⟨_, rfl⟩
  obtain ⟨B, hB⟩ : ∃ F, neF n d y a.toNat (q - P) = F := ⟨_, rfl⟩
  rw [hF] at HO4
  rw [hA] at HI5
  rw [hB] at HI6
  rw [hF, hA, hB] at HHV
  clear hF hA hB HO3 HR3 HB3 HR2 HB2
  have tk1 : True := trivial
  go_wp2_with (first
    | (go_at_call 17; clear tk1; refine HI5.out.mono ?_; rintro e w5 ⟨sa, sc, rfl, o5, b5⟩; have HB5 : Hid (Below w.heap.size w w5) := hid (bel_on HB4.out b5); have HR5 := hid (HR4.out.below b5); have HO5 := hid (HO4.out.below b5); have HA5 : Hid (IR w5 sa n A) := hid o5.row; clear b5 o5)
    | (go_at_call 17; refine (HI6.out _ HR5.out).mono ?_; rintro e w6 ⟨ta, tc, rfl, o6, b6⟩; have HB6 : Hid (Below w.heap.size w w6 ∧ IR w6 ra n F ∧ IR w6 sa n A ∧ IR w6 ta n B) := hid ⟨bel_on HB5.out b6, HO5.out.below b6, HA5.out.below b6, o6.row⟩; clear b6 o6))
  clear HI5 HI6 HB5 HR5 HO5 HA5 HB4 HR4 HO4
  go_loopw [18] (fun u wr => ∃ k : Nat, k ≤ n ∧ u = .int .i64 (k : Int) ∧ Hid (Below w.heap.size w wr ∧ IR wr ra n F ∧ IR wr sa n A ∧ IR wr ta n B)) (fun u _ => n - (intOf u).toNat)
  case atStart => exact ⟨0, Nat.zero_le _, rfl, HB6⟩
  case round =>
    clear HB6
    obtain ⟨k, hk, rfl, HG⟩ := hrel
    obtain ⟨wi, rfl⟩ : ∃ x, x = wr := ⟨wr, rfl⟩
    by_cases hlt : k < n
    · have hlt2 : (k : Int) < (n : Int) := by omega
      obtain ⟨rb, ro, rfl, _⟩ := HG.out.2.1.addr (by omega)
      obtain ⟨sb, so, rfl, _⟩ := HG.out.2.2.1.addr (by omega)
      obtain ⟨tb, to, rfl, _⟩ := HG.out.2.2.2.addr (by omega)
      have s1 : wi.cell? ⟨rb, ro + k, none⟩ = some (.int .i64 (F k)) := HG.out.2.1.cell hlt
      have s2 : wi.cell? ⟨sb, so + k, none⟩ = some (.int .i64 (A k)) := HG.out.2.2.1.cell hlt
      have s3 : wi.cell? ⟨tb, to + k, none⟩ = some (.int .i64 (B k)) := HG.out.2.2.2.cell hlt
      have t1 : wi.drew.cell? ⟨rb, ro + k, none⟩ = some (.int .i64 (F k)) := s1
      have t2 : wi.drew.cell? ⟨sb, so + k, none⟩ = some (.int .i64 (A k)) := s2
      have t3 : wi.drew.cell? ⟨tb, to + k, none⟩ = some (.int .i64 (B k)) := s3
      have g1 := HHV.out.1 k
      have g2 := HHV.out.2.1 k
      have g3 := HHV.out.2.2 k
      have hw2 : IntKind.i64.wrap (A k + B k) = A k + B k := IntWalk.i64_in _ ⟨by omega, by omega⟩
      have hc1 : decide (A k + B k < F k) = false := decide_eq_false (by omega)
      have hc2 : decide (F k < A k) = false := decide_eq_false (by omega)
      clear g1 g2 g3
      generalize A k = x1 at *
      generalize B k = x2 at *
      generalize F k = x3 at *
      go_wp2
      go_quiet (fail)
      go_wp2
      go_roundw
      case rel => exact ⟨k + 1, by omega, by go_num, hid ⟨bd_N HG.out.1 _, HG.out.2.1, HG.out.2.2.1, HG.out.2.2.2⟩⟩
      case measure => simp [intOf]; omega
    · obtain rfl : k = n := by omega
      have lkk : ¬ (k : Int) < (k : Int) := by omega
      go_wp2
      go_returns
      exact ⟨rfl, HG.out.1⟩

set_option maxRecDepth 100000 in
theorem lifted (os : Os) (started : os.Started) (H : Type) (enc : TypeId × Value → H) :
    ReturnsInHanded {} Try.checked os 3 .any (Rows.fnNeedsHalvesSpec.pre6 enc Try.prog Try.f3 Rows.fnNeedsHalvesRow.domain false) (Rows.fnNeedsHalvesSpec.post enc Try.prog Try.f3 false true false false) := by
  refine returnsInHanded_of_change (C := Try.checked) own started (by kernel_rfl) Try.func3
    (ChangeSpec.witness6 (enc := enc) (C := Try.checked) false ⟨#[], #[.slice none 0 0], []⟩ 8 (by kernel_rfl) (by kernel_rfl) (by kernel_rfl) (by kernel_rfl)) ?_
  intro W base args ds gs before hval0 hW hcnd _
  have hval : ∀ (j : Nat) t v, Try.f3.params[j]? = some t → args[j]? = some v → Value.okWide Try.prog W .any base t v := hval0
  have hW' := hW
  obtain ⟨p, q, hA0, hV, rfl, hfz, hnd⟩ := hW
  have hA : DataW.TrodAll enc Try.prog W 0 (fun _ => true) true Try.f3.params.toList args.toList ds p := hA0
  rw [Try.params3] at hA hval
  obtain ⟨v0, vs0, d0, ds0, p0, q0, hargs, rfl, rfl, h0, r0⟩ := trodAll_cons hA
  obtain ⟨rfl, rfl, rfl⟩ := trodAll_nil r0
  obtain rfl : args = #[v0] := by cases args; simp_all
  obtain ⟨rfl, rfl⟩ := trodVars_none hV
  have k0 := h0
  have lt0 : ∀ x ∈ p0, x.block < W.heap.size := by obtain ⟨m, hm⟩ := k0; exact DataW.trod_lt m _ _ _ hm
  obtain ⟨a0, len0, cap0, rfl⟩ := okWide_slice Try.underlying22 (hval 0 22 v0 rfl rfl)
  obtain ⟨z0, w0⟩ : ∃ zs, IsRow .u8 W a0 len0 cap0 zs := by
    obtain ⟨fuel, hf⟩ := h0
    rcases open_ints Try.underlying22 Try.underlying5 (by kernel_rfl) hf with ⟨hcs, _⟩ | ⟨x, l, c, zs, hcs, _, hl, hm, hz, _, hcell, hwz⟩
    · simp [Value.cells] at hcs
      obtain ⟨rfl, rfl, rfl⟩ := hcs
      exact ⟨[], .inl ⟨rfl, rfl, rfl, rfl⟩⟩
    · simp [Value.cells] at hcs
      obtain ⟨rfl, rfl, rfl⟩ := hcs
      exact ⟨zs, .inr ⟨_, rfl, hl, hm, by simpa using hz, hcell, hwz⟩⟩
  clear hA0 hval0
  refine (walk a0 len0 cap0 z0 W w0).mono fun e W' ⟨he, hg⟩ => ?_
  subst he
  exact ⟨_, rfl, _, _, _, [], _, [], hW', (trodAll_cons_mk (shut_bool Try.underlying4 _) trodAll_mk0), (trodAll_cons_mk (Below.trod laidOut (by kernel_rfl) (of_decide_eq_true (by kernel_rfl)) k0 hg lt0) trodAll_mk0), rfl, hg.frame _, fun h => by cases h⟩

theorem over : Rows.fnNeedsHalvesRow.holds Try.pinned (OpenSpec.ofChange Rows.fnNeedsHalvesSpec) :=
  OpenClaim.holds_of_wide 3 Try.f3 rfl rfl rfl rfl rfl rfl rfl ⟨rfl, rfl, rfl, rfl, rfl⟩ rfl rfl rfl rfl rfl (by kernel_rfl) Try.func3 (by kernel_rfl)
    (of_decide_eq_true (by kernel_rfl)) (by unfold Func.isWrapper; first | (rw [if_pos (by decide +kernel)]; kernel_rfl) | (rw [if_neg (by decide +kernel)]; exact ⟨rfl, rfl⟩))
    (fun os started H enc _ => lifted os started H enc)

end Go.Proofs.Ytmbdeafpfdeigaa.fnNeedsHalves

namespace Go.Proofs.Ytmbdeafpfdeigaa
theorem fnNeedsHalves_holds : Rows.FnNeedsHalvesSaid := fnNeedsHalves.over
#print axioms fnNeedsHalves_holds
end Go.Proofs.Ytmbdeafpfdeigaa
