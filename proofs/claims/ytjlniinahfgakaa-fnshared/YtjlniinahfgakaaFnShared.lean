/- FnShared: at every code the law holds: drawn weights share a total out, together just the total, each share within one of its part, and of a total above 0 the greater weight has no lesser share. No conditions. -/
import Derived.Test.YtjlniinahfgakaaRows
import Derived.WalkKit
import Derived.ProofKit
import Derived.OpenShut
import Derived.ShutString
import Derived.ChangeOld
import Derived.Below
import Derived.Handy
import Derived.Carry
import Derived.Lib.SmallJoins
import Derived.Deep.SlicePairs
import Derived.Test.YtjlniinahfgakaaRb
import Derived.Test.YtjlniinahfgakaaDw
import Derived.Test.YtjlniinahfgakaaSw
namespace Go.Proofs.Ytjlniinahfgakaa.fnShared
open Go.ChangeShapes Go.WideShapes Go.ChangeAt Go.RowKit
set_option linter.unusedVariables false
set_option linter.unusedSimpArgs false

theorem own : ownKnob Try.prog.godebug = none := by kernel_rfl
theorem laidOut : laidOutB Try.prog = true := by kernel_rfl

set_option maxRecDepth 20000 in
set_option maxHeartbeats 4000000 in
theorem walk (a0 : Option Addr) (len0 cap0 : Nat) (z0 : List Int) (w : World) (w0 : IsRow .u8 w a0 len0 cap0 z0) :
    Calls Try.prog 3 #[.slice a0 len0 cap0] w fun e w' => e = .returned (.bool true) ∧ Below w.heap.size w w' := by
  by_cases hbig : (1048576 : Int) < (len0 : Int)
  · go_enter Try.func3, Try.ntmps3
    go_wp2_with (go_at_call 10; refine (big_t _ _ _ _ hbig).mono ?_; rintro e w1 ⟨rfl, ew⟩; replace ew := ew.symm; subst ew)
    go_returns
    exact ⟨rfl, Below.refl _ _⟩
  have hb2 : (len0 : Int) ≤ 1048576 := by omega
  have HDR : Hid (Calls Try.prog 11 #[.slice a0 len0 cap0] w (ShP w)) := drawShares_any a0 len0 cap0 w hb2 (row_of w0)
  have H3 : Hid (∀ W : World, Calls Try.prog 14 #[.int .i64 10, .slice (some ⟨W.heap.size, 0, none⟩) 3 3] (W.alloc (.cells #[.int .i64 1, .int .i64 1, .int .i64 1] 3 (0, 0))) (NewI 3 (intL (shV 10 3 (fun _ => 1)) 3) (W.alloc (.cells #[.int .i64 1, .int .i64 1, .int .i64 1] 3 (0, 0))))) := fun W => by
    have h := implShares_any 10 (some ⟨W.heap.size, 0, none⟩) 3 3 (fun _ => 1) (W.alloc (.cells #[.int .i64 1, .int .i64 1, .int .i64 1] 3 (0, 0))) (by decide) (IR.of_block (CB.new _ _) 3 _ (fun j hj => by
      rcases (show j = 0 ∨ j = 1 ∨ j = 2 by omega) with rfl | rfl | rfl <;> rfl))
    rw [shM_ok (⟨⟨by omega, by omega⟩, by omega, fun _ _ => by show (0 : Int) ≤ 1 ∧ (1 : Int) ≤ 10000000; omega, by decide⟩ : ShOk 10 3 (fun _ => 1))] at h
    exact h
  clear w0
  go_enter Try.func3, Try.ntmps3
  go_wp2_with (first
    | (go_at_call 10; refine (big_f _ _ _ _ hb2).mono ?_; rintro e wq ⟨rfl, ew⟩; replace ew := ew.symm; subst ew)
    | (go_at_call 11; refine HDR.out.mono ?_; rintro e w1 ⟨T, n, ad, cap, z, rfl, n1, ir1, zb1, b1⟩; have HIR : Hid (IR w1 ad n z) := ir1; have HZB : Hid (∀ j, j < n → -1 ≤ z j ∧ z j ≤ 10000001) := zb1; have HB1 : Hid (Below w.heap.size w w1) := b1; have hn : (n : Int) ≤ 201 := (by omega); clear ir1 zb1 b1))
  clear HDR
  obtain ⟨M, hM⟩ : ∃ M, shM T n z = M := ⟨_, rfl⟩
  have HMM : Hid (shM T n z = M) := hM
  have hM1 : M ≤ 200 := hM ▸ shM_le T n z
  have HIM : Hid (∀ w, IR w ad n z → Calls Try.prog 14 #[.int .i64 T, .slice ad n cap] w (NewI M (intL (shV T n z) M) w)) := fun w h => hM ▸ implShares_any T ad n cap z w (by omega) h
  have HSP : Hid (Calls Try.prog 12 #[.int .i64 T, .slice ad n cap] w1 (NewI M (intL (shV T n z) M) w1)) := hM ▸ specShares_any T ad n cap z w1 (by omega) HIR.out
  have HSB : Hid (SmB z n) := fun k hk => by
    have := sm_bound (z := z) (M := 10000001) (by omega) (fun j hj => by have := HZB.out j hj; omega) 0 k (Nat.zero_le _) hk
    rw [show sm z 0 = 0 from rfl] at this
    omega
  obtain ⟨S, hS⟩ : ∃ S, sm z n = S := ⟨_, rfl⟩
  have HS : Hid (sm z n = S) := hS
  have tok1 : True := trivial
  clear hM hS
  by_cases hM0 : M = 0
  · subst hM0
    go_wp2_with (first
      | (go_at_call 12; refine HSP.out.mono ?_; rintro e w2 ⟨adw, capw, rfl, o2, b2⟩; have HB2 : Hid (Below w1.heap.size w1 w2) := b2; clear o2 b2)
      | (go_at_call 13; refine (lsum_any _ _ _ z _ (by omega) (HIR.out.below HB2.out) HSB.out).mono ?_; rintro e wq ⟨rfl, ew⟩; replace ew := ew.symm; subst ew; rw [HS.out])
      | (go_at_call 14; clear tok1; refine (HIM.out _ (HIR.out.below HB2.out)).mono ?_; rintro e w3 ⟨adg, capg, rfl, o3, b3⟩; have HB3 : Hid (Below w1.heap.size w1 w3) := bel_on HB2.out b3; clear o3 b3)
      | (go_at_call 14; refine (H3.out _).mono ?_; rintro e w4 ⟨adh, caph, rfl, o4, b4⟩; have HB4 : Hid (Below w.heap.size w w4) := bel_on HB1.out (bel_on (HB3.out.alloc HB3.out.size _) b4); clear o4 b4))
    go_returns
    exact ⟨rfl, HB4.out⟩
  have hOk : ShOk T n z := by
    by_cases q : ShOk T n z
    · exact q
    · have := HMM.out; rw [shM_no q] at this; omega
  have hMn : M = n := by rw [← HMM.out, shM_ok hOk]
  subst hMn
  obtain ⟨⟨hT1, hT2⟩, _, hz, hS0⟩ := hOk
  obtain ⟨f1, f2, f3⟩ := shV_facts (⟨⟨hT1, hT2⟩, hM1, hz, hS0⟩ : ShOk T M z)
  have HF1 : Hid (sm (shV T M z) M = T) := f1
  have HF2 : Hid (∀ j, j < M → -S < shV T M z j * S - T * z j ∧ shV T M z j * S - T * z j < S) := by rw [HS.out] at f2; exact f2
  have HF3 : Hid (0 < T → ∀ i j, i < M → j < M → z j < z i → shV T M z j ≤ shV T M z i) := f3
  have HZ : Hid (∀ j, j < M → 0 ≤ z j ∧ z j ≤ 10000000) := hz
  have hSb := fac_sum hM1 hz (Nat.le_refl M)
  rw [HS.out] at hSb hS0
  obtain ⟨_, hS2⟩ := hSb
  have HVB : Hid (∀ j, j < M → -200000000000 ≤ shV T M z j ∧ shV T M z j ≤ 200000000000) := fun j hj => by
    have hq : ShOk T M z := ⟨⟨hT1, hT2⟩, hM1, hz, by rw [HS.out]; exact hS0⟩
    obtain ⟨K, k1, k2, _⟩ := lf_bd hq
    have := gst_bd (one := on1 (lf T M z)) (o := qv T M z) (r := rs T M z) (M := 100000000000) (by unfold on1; split <;> omega) (by omega) (fun j hj => qv_bd hq hj) K j hj
    unfold shV; rw [k2]; omega
  have HVS : Hid (SmB (shV T M z) M) := fun k hk => by
    have := sm_bound (z := shV T M z) (M := 200000000000) (by omega) HVB.out 0 k (Nat.zero_le _) hk
    rw [show sm (shV T M z) 0 = 0 from rfl] at this
    omega
  have hM3 : (M : Int) ≤ 200 := by omega
  have lM0 : ((M : Int) == 0) = false := by simpa using hM0
  clear f1 f2 f3 hz HMM hn
  go_wp2_with (first
    | (go_at_call 12; refine HSP.out.mono ?_; rintro e w2 ⟨adw, capw, rfl, o2, b2⟩; have HB2 : Hid (Below w1.heap.size w1 w2) := b2; clear o2 b2)
    | (go_at_call 13; clear tok1; refine (lsum_any _ _ _ z _ (by omega) (HIR.out.below HB2.out) HSB.out).mono ?_; rintro e wq ⟨rfl, ew⟩; replace ew := ew.symm; subst ew; rw [HS.out])
    | (go_at_call 14; have := HIM; refine (HIM.out _ (HIR.out.below HB2.out)).mono ?_; rintro e w3 ⟨adg, capg, rfl, o3, b3⟩; have HO3 : Hid (w3.ownsRow w2.heap.size 3 1 (.slice adg M capg) M (intL (shV T M z) M)) := o3; have HB3 : Hid (Below w1.heap.size w1 w3) := bel_on HB2.out b3; clear o3 b3 HIM)
    | (go_at_call 14; refine (H3.out _).mono ?_; rintro e w4 ⟨adh, caph, rfl, o4, b4⟩; have HB4 : Hid (Below w1.heap.size w1 w4) := bel_on (HB3.out.alloc HB3.out.size _) b4; have HG4 : Hid (IR w4 adg M (shV T M z)) := row_IR (row_below (row_below HO3.out ((Below.refl _ _).alloc (Nat.le_refl _) _)) b4) (fun j hj => intL_get hj); clear o4 b4)
    | (go_at_call 13; refine (lsum_any _ _ _ (shV T M z) _ (by omega) HG4.out HVS.out).mono ?_; rintro e wq ⟨rfl, ew⟩; replace ew := ew.symm; subst ew; rw [HF1.out]))
  have HZ4 : Hid (IR w4 ad M z) := HIR.out.below HB4.out
  have HBW : Hid (∀ q, Below w.heap.size w (w4.drewN q)) := fun q => belowN (bel_on HB1.out HB4.out) q
  clear HIR HO3 HB2 HB3 HB1 HB4 H3 HSP
  go_loopw [8] (fun u wr => ∃ (i : Nat), i ≤ M ∧ u = .int .i64 (i : Int) ∧ Hid (∃ q, wr = w4.drewN q)) (fun u _ => M - (intOf u).toNat)
  case atStart => exact ⟨0, Nat.zero_le _, rfl, 0, rfl⟩
  case round =>
    obtain ⟨i, hi, rfl, HQ⟩ := hrel
    by_cases hlt : i < M
    · have hlt2 : (i : Int) < (M : Int) := by omega
      obtain ⟨gb, go, rfl, _⟩ := HG4.out.addr (by omega)
      obtain ⟨zb, zo, rfl, _⟩ := HZ4.out.addr (by omega)
      have c1 : wr.cell? ⟨gb, go + i, none⟩ = some (.int .i64 (shV T M z i)) := by obtain ⟨q, e⟩ := HQ.out; rw [e]; exact HG4.out.cell hlt
      have c2 : wr.cell? ⟨zb, zo + i, none⟩ = some (.int .i64 (z i)) := by obtain ⟨q, e⟩ := HQ.out; rw [e]; exact HZ4.out.cell hlt
      have fb := HF2.out i hlt
      have hy := HZ.out i hlt
      have hvb := HVB.out i hlt
      obtain ⟨v, hv⟩ : ∃ v, shV T M z i = v := ⟨_, rfl⟩
      obtain ⟨y, hyy⟩ : ∃ y, z i = y := ⟨_, rfl⟩
      rw [hv] at c1 hvb
      rw [hv, hyy] at fb
      rw [hyy] at c2 hy
      obtain ⟨P, hP⟩ : ∃ P, T * y = P := ⟨_, rfl⟩
      obtain ⟨G, hG⟩ : ∃ G, v * S = G := ⟨_, rfl⟩
      have hPb := mul_bd T y 100000000000 10000000 hT1 hT2 hy.1 hy.2 (by omega)
      rw [hP] at hPb fb
      rw [hG] at fb
      obtain ⟨D, hD⟩ : ∃ D, G - P = D := ⟨_, rfl⟩
      rw [hD] at fb
      have w1' : IntKind.i64.wrap (T * y) = P := by rw [hP, IntWalk.i64_in _ ⟨by omega, by omega⟩]
      have w2' : IntKind.i64.wrap (v * S) = G := by rw [hG, IntWalk.i64_in _ ⟨by omega, by omega⟩]
      have w3' : IntKind.i64.wrap (G - P) = D := by rw [hD, IntWalk.i64_in _ ⟨by omega, by omega⟩]
      obtain ⟨A, hA⟩ : ∃ A, absI D = A := ⟨_, rfl⟩
      have hA2 : decide (S ≤ A) = false := decide_eq_false (by rw [← hA]; unfold absI; split <;> omega)
      have hA3 : ¬ S ≤ A := of_decide_eq_false hA2
      have HAbs : Hid (∀ w, Calls Try.prog 15 #[.int .i64 D] w fun e w' => e = .returned (.int .i64 A) ∧ w' = w) := fun w => abs_eq w (by omega) hA
      have Hv : Hid (shV T M z i = v) := hv
      have Hyy : Hid (z i = y) := hyy
      clear hP hG hD hA hPb fb hv hyy hy hvb
      go_wp2
      go_quiet ((go_at_call 15; exact Calls.quiet_of_same (HAbs.out _)))
      clear w1' w2' w3' HAbs
      go_wp2
      go_loopw [9] (fun u wr => ∃ (k : Nat), k ≤ i ∧ u = .int .i64 (k : Int) ∧ Hid (∃ q, wr = w4.drewN q)) (fun u _ => i - (intOf u).toNat)
      case atStart => exact ⟨0, Nat.zero_le _, rfl, dr_on HQ.out nq⟩
      case round =>
        rename_i wr0
        obtain ⟨k, hk, rfl, HP⟩ := hrel
        by_cases hki : k < i
        · have hki2 : (k : Int) < (i : Int) := by omega
          have lkM : (k : Int) < (M : Int) := by omega
          have d1 : wr.cell? ⟨gb, go + i, none⟩ = some (.int .i64 v) := by obtain ⟨q, e⟩ := HP.out; rw [e]; have := HG4.out.cell hlt; rw [Hv.out] at this; exact this
          have d2 : wr.cell? ⟨zb, zo + i, none⟩ = some (.int .i64 y) := by obtain ⟨q, e⟩ := HP.out; rw [e]; have := HZ4.out.cell hlt; rw [Hyy.out] at this; exact this
          have d3 : wr.cell? ⟨gb, go + k, none⟩ = some (.int .i64 (shV T M z k)) := by obtain ⟨q, e⟩ := HP.out; rw [e]; exact HG4.out.cell (j := k) (by omega)
          have d4 : wr.cell? ⟨zb, zo + k, none⟩ = some (.int .i64 (z k)) := by obtain ⟨q, e⟩ := HP.out; rw [e]; exact HZ4.out.cell (j := k) (by omega)
          have f3 := fun h => HF3.out h i k hlt (by omega)
          rw [Hv.out, Hyy.out] at f3
          generalize shV T M z k = v2 at d3 f3
          generalize z k = y2 at d4 f3
          by_cases hT0 : 0 < T
          · have t1 : decide (0 < T) = true := decide_eq_true hT0
            by_cases hyc : y2 < y
            · have t2 : decide (y2 < y) = true := decide_eq_true hyc
              have t3 : decide (v < v2) = false := decide_eq_false (by have := f3 hT0 hyc; omega)
              clear f3 c1 c2
              go_wp2
              go_quiet (fail)
              go_wp2
              go_roundw
              case rel => exact ⟨k + 1, by omega, by go_num, dr_on HP.out nq⟩
              case measure => simp [intOf]; omega
            · have t2 : decide (y2 < y) = false := decide_eq_false hyc
              clear f3 c1 c2
              go_wp2
              go_quiet (fail)
              go_wp2
              go_roundw
              case rel => exact ⟨k + 1, by omega, by go_num, dr_on HP.out nq⟩
              case measure => simp [intOf]; omega
          · have t1 : decide (0 < T) = false := decide_eq_false hT0
            clear f3 c1 c2
            go_wp2
            go_quiet (fail)
            go_wp2
            go_roundw
            case rel => exact ⟨k + 1, by omega, by go_num, dr_on HP.out nq⟩
            case measure => simp [intOf]; omega
        · obtain rfl : k = i := by omega
          have lkk : ¬ (k : Int) < (k : Int) := by omega
          go_wp2
          go_roundw
          case rel => exact ⟨k + 1, by omega, by go_num, HP⟩
          case measure => simp [intOf]; omega
    · obtain rfl : i = M := by omega
      have lkk : ¬ (i : Int) < (i : Int) := by omega
      go_wp2
      go_returns
      exact ⟨rfl, by obtain ⟨q, e⟩ := HQ.out; rw [e]; exact HBW.out q⟩

set_option maxRecDepth 100000 in
theorem lifted (os : Os) (started : os.Started) (H : Type) (enc : TypeId × Value → H) :
    ReturnsInHanded {} Try.checked os 3 .any (Rows.fnSharedSpec.pre6 enc Try.prog Try.f3 Rows.fnSharedRow.domain false) (Rows.fnSharedSpec.post enc Try.prog Try.f3 false true false false) := by
  refine returnsInHanded_of_change (C := Try.checked) own started (by kernel_rfl) Try.func3
    (ChangeSpec.witness6 (enc := enc) (C := Try.checked) false ⟨#[], #[.slice none 0 0], []⟩ 8 (by kernel_rfl) (by kernel_rfl) (by kernel_rfl) (by kernel_rfl)) ?_
  intro W base args ds gs before hval0 hW hcnd _
  have hval : ∀ (j : Nat) t v, Try.f3.params[j]? = some t → args[j]? = some v → Value.okWide Try.prog W .any base t v := hval0
  have hW' := hW
  obtain ⟨p, q, hA0, hV, rfl, hfz, hnd⟩ := hW
  have hA : DataW.TrodAll enc Try.prog W 0 (fun _ => true) true Try.f3.params.toList args.toList ds p := hA0
  rw [Try.params3] at hA hval
  obtain ⟨v0, vs0, d0, ds0, p0, q0, hargs, rfl, rfl, h0, r0⟩ := trodAll_cons hA
  obtain ⟨rfl, rfl, rfl⟩ := trodAll_nil r0
  obtain rfl : args = #[v0] := by cases args; simp_all
  obtain ⟨rfl, rfl⟩ := trodVars_none hV
  have k0 := h0
  have lt0 : ∀ x ∈ p0, x.block < W.heap.size := by obtain ⟨m, hm⟩ := k0; exact DataW.trod_lt m _ _ _ hm
  obtain ⟨a0, len0, cap0, rfl⟩ := okWide_slice Try.underlying22 (hval 0 22 v0 rfl rfl)
  obtain ⟨z0, w0⟩ : ∃ zs, IsRow .u8 W a0 len0 cap0 zs := by
    obtain ⟨fuel, hf⟩ := h0
    rcases open_ints Try.underlying22 Try.underlying5 (by kernel_rfl) hf with ⟨hcs, _⟩ | ⟨x, l, c, zs, hcs, _, hl, hm, hz, _, hcell, hwz⟩
    · simp [Value.cells] at hcs
      obtain ⟨rfl, rfl, rfl⟩ := hcs
      exact ⟨[], .inl ⟨rfl, rfl, rfl, rfl⟩⟩
    · simp [Value.cells] at hcs
      obtain ⟨rfl, rfl, rfl⟩ := hcs
      exact ⟨zs, .inr ⟨_, rfl, hl, hm, by simpa using hz, hcell, hwz⟩⟩
  clear hA0 hval0
  refine (walk a0 len0 cap0 z0 W w0).mono fun e W' ⟨he, hg⟩ => ?_
  subst he
  exact ⟨_, rfl, _, _, _, [], _, [], hW', (trodAll_cons_mk (shut_bool Try.underlying4 _) trodAll_mk0), (trodAll_cons_mk (Below.trod laidOut (by kernel_rfl) (of_decide_eq_true (by kernel_rfl)) k0 hg lt0) trodAll_mk0), rfl, hg.frame _, fun h => by cases h⟩

theorem over : Rows.fnSharedRow.holds Try.pinned (OpenSpec.ofChange Rows.fnSharedSpec) :=
  OpenClaim.holds_of_wide 3 Try.f3 rfl rfl rfl rfl rfl rfl rfl ⟨rfl, rfl, rfl, rfl, rfl⟩ rfl rfl rfl rfl rfl (by kernel_rfl) Try.func3 (by kernel_rfl)
    (of_decide_eq_true (by kernel_rfl)) (by unfold Func.isWrapper; first | (rw [if_pos (by decide +kernel)]; kernel_rfl) | (rw [if_neg (by decide +kernel)]; exact ⟨rfl, rfl⟩))
    (fun os started H enc _ => lifted os started H enc)

end Go.Proofs.Ytjlniinahfgakaa.fnShared

namespace Go.Proofs.Ytjlniinahfgakaa
theorem fnShared_holds : Rows.FnSharedSaid := fnShared.over
#print axioms fnShared_holds
end Go.Proofs.Ytjlniinahfgakaa
