/- At every drawn code of at most 1048576 bytes (and at a longer one at once) FnFactored answers true: what is paid, kept and taken of drawn bills is together what they come to; nothing older is written. -/
import Derived.Test.YtnglofgcckdbmaaRows
import Derived.WalkKit
import Derived.ProofKit
import Derived.OpenShut
import Derived.ShutString
import Derived.ChangeOld
import Derived.Below
import Derived.Handy
import Derived.Carry
import Derived.Lib.SmallJoins
import Derived.Deep.SlicePairs
import Derived.Test.YtnglofgcckdbmaaFx
namespace Go.Proofs.Ytnglofgcckdbmaa.fnFactored
open Go.ChangeShapes Go.WideShapes Go.ChangeAt Go.RowKit
set_option linter.unusedVariables false
set_option linter.unusedSimpArgs false

theorem own : ownKnob Try.prog.godebug = none := by kernel_rfl
theorem laidOut : laidOutB Try.prog = true := by kernel_rfl

set_option maxRecDepth 20000 in
set_option maxHeartbeats 4000000 in
theorem walk (a0 : Option Addr) (len0 cap0 : Nat) (z0 : List Int) (w : World) (w0 : IsRow .u8 w a0 len0 cap0 z0) :
    Calls Try.prog 9 #[.slice a0 len0 cap0] w fun e w' => e = .returned (.bool true) ∧ Below w.heap.size w w' := by
  by_cases hbig : (1048576 : Int) < (len0 : Int)
  · go_enter Try.func9, Try.ntmps9
    go_wp2_with (go_at_call 11; refine (big_t _ _ _ _ hbig).mono ?_; rintro e w1 ⟨rfl, ew⟩; replace ew := ew.symm; subst ew)
    go_returns
    exact ⟨rfl, Below.refl _ _⟩
  have hb2 : (len0 : Int) ≤ 1048576 := by omega
  have HRW : Hid (ByteRow w w.heap.size a0 len0) := row_of w0
  have HDR : Hid (∀ W, Below w.heap.size w W → Calls Try.prog 42 #[.slice a0 len0 cap0] W (DfP W)) := fun W b => drawFactor_any a0 len0 cap0 W hb2 (HRW.out.up b)
  have H1 : Hid (∀ W : World, Calls Try.prog 41 #[.slice (some ⟨W.heap.size, 0, none⟩) 1 1, .int .i64 10000, .int .i64 10000, .int .i64 10] (W.alloc (.cells #[.int .i64 46, .int .i64 36000] 60 (0, 0))) fun e w' => e = .returned (.tuple #[.int .i64 32040, .int .i64 3600, .int .i64 360]) ∧ Below W.heap.size W w') := fun W => by
    have h := implFactor_any (some ⟨W.heap.size, 0, none⟩) 1 1 (fun _ => ⟨46, 36000⟩) 10000 10000 10 (W.alloc (.cells #[.int .i64 46, .int .i64 36000] 60 (0, 0))) (by decide) (OIr.of_block (CB.new _ _) 1 _ (fun j hj => by obtain rfl : j = 0 := (by omega); exact ⟨rfl, rfl⟩))
    have ea : alS (fun _ => (⟨46, 36000⟩ : OI2)) 1 = 36000 := rfl
    have et : tkS (fun _ => (⟨46, 36000⟩ : OI2)) 10000 10 1 = 360 := by decide
    have ed : dv (36000 * 10000) 100000 3 = 3600 := by decide
    have em : mdV 36000 10000 100000 3 = 3600 := by rw [(md_in (a := 36000) (num := 10000) (den := 100000) (m := 3) (by unfold MdOk; omega) (by rw [ed]; omega) (by rw [ed]; omega)).2, ed]
    obtain ⟨e1, e2, e3⟩ := fa_yes (n := 1) (c := fun _ => (⟨46, 36000⟩ : OI2)) (fee := 10000) (keep := 10000) (day := 10) ⟨opB_t ⟨by decide, fun j _ => (show oiB (⟨46, 36000⟩ : OI2) = true by decide)⟩, by omega, by omega, by omega, fun j _ => (show fdV 46 10 ≤ 360 by decide), by rw [ea]; omega, by rw [ea, et, em]; omega⟩
    rw [ea, et, em] at e1
    rw [ea, em] at e2
    rw [et] at e3
    rw [← e1, ← e2, ← e3] at h
    exact h.mono fun e w' ⟨he, hb⟩ => ⟨he, bel_on ((Below.refl _ _).alloc (Nat.le_refl _) _) hb⟩
  have tok1 : True := trivial
  clear w0
  go_enter Try.func9, Try.ntmps9
  go_wp2_with (first
    | (go_at_call 11; refine (big_f _ _ _ _ hb2).mono ?_; rintro e wq ⟨rfl, ew⟩; replace ew := ew.symm; subst ew)
    | (go_at_call 41; clear tok1; refine (H1.out _).mono ?_; rintro e w1 ⟨rfl, b1⟩; have HB1 : Hid (Below w.heap.size w w1) := b1; clear b1)
    | (go_at_call 42; refine (HDR.out _ HB1.out).mono ?_; rintro e w2 ⟨g, n, oc, c, fee, keep, day, rfl, hn, hr, b2⟩; have HB2 : Hid (Below w.heap.size w w2) := bel_on HB1.out b2; have HR2 : Hid (OIr w2 (some ⟨g, 0, none⟩) n c) := hr; have hn2 : (n : Int) ≤ 1048576 := (by omega); have HS := hid (fa_sum n c fee keep day); have HIM := hid (fun W b => implFactor_any (some ⟨g, 0, none⟩) n oc c fee keep day W hn2 (OIr.below hr b)); have HSP := hid (fun W b => specFactor_any (some ⟨g, 0, none⟩) n oc c fee keep day W hn2 (OIr.below hr b)); obtain ⟨X, hX⟩ : ∃ X, faX n c fee keep day = X := ⟨_, rfl⟩; obtain ⟨K, hK⟩ : ∃ X, faK n c fee keep day = X := ⟨_, rfl⟩; obtain ⟨T, hT⟩ : ∃ X, faT n c fee keep day = X := ⟨_, rfl⟩; rw [hX, hK, hT] at HS HIM HSP; clear b2 hr hX hK hT)
    | (go_at_call 41; refine (HIM.out _ (Below.refl _ _)).mono ?_; rintro e w3 ⟨rfl, b3⟩; have HB3 : Hid (Below w2.heap.size w2 w3) := b3; clear b3)
    | (go_at_call 43; refine (HSP.out _ HB3.out).mono ?_; rintro e w4 ⟨rfl, b4⟩; have HB4 : Hid (Below w2.heap.size w2 w4) := bel_on HB3.out b4; clear b4))
  obtain ⟨h1, h2, h3, h4, h5, h6, h7⟩ := HS.out
  have z1 : (X != X) = false := by simp
  have z2 : (K != K) = false := by simp
  have z3 : (T != T) = false := by simp
  clear HIM HSP HDR H1 HS
  by_cases hz : X + K + T = 0
  · have hz1 : ((X + K + T) != 0) = false := by simp [hz]
    have hz2 := eq_t hz
    clear h7
    go_loopw [16, 17] (fun x i wr => x = .int .i64 0 ∧ i = .int .i64 0 ∧ Hid (Below w.heap.size w wr)) (fun _ _ _ => 0)
    case atStart => exact ⟨rfl, rfl, bel_on HB2.out HB4.out⟩
    case round =>
      obtain ⟨rfl, rfl, HH⟩ := hrel
      by_cases hn0 : (0 : Int) < (n : Int)
      · go_wp2
        go_returns
        exact ⟨rfl, HH.out⟩
      · go_wp2
        go_returns
        exact ⟨rfl, HH.out⟩
  · have hz1 : ((X + K + T) != 0) = true := by simp [hz]
    have H7 : Hid (OpP n c ∧ alS c n ≤ 100000000000 ∧ X + K + T = alS c n) := hid (by rcases h7 with h | h; exact absurd h hz; exact h)
    have hz3 := eq_f hz
    clear h7 hz
    go_loopw [16, 17] (fun x i wr => ∃ (k : Nat) (A : Int), k ≤ n ∧ x = .int .i64 A ∧ i = .int .i64 (k : Int) ∧ (0 ≤ A ∧ A ≤ (k : Int) * 100000000000) ∧ Hid (A = alS c k ∧ Below w2.heap.size w2 wr)) (fun _ i _ => n - (intOf i).toNat)
    case atStart => exact ⟨0, 0, Nat.zero_le _, rfl, rfl, by omega, rfl, HB4.out⟩
    case round =>
      obtain ⟨k, A, hk, rfl, rfl, hA, HH⟩ := hrel
      by_cases hlt : k < n
      · have hlt2 : (k : Int) < (n : Int) := by omega
        obtain ⟨c0, c1⟩ := (HR2.out.below HH.out.2).cell hlt
        have hoi := (oiB_p (H7.out.1.2 k hlt)).2
        obtain ⟨a, ha⟩ : ∃ a, (c k).amount = a := ⟨_, rfl⟩
        rw [ha] at c1 hoi
        simp only [Nat.zero_add] at c1
        have HA : Hid (A + a = alS c (k + 1)) := hid (by unfold alS; rw [ha, ← HH.out.1])
        clear c0 ha
        go_wp2
        go_roundw
        case rel => exact ⟨k + 1, A + a, by omega, rfl, by go_num, by omega, HA.out, HH.out.2⟩
        case measure => simp [intOf]; omega
      · obtain rfl : k = n := by omega
        have lkk : ¬ (k : Int) < (k : Int) := by omega
        have HE : Hid (X + K + T = A) := hid (H7.out.2.2.trans HH.out.1.symm)
        have he := eq_t HE.out
        go_wp2
        go_returns
        exact ⟨rfl, bel_on HB2.out HH.out.2⟩

set_option maxRecDepth 100000 in
theorem lifted (os : Os) (started : os.Started) (H : Type) (enc : TypeId × Value → H) :
    ReturnsInHanded {} Try.checked os 9 .any (Rows.fnFactoredSpec.pre6 enc Try.prog Try.f9 Rows.fnFactoredRow.domain false) (Rows.fnFactoredSpec.post enc Try.prog Try.f9 false true false false) := by
  refine returnsInHanded_of_change (C := Try.checked) own started (by kernel_rfl) Try.func9
    (ChangeSpec.witness6 (enc := enc) (C := Try.checked) false ⟨#[], #[.slice none 0 0], []⟩ 8 (by kernel_rfl) (by kernel_rfl) (by kernel_rfl) (by kernel_rfl)) ?_
  intro W base args ds gs before hval0 hW hcnd _
  have hval : ∀ (j : Nat) t v, Try.f9.params[j]? = some t → args[j]? = some v → Value.okWide Try.prog W .any base t v := hval0
  have hW' := hW
  obtain ⟨p, q, hA0, hV, rfl, hfz, hnd⟩ := hW
  have hA : DataW.TrodAll enc Try.prog W 0 (fun _ => true) true Try.f9.params.toList args.toList ds p := hA0
  rw [Try.params9] at hA hval
  obtain ⟨v0, vs0, d0, ds0, p0, q0, hargs, rfl, rfl, h0, r0⟩ := trodAll_cons hA
  obtain ⟨rfl, rfl, rfl⟩ := trodAll_nil r0
  obtain rfl : args = #[v0] := by cases args; simp_all
  obtain ⟨rfl, rfl⟩ := trodVars_none hV
  have k0 := h0
  have lt0 : ∀ x ∈ p0, x.block < W.heap.size := by obtain ⟨m, hm⟩ := k0; exact DataW.trod_lt m _ _ _ hm
  obtain ⟨a0, len0, cap0, rfl⟩ := okWide_slice Try.underlying22 (hval 0 22 v0 rfl rfl)
  obtain ⟨z0, w0⟩ : ∃ zs, IsRow .u8 W a0 len0 cap0 zs := by
    obtain ⟨fuel, hf⟩ := h0
    rcases open_ints Try.underlying22 Try.underlying5 (by kernel_rfl) hf with ⟨hcs, _⟩ | ⟨x, l, c, zs, hcs, _, hl, hm, hz, _, hcell, hwz⟩
    · simp [Value.cells] at hcs
      obtain ⟨rfl, rfl, rfl⟩ := hcs
      exact ⟨[], .inl ⟨rfl, rfl, rfl, rfl⟩⟩
    · simp [Value.cells] at hcs
      obtain ⟨rfl, rfl, rfl⟩ := hcs
      exact ⟨zs, .inr ⟨_, rfl, hl, hm, by simpa using hz, hcell, hwz⟩⟩
  clear hA0 hval0
  refine (walk a0 len0 cap0 z0 W w0).mono fun e W' ⟨he, hg⟩ => ?_
  subst he
  exact ⟨_, rfl, _, _, _, [], _, [], hW', (trodAll_cons_mk (shut_bool Try.underlying4 _) trodAll_mk0), (trodAll_cons_mk (Below.trod laidOut (by kernel_rfl) (of_decide_eq_true (by kernel_rfl)) k0 hg lt0) trodAll_mk0), rfl, hg.frame _, fun h => by cases h⟩

theorem over : Rows.fnFactoredRow.holds Try.pinned (OpenSpec.ofChange Rows.fnFactoredSpec) :=
  OpenClaim.holds_of_wide 9 Try.f9 rfl rfl rfl rfl rfl rfl rfl ⟨rfl, rfl, rfl, rfl, rfl⟩ rfl rfl rfl rfl rfl (by kernel_rfl) Try.func9 (by kernel_rfl)
    (of_decide_eq_true (by kernel_rfl)) (by unfold Func.isWrapper; first | (rw [if_pos (by decide +kernel)]; kernel_rfl) | (rw [if_neg (by decide +kernel)]; exact ⟨rfl, rfl⟩))
    (fun os started H enc _ => lifted os started H enc)

end Go.Proofs.Ytnglofgcckdbmaa.fnFactored

namespace Go.Proofs.Ytnglofgcckdbmaa
theorem fnFactored_holds : Rows.FnFactoredSaid := fnFactored.over
#print axioms fnFactored_holds
end Go.Proofs.Ytnglofgcckdbmaa
