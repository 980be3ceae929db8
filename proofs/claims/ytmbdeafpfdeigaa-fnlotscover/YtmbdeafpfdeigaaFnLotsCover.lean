/- By each of the four kinds of lots drawn needs are covered bucket by bucket, and least lots cost no more than any other; no condition but what can be read. -/
import Derived.Test.YtmbdeafpfdeigaaRows
import Derived.WalkKit
import Derived.ProofKit
import Derived.OpenShut
import Derived.ShutString
import Derived.ChangeOld
import Derived.Below
import Derived.Handy
import Derived.Carry
import Derived.Lib.SmallJoins
import Derived.Deep.SlicePairs
import Derived.Test.YtmbdeafpfdeigaaXb
import Derived.Test.YtmbdeafpfdeigaaXg
import Derived.Test.YtmbdeafpfdeigaaQ9
namespace Go.Proofs.Ytmbdeafpfdeigaa.fnLotsCover
open Go.ChangeShapes Go.WideShapes Go.ChangeAt Go.RowKit
set_option linter.unusedVariables false
set_option linter.unusedSimpArgs false

theorem own : ownKnob Try.prog.godebug = none := by kernel_rfl
theorem laidOut : laidOutB Try.prog = true := by kernel_rfl

set_option maxRecDepth 20000 in
set_option maxHeartbeats 4000000 in
theorem walk (a0 : Option Addr) (len0 cap0 : Nat) (z0 : List Int) (w : World) (w0 : IsRow .u8 w a0 len0 cap0 z0) :
    Calls Try.prog 7 #[.slice a0 len0 cap0] w fun e w' => e = .returned (.bool true) ∧ Below w.heap.size w w' := by
  by_cases hbig : (1048576 : Int) < (len0 : Int)
  · go_enter Try.func7, Try.ntmps7
    go_wp2_with (go_at_call 16; refine (big_t _ _ _ _ hbig).mono ?_; rintro e w1 ⟨rfl, ew⟩; replace ew := ew.symm; subst ew)
    go_returns
    exact ⟨rfl, Below.refl _ _⟩
  have hb2 : (len0 : Int) ≤ 1048576 := by omega
  have HRW : Hid (ByteRow w w.heap.size a0 len0) := row_of w0
  clear w0 z0
  go_enter Try.func7, Try.ntmps7
  go_wp2_with (first
    | (go_at_call 16; refine (big_f _ _ _ _ hb2).mono ?_; rintro e wq ⟨rfl, ew⟩; replace ew := ew.symm; subst ew)
    | (go_at_call 32; refine (ex_lots w).mono ?_; rintro e w1 ⟨g, cp, rfl, g0, g3, b1⟩; have HB1 : Hid (Below w.heap.size w w1) := hid b1; clear b1)
    | (go_at_call 33; refine (drawLotsOf_any a0 len0 cap0 _ hb2 (brow_up HRW.out HB1.out)).mono ?_; rintro e w2 ⟨lk, lz, lu, lh, a, n, cpa, z, rfl, hn60, hncp, hir, b2⟩; have HB2 : Hid (Below w.heap.size w w2) := hid (bel_on HB1.out b2); have HIR : Hid (IR w2 a n z ∧ n ≤ cpa) := hid ⟨hir, hncp⟩; clear hir hncp b2 HRW g0 g3))
  have hn1 : (n : Int) ≤ 1048576 := by omega
  obtain ⟨bx, hbx⟩ : ∃ x, w2.heap.size = x := ⟨_, rfl⟩
  have HST : Hid (Below bx w2 (w2.alloc (.cells #[.int .i64 lk, .int .i64 lz, .int .i64 lu, .int .i64 lh] 48 (0, 0))) ∧ CB (w2.alloc (.cells #[.int .i64 lk, .int .i64 lz, .int .i64 lu, .int .i64 lh] 48 (0, 0))) bx #[.int .i64 lk, .int .i64 lz, .int .i64 lu, .int .i64 lh] 48) := hid (by rw [← hbx]; exact ⟨(Below.refl _ _).alloc (Nat.le_refl _) _, CB.new _ _⟩)
  have HBX := hid hbx
  generalize hWV : w2.alloc (.cells #[.int .i64 lk, .int .i64 lz, .int .i64 lu, .int .i64 lh] 48 (0, 0)) = WV at HST ⊢
  rw [hbx]
  clear hWV hbx
  have HIW : Hid (∀ W, Below bx w2 W → IR W a n z) := hid (fun W b => HIR.out.1.below (by rw [HBX.out]; exact b))
  go_loopw [7, 8] (fun u v wr => ∃ (q lst k' : Int), 0 ≤ q ∧ q ≤ 4 ∧ v = .int .i64 q ∧ u = .int .i64 lst ∧ Hid (lst = -1 ∨ (q < 4 ∧ loB ⟨4, lz, lu, lh⟩ z n = true ∧ lst = lcX ⟨4, lz, lu, lh⟩ z (ordF ⟨4, lz, lu, lh⟩ z n) n n)) ∧ Hid (Below bx w2 wr ∧ CB wr bx #[.int .i64 k', .int .i64 lz, .int .i64 lu, .int .i64 lh] 48)) (fun _ v _ => (intOf v).toNat)
  case atStart => exact ⟨4, -1, lk, by omega, by omega, rfl, rfl, hid (.inl rfl), HST⟩
  case round =>
    clear HST
    obtain ⟨q, lst, k', hq0, hq4, rfl, rfl, HL, HH⟩ := hrel
    obtain ⟨wo, rfl⟩ : ∃ x, x = wr := ⟨wr, rfl⟩
    by_cases hq1 : 1 ≤ q
    · have f0 := HH.out.2.fr 0
      have y0 : wo.cell? ⟨bx, 0, none⟩ = some (.int .i64 k') := (HH.out.2.cell 0).trans rfl
      have hwq : IntKind.i64.wrap (q - 1) = q - 1 := IntWalk.i64_in _ ⟨by omega, by omega⟩
      have HS : Hid (Below bx w2 (wo.setCell ⟨bx, 0, none⟩ (.int .i64 q)) ∧ CB (wo.setCell ⟨bx, 0, none⟩ (.int .i64 q)) bx #[.int .i64 q, .int .i64 lz, .int .i64 lu, .int .i64 lh] 48) := hid ⟨HH.out.1.setCell (Nat.le_refl _) _, HH.out.2.set 0 _⟩
      have y1 : wo.cell? ⟨bx, 1, none⟩ = some (.int .i64 lz) := (HH.out.2.cell 1).trans rfl
      have y2 : wo.cell? ⟨bx, 2, none⟩ = some (.int .i64 lu) := (HH.out.2.cell 2).trans rfl
      have y3 : wo.cell? ⟨bx, 3, none⟩ = some (.int .i64 lh) := (HH.out.2.cell 3).trans rfl
      have tk1 : True := trivial
      cases hv : loB ⟨q, lz, lu, lh⟩ z n
      · have HV := hid hv
        have HM0 : Hid (loM ⟨q, lz, lu, lh⟩ z n = 0) := hid (lo_f hv)
        clear hv
        go_wp2_with (first
          | (go_at_call 32; clear tk1; go_loud (refine (implLotsOf_any ⟨q, lz, lu, lh⟩ a n cpa z _ hn1 HIR.out.2 (HIW.out _ HS.out.1)).mono ?_; rw [HM0.out, HV.out]; rintro e w3 ⟨a3, c3, rfl, _, b3⟩; replace HS := hid (And.intro (HS.out.1.trans (b3.mono (by have := HS.out.2.lt; omega))) (HS.out.2.below b3 HS.out.2.lt)); clear b3; have z0 : w3.cell? ⟨bx, 0, none⟩ = some (.int .i64 q) := (HS.out.2.cell 0).trans rfl; have z1 : w3.cell? ⟨bx, 1, none⟩ = some (.int .i64 lz) := (HS.out.2.cell 1).trans rfl; have z2 : w3.cell? ⟨bx, 2, none⟩ = some (.int .i64 lu) := (HS.out.2.cell 2).trans rfl; have z3 : w3.cell? ⟨bx, 3, none⟩ = some (.int .i64 lh) := (HS.out.2.cell 3).trans rfl))
          | (go_at_call 34; go_loud (refine (specLotsOf_any ⟨q, lz, lu, lh⟩ a n cpa z _ hn1 (HIW.out _ HS.out.1)).mono ?_; rw [HM0.out, HV.out]; rintro e w4 ⟨a4, c4, rfl, _, b4⟩; replace HS := hid (And.intro (HS.out.1.trans (b4.mono (by have := HS.out.2.lt; omega))) (HS.out.2.below b4 HS.out.2.lt)); clear b4)))
        go_roundw
        case rel => exact ⟨q - 1, lst, q, by omega, by omega, rfl, rfl, hid (by rcases HL.out with h | ⟨h1, h2⟩; (exact .inl h); (exact .inr ⟨by omega, h2⟩)), HS⟩
        case measure => first | (simp [intOf]; done) | (simp [intOf]; omega)
      · have HV := hid hv
        have HM1 : Hid (loM ⟨q, lz, lu, lh⟩ z n = n) := hid (lo_t hv)
        obtain ⟨hn0, hn40, hm⟩ := nqB_p (lo_p hv).2.1
        have HZ := hid hm
        obtain ⟨F, hF⟩ : ∃ F, ordF ⟨q, lz, lu, lh⟩ z n = F := ⟨_, rfl⟩
        obtain ⟨X, hX⟩ : ∃ X, lcX ⟨q, lz, lu, lh⟩ z F n n = X := ⟨_, rfl⟩
        have HRG : Hid (∀ j, j < n → 0 ≤ F j ∧ F j ≤ 1000000) := hid (by rw [← hF]; exact rgB_p n (lo_p hv).2.2)
        have HCV : Hid (∀ j, j < n → 0 ≤ lfF z F j) := hid (by rw [← hF]; exact ord_cover hv)
        have HXN : Hid (0 ≤ X) := hid (by rw [← hX, ← hF]; exact lot_nn hv)
        have HX4 : Hid (loB ⟨4, lz, lu, lh⟩ z n = true → lcX ⟨4, lz, lu, lh⟩ z (ordF ⟨4, lz, lu, lh⟩ z n) n n ≤ X) := hid (fun h => by rw [← hX, ← hF]; exact lot_least rfl rfl rfl h hv)
        have HXE : Hid (q = 4 → loB ⟨4, lz, lu, lh⟩ z n = true ∧ X = lcX ⟨4, lz, lu, lh⟩ z (ordF ⟨4, lz, lu, lh⟩ z n) n n) := hid (fun h => by subst h; exact ⟨hv, by rw [← hX, ← hF]⟩)
        have HLC : Hid (∀ (W : World) (a9 : Option Addr) (c9 : Nat), IR W a n z → IR W a9 n F → Calls Try.prog 35 #[.agg #[.int .i64 q, .int .i64 lz, .int .i64 lu, .int .i64 lh], .slice a n cpa, .slice a9 n c9] W fun e w' => e = .returned (.tuple #[.int .i64 X, .bool true]) ∧ Below W.heap.size W w') := hid (fun W a9 c9 h1 h2 => by
          have := implLotCost_any ⟨q, lz, lu, lh⟩ a a9 n cpa n c9 z F W hn1 hn1 h1 h2
          have hr := lot_right hv
          rw [hF] at hr
          rw [hX, hr] at this; exact this)
        have HFE := hid hF
        clear hv hm hF hX
        go_wp2_with (first
          | (go_at_call 32; clear tk1; go_loud (refine (implLotsOf_any ⟨q, lz, lu, lh⟩ a n cpa z _ hn1 HIR.out.2 (HIW.out _ HS.out.1)).mono ?_; rw [HM1.out, HV.out, HFE.out]; rintro e w3 ⟨a3, c3, rfl, ho, b3⟩; have HO3 : Hid (IR w3 a3 n F) := hid ho.row; replace HS := hid (And.intro (HS.out.1.trans (b3.mono (by have := HS.out.2.lt; omega))) (HS.out.2.below b3 HS.out.2.lt)); clear b3 ho; have z0 : w3.cell? ⟨bx, 0, none⟩ = some (.int .i64 q) := (HS.out.2.cell 0).trans rfl; have z1 : w3.cell? ⟨bx, 1, none⟩ = some (.int .i64 lz) := (HS.out.2.cell 1).trans rfl; have z2 : w3.cell? ⟨bx, 2, none⟩ = some (.int .i64 lu) := (HS.out.2.cell 2).trans rfl; have z3 : w3.cell? ⟨bx, 3, none⟩ = some (.int .i64 lh) := (HS.out.2.cell 3).trans rfl))
          | (go_at_call 34; go_loud (refine (specLotsOf_any ⟨q, lz, lu, lh⟩ a n cpa z _ hn1 (HIW.out _ HS.out.1)).mono ?_; rw [HM1.out, HV.out, HFE.out]; rintro e w4 ⟨a4, c4, rfl, _, b4⟩; replace HO3 := hid (HO3.out.below b4); replace HS := hid (And.intro (HS.out.1.trans (b4.mono (by have := HS.out.2.lt; omega))) (HS.out.2.below b4 HS.out.2.lt)); clear b4; have u0 : w4.cell? ⟨bx, 0, none⟩ = some (.int .i64 q) := (HS.out.2.cell 0).trans rfl; have u1 : w4.cell? ⟨bx, 1, none⟩ = some (.int .i64 lz) := (HS.out.2.cell 1).trans rfl; have u2 : w4.cell? ⟨bx, 2, none⟩ = some (.int .i64 lu) := (HS.out.2.cell 2).trans rfl; have u3 : w4.cell? ⟨bx, 3, none⟩ = some (.int .i64 lh) := (HS.out.2.cell 3).trans rfl))
          | (go_at_call 35; go_loud (refine (HLC.out _ a3 c3 (HIW.out _ HS.out.1) HO3.out).mono ?_; rintro e w5 ⟨rfl, b5⟩; replace HO3 := hid (HO3.out.below b5); replace HS := hid (And.intro (HS.out.1.trans (b5.mono (by have := HS.out.2.lt; omega))) (HS.out.2.below b5 HS.out.2.lt)); clear b5)))
        go_loopw [15, 16, 17] (fun u v x wr => ∃ i : Nat, i ≤ n ∧ u = .int .i64 (smQ z i) ∧ v = .int .i64 (smQ F i) ∧ x = .int .i64 (i : Int) ∧ wr = w5) (fun _ _ x _ => n - (intOf x).toNat)
        case atStart => exact ⟨0, Nat.zero_le _, rfl, rfl, rfl, by first | rfl | trivial⟩
        case round =>
          obtain ⟨i, hi, rfl, rfl, rfl, rfl⟩ := hrel
          by_cases hin : i < n
          · have hin2 : (i : Int) < (n : Int) := by omega
            have IA := HIW.out _ HS.out.1
            obtain ⟨ka, oa, rfl, _⟩ := IA.addr (by omega)
            have IB := HO3.out
            obtain ⟨kc, oc, rfl, _⟩ := IB.addr (by omega)
            have ca := IA.cell hin
            have cc := IB.cell hin
            have s1 := smq_bd (z := z) (M := 1000000) (i + 1) (fun j hj => HZ.out j (by omega))
            have s2 := smq_bd (z := F) (M := 1000000) (i + 1) (fun j hj => HRG.out j (by omega))
            have hcv := HCV.out i hin
            unfold lfF at hcv
            have e1 := smQ_s z i
            have e2 := smQ_s F i
            have hs1 : IntKind.i64.wrap (smQ z i + z i) = smQ z (i + 1) := by rw [← e1]; exact IntWalk.i64_in _ ⟨by omega, by omega⟩
            have hs2 : IntKind.i64.wrap (smQ F i + F i) = smQ F (i + 1) := by rw [← e2]; exact IntWalk.i64_in _ ⟨by omega, by omega⟩
            have hnl : ¬ smQ F (i + 1) < smQ z (i + 1) := by omega
            clear e1 e2 s1 s2 hcv IA IB
            go_wp2
            go_roundw
            case rel => exact ⟨i + 1, by omega, rfl, rfl, by go_num, by first | rfl | trivial⟩
            case measure => first | (simp [intOf]; done) | (simp [intOf]; omega)
          · obtain rfl : i = n := by omega
            have lii : ¬ (i : Int) < (i : Int) := by omega
            by_cases h4 : q = 4
            · obtain ⟨g1, g2⟩ := HXE.out h4
              have HLN : Hid (X = -1 ∨ (q - 1 < 4 ∧ loB ⟨4, lz, lu, lh⟩ z i = true ∧ X = lcX ⟨4, lz, lu, lh⟩ z (ordF ⟨4, lz, lu, lh⟩ z i) i i)) := hid (.inr ⟨by omega, g1, g2⟩)
              have hqb : (q == 4) = true := by simp [h4]
              have hgt : ¬ X < X := by omega
              clear g1 g2 h4
              go_wp2
              go_roundw
              case rel => exact ⟨q - 1, X, q, by omega, by omega, rfl, rfl, HLN, HS⟩
              case measure => first | (simp [intOf]; done) | (simp [intOf]; omega)
            · have hqb : (q == 4) = false := by simp [h4]
              have hgt : ¬ X < lst := by
                have h0 := HXN.out
                rcases HL.out with h | ⟨h1, h2, h3⟩
                · omega
                · have := HX4.out h2; omega
              go_wp2
              go_roundw
              case rel => exact ⟨q - 1, lst, q, by omega, by omega, rfl, rfl, hid (by rcases HL.out with h | ⟨h1, h2⟩; (exact .inl h); (exact .inr ⟨by omega, h2⟩)), HS⟩
              case measure => first | (simp [intOf]; done) | (simp [intOf]; omega)
    · obtain rfl : q = 0 := by omega
      go_wp2
      go_returns
      exact ⟨rfl, HB2.out.trans (HH.out.1.mono (by have := HBX.out; have := HB2.out.size; omega))⟩

set_option maxRecDepth 100000 in
theorem lifted (os : Os) (started : os.Started) (H : Type) (enc : TypeId × Value → H) :
    ReturnsInHanded {} Try.checked os 7 .any (Rows.fnLotsCoverSpec.pre6 enc Try.prog Try.f7 Rows.fnLotsCoverRow.domain false) (Rows.fnLotsCoverSpec.post enc Try.prog Try.f7 false true false false) := by
  refine returnsInHanded_of_change (C := Try.checked) own started (by kernel_rfl) Try.func7
    (ChangeSpec.witness6 (enc := enc) (C := Try.checked) false ⟨#[], #[.slice none 0 0], []⟩ 8 (by kernel_rfl) (by kernel_rfl) (by kernel_rfl) (by kernel_rfl)) ?_
  intro W base args ds gs before hval0 hW hcnd _
  have hval : ∀ (j : Nat) t v, Try.f7.params[j]? = some t → args[j]? = some v → Value.okWide Try.prog W .any base t v := hval0
  have hW' := hW
  obtain ⟨p, q, hA0, hV, rfl, hfz, hnd⟩ := hW
  have hA : DataW.TrodAll enc Try.prog W 0 (fun _ => true) true Try.f7.params.toList args.toList ds p := hA0
  rw [Try.params7] at hA hval
  obtain ⟨v0, vs0, d0, ds0, p0, q0, hargs, rfl, rfl, h0, r0⟩ := trodAll_cons hA
  obtain ⟨rfl, rfl, rfl⟩ := trodAll_nil r0
  obtain rfl : args = #[v0] := by cases args; simp_all
  obtain ⟨rfl, rfl⟩ := trodVars_none hV
  have k0 := h0
  have lt0 : ∀ x ∈ p0, x.block < W.heap.size := by obtain ⟨m, hm⟩ := k0; exact DataW.trod_lt m _ _ _ hm
  obtain ⟨a0, len0, cap0, rfl⟩ := okWide_slice Try.underlying22 (hval 0 22 v0 rfl rfl)
  obtain ⟨z0, w0⟩ : ∃ zs, IsRow .u8 W a0 len0 cap0 zs := by
    obtain ⟨fuel, hf⟩ := h0
    rcases open_ints Try.underlying22 Try.underlying5 (by kernel_rfl) hf with ⟨hcs, _⟩ | ⟨x, l, c, zs, hcs, _, hl, hm, hz, _, hcell, hwz⟩
    · simp [Value.cells] at hcs
      obtain ⟨rfl, rfl, rfl⟩ := hcs
      exact ⟨[], .inl ⟨rfl, rfl, rfl, rfl⟩⟩
    · simp [Value.cells] at hcs
      obtain ⟨rfl, rfl, rfl⟩ := hcs
      exact ⟨zs, .inr ⟨_, rfl, hl, hm, by simpa using hz, hcell, hwz⟩⟩
  clear hA0 hval0
  refine (walk a0 len0 cap0 z0 W w0).mono fun e W' ⟨he, hg⟩ => ?_
  subst he
  exact ⟨_, rfl, _, _, _, [], _, [], hW', (trodAll_cons_mk (shut_bool Try.underlying4 _) trodAll_mk0), (trodAll_cons_mk (Below.trod laidOut (by kernel_rfl) (of_decide_eq_true (by kernel_rfl)) k0 hg lt0) trodAll_mk0), rfl, hg.frame _, fun h => by cases h⟩

theorem over : Rows.fnLotsCoverRow.holds Try.pinned (OpenSpec.ofChange Rows.fnLotsCoverSpec) :=
  OpenClaim.holds_of_wide 7 Try.f7 rfl rfl rfl rfl rfl rfl rfl ⟨rfl, rfl, rfl, rfl, rfl⟩ rfl rfl rfl rfl rfl (by kernel_rfl) Try.func7 (by kernel_rfl)
    (of_decide_eq_true (by kernel_rfl)) (by unfold Func.isWrapper; first | (rw [if_pos (by decide +kernel)]; kernel_rfl) | (rw [if_neg (by decide +kernel)]; exact ⟨rfl, rfl⟩))
    (fun os started H enc _ => lifted os started H enc)

end Go.Proofs.Ytmbdeafpfdeigaa.fnLotsCover

namespace Go.Proofs.Ytmbdeafpfdeigaa
theorem fnLotsCover_holds : Rows.FnLotsCoverSaid := fnLotsCover.over
#print axioms fnLotsCover_holds
end Go.Proofs.Ytmbdeafpfdeigaa
