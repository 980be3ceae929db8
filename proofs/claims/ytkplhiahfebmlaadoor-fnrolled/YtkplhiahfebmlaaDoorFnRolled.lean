/- Of every drawn right chart and list what the program rolls up: those without a Parent have all of it together, and each account what Under has; the seven listed refusals start as the program's text lays them. -/
import Derived.Test.YtkplhiahfebmlaaDoorFr
import Derived.Test.YtkplhiahfebmlaaDoorDl
import Derived.Test.YtkplhiahfebmlaaDoorRs
import Derived.Test.YtkplhiahfebmlaaDoorUs
import Derived.Test.YtkplhiahfebmlaaDoorSu
import Derived.Test.YtkplhiahfebmlaaDoorRb
import Derived.Test.YtkplhiahfebmlaaDoorTie
import Derived.Test.YtkplhiahfebmlaaDoorCards
import Derived.SevenTiedAt
import Derived.OpenVars
import Derived.ChangeVars
import Derived.Carry
import Derived.Lib.SmallJoins
namespace Go.Proofs.YtkplhiahfebmlaaDoor.fnRolled
open Go.ChangeShapes Go.WideShapes Go.ChangeAt Go.WideMaps Go.WideElems Go.RowKit
set_option linter.unusedVariables false
set_option linter.unusedSimpArgs false

set_option maxRecDepth 20000 in
set_option maxHeartbeats 4000000 in
theorem walk (a0 : Option Addr) (len0 cap0 : Nat) (z0 : List Int) (w : World) (w0 : IsRow .u8 w a0 len0 cap0 z0) (hE : EL w) :
    Calls Tryd.prog 3 #[.slice a0 len0 cap0] w fun e w' => e = .returned (.bool true) ∧ Below w.heap.size w w' := by
  by_cases hbig : (1048576 : Int) < (len0 : Int)
  · go_enter Tryd.func3, Tryd.ntmps3
    go_wp2_with (go_at_call 11; refine (big_t _ _ _ _ hbig).mono ?_; rintro e w1 ⟨rfl, ew⟩; replace ew := ew.symm; subst ew)
    go_returns
    exact ⟨rfl, Below.refl _ _⟩
  have hb2 : (len0 : Int) ≤ 1048576 := by omega
  have HDR : Hid (Calls Tryd.prog 12 #[.slice a0 len0 cap0] w (RollP w)) := drawRoll_any a0 len0 cap0 w (by omega) (row_of w0)
  have HE : Hid (EL w) := hE
  have h9 := hE.nine
  clear w0 hE
  go_enter Tryd.func3, Tryd.ntmps3
  go_wp2_with (first
    | (go_at_call 11; refine (big_f _ _ _ _ hb2).mono ?_; rintro e wq ⟨rfl, ew⟩; replace ew := ew.symm; subst ew)
    | (go_at_call 12; refine HDR.out.mono ?_; rintro e w1 ⟨l, ad, cap, m, ai, capi, z, rfl, cr1, ir1, fe1, l1, m1, b1⟩; have HCR : Hid (CR w1 ad l.length (gl l)) := cr1; have HIR : Hid (IR w1 ai m z) := ir1; have HFE : Hid (FewB l) := fe1; have HB1 : Hid (Below w.heap.size w w1) := b1; have hlen : (l.length : Int) ≤ 70 := (by omega); have hmm : (m : Int) ≤ 200 := (by omega); clear cr1 ir1 fe1 l1 m1 b1))
  have HCO : Hid (∀ j, (gl l j).code.size ≤ maxLen) := fun j => by have := gl_few HFE.out j; unfold maxLen; omega
  obtain ⟨M, hM⟩ : ∃ M, rm l.length (gl l) m z = M := ⟨_, rfl⟩
  have HI : Hid (Calls Tryd.prog 13 #[.slice ad l.length cap, .slice ai m capi] w1 (NewI M (rollL l.length (gl l) z M) w1)) := hM ▸ implRoll_any ad l.length cap (gl l) ai m capi z w1 (by omega) HCO.out HCR.out (HE.out.below HB1.out h9) (by omega) HIR.out
  have HSP : Hid (∀ w2 : World, Below w1.heap.size w1 w2 → Calls Tryd.prog 14 #[.slice ad l.length cap, .slice ai m capi] w2 (NewI M (rollL l.length (gl l) z M) w2)) := fun w2 hb => hM ▸ specRoll_any ad l.length cap (gl l) ai m capi z w2 (by omega) HCO.out (HCR.out.below hb) (by omega) (HIR.out.below hb)
  have HMM : Hid (rm l.length (gl l) m z = M) := hM
  clear hM
  by_cases hM0 : M = 0
  · subst hM0
    refine HI.out.mono ?_
    rintro e w2 ⟨adg, capg, rfl, o2, b2⟩
    have HB2 : Hid (Below w1.heap.size w1 w2) := b2
    clear o2 b2
    go_wp2_with (go_at_call 14; refine (HSP.out w2 HB2.out).mono ?_; rintro e w3 ⟨ads, caps, rfl, o3, b3⟩; have HB3 : Hid (Below w.heap.size w w3) := bel_on (bel_on HB1.out HB2.out) b3; clear o3 b3)
    go_returns
    exact ⟨rfl, HB3.out⟩
  have hgood : m = tn l.length (gl l) ∧ totB m z = true ∧ tn l.length (gl l) = M := by
    have h1 := HMM.out
    unfold rm at h1
    split at h1
    · rename_i q; exact ⟨q.1, q.2, h1⟩
    · omega
  obtain ⟨hg1, hg2, hg3⟩ := hgood
  have htnl : tn l.length (gl l) = l.length := by
    have h1 := hg3
    unfold tn at h1 ⊢
    split
    · rfl
    · rename_i q; rw [if_neg q] at h1; omega
  obtain ⟨n, hn⟩ : ∃ n, l.length = n := ⟨_, rfl⟩
  have hMn : M = n := by omega
  have hmn : m = n := by omega
  subst hMn
  subst hmn
  rw [hn] at HCR HI HSP hlen htnl ⊢
  have HRT : Hid (RightTo (gl l) m) := by have := tn_to l.length (gl l); rw [hg3] at this; exact this
  have HTP : Hid (TotP m z) := totB_iff.1 hg2
  have HUE : Hid (∀ i, i < m → IsEnd (par (gl l)) m i (i + um m (gl l) (i : Int))) := fun i hi => by have := um_in (len := m) (c := gl l) (a := i) (by omega); rw [htnl] at this; exact this
  have HUN : Hid (∀ (i : Nat) (w2 : World), Below w1.heap.size w1 w2 → Calls Tryd.prog 15 #[.slice ad m cap, .int .i64 (i : Int)] w2 (NewI (um m (gl l) (i : Int)) (ints i (um m (gl l) (i : Int))) w2)) := fun i w2 hb => by
    have hb' : Below w.heap.size w w2 := bel_on HB1.out hb
    have := implUnder_any ad m cap (gl l) (i : Int) w2 (by omega) HCO.out (HCR.out.below hb) (HE.out.below hb' h9)
    rw [show (i : Int).toNat = i by omega] at this
    exact this
  have h120 : m ≤ 120 := by have := (tn_le m (gl l)).2; omega
  have hm1 : 1 ≤ m := by omega
  obtain ⟨kc, oc, rfl, _⟩ := HCR.out.addr (by omega)
  obtain ⟨ki, oi, rfl, _⟩ := HIR.out.addr (by omega)
  have hm0 : ((m : Int) == 0) = false := by simp; omega
  clear hg1 hg2 hg3 htnl hn hM0
  refine HI.out.mono ?_
  rintro e w2 ⟨adg, capg, rfl, o2, b2⟩
  have HB2 : Hid (Below w1.heap.size w1 w2) := b2
  have HG2 : Hid (IR w2 adg m (rv m (gl l) z)) := row_IR o2 (fun j hj => rollL_get _ _ _ _ _ hj)
  clear o2 b2
  go_wp2_with (go_at_call 14; refine (HSP.out w2 HB2.out).mono ?_; rintro e w3 ⟨ads, caps, rfl, o3, b3⟩; have HB3 : Hid (Below w1.heap.size w1 w3) := bel_on HB2.out b3; have HG3 : Hid (IR w3 adg m (rv m (gl l) z)) := HG2.out.below b3; clear o3 b3)
  obtain ⟨kg, og, rfl, _⟩ := HG3.out.addr (by omega)
  have HLo : Hid (Low (par (gl l)) m) := HRT.out.low
  have HGa : Hid (Gapless (par (gl l)) m) := HRT.out.gapless
  go_loopw [6, 7] (fun u i wr => ∃ (k e : Nat), k ≤ m ∧ i = .int .i64 (k : Int) ∧ u = .int .i64 (sm z e) ∧ k ≤ e ∧ e ≤ m ∧ (∀ y, k ≤ y → y < e → 0 ≤ par (gl l) y) ∧ (e < m → par (gl l) e = -1) ∧ Below w3.heap.size w3 wr) (fun u i _ => m - (intOf i).toNat)
  case atStart => exact ⟨0, 0, Nat.zero_le _, rfl, rfl, Nat.le_refl _, Nat.zero_le _, fun y _ hy => by omega, fun h => by have := HLo.out 0 h; omega, Below.refl _ _⟩
  case round =>
    obtain ⟨k, e, hk, rfl, rfl, hke, hem, hin, hne, hB⟩ := hrel
    have HB : Hid (Below w3.heap.size w3 wr) := hB
    have HBR : Hid (Below w1.heap.size w1 wr) := bel_on HB3.out hB
    have be := sm_small h120 HTP.out.bound (a := 0) (e := e) (by omega) hem
    rw [show sm z 0 = 0 from rfl] at be
    clear hB
    by_cases hlt : k < m
    · have hlt2 : (k : Int) < (m : Int) := by omega
      obtain ⟨_, c2, _⟩ := (HCR.out.below HBR.out).cell hlt
      have g1 := (HG3.out.below HB.out).cell hlt
      have hend := HUE.out k hlt
      have hX1 := hend.1
      have hX2 := hend.2.1
      have hrv : rv m (gl l) z k = sm z (k + um m (gl l) (k : Int)) - sm z k := rfl
      have HUk := HUN.out k
      obtain ⟨q, hq⟩ : ∃ q, um m (gl l) (k : Int) = q := ⟨_, rfl⟩
      rw [hq] at hend hX1 hX2 hrv HUk
      have HUK : Hid (∀ (w2 : World), Below w1.heap.size w1 w2 → Calls Tryd.prog 15 #[.slice (some ⟨kc, oc, none⟩) m cap, .int .i64 (k : Int)] w2 (NewI q (ints k q) w2)) := HUk
      have hq1 : 1 ≤ q := by omega
      have bq := sm_small h120 HTP.out.bound (a := k) (e := k + q) (by omega) hX2
      have bX := sm_small h120 HTP.out.bound (a := 0) (e := k + q) (by omega) hX2
      rw [show sm z 0 = 0 from rfl] at bX
      have hpp : (gl l k).places = par (gl l) k := rfl
      rw [hpp] at c2
      rw [hrv] at g1
      have HEQ : Hid (∃ e', k + 1 ≤ e' ∧ e' ≤ m ∧ (∀ y, k + 1 ≤ y → y < e' → 0 ≤ par (gl l) y) ∧ (e' < m → par (gl l) e' = -1) ∧ (par (gl l) k < 0 → sm z e + (sm z (k + q) - sm z k) = sm z e') ∧ (0 ≤ par (gl l) k → sm z e = sm z e')) := by
        have hlk := HLo.out k hlt
        by_cases hp : par (gl l) k < 0
        · have hek : e = k := by
            rcases Nat.lt_or_ge k e with r | r
            · have := hin k (Nat.le_refl _) r; omega
            · omega
          subst hek
          obtain ⟨n1, n2⟩ := next_root HLo.out HGa.out hlt (by omega) hend
          exact ⟨e + q, by omega, hX2, fun y h1 h2 => n1 y (by omega) h2, n2, fun _ => by omega, fun r => by omega⟩
        · have hek : k < e := by
            rcases Nat.lt_or_ge k e with r | r
            · exact r
            · have : e = k := by omega
              subst this
              have := hne hlt; omega
          exact ⟨e, by omega, hem, fun y h1 h2 => hin y (by omega) h2, hne, fun r => absurd r hp, fun _ => rfl⟩
      obtain ⟨V, hV⟩ : ∃ V, sm z (k + q) - sm z k = V := ⟨_, rfl⟩
      have HV : Hid (sm z (k + q) - sm z k = V) := hV
      rw [hV] at g1 bq HEQ
      obtain ⟨E0, hE0⟩ : ∃ E0, sm z e = E0 := ⟨_, rfl⟩
      rw [hE0] at be HEQ
      rw [hE0]
      have hor : par (gl l) k < 0 ∨ 0 ≤ par (gl l) k := by omega
      generalize hpk : par (gl l) k = pk at c2 HEQ hor
      have bEV : -900000000000000000 ≤ E0 + V ∧ E0 + V ≤ 900000000000000000 := by omega
      clear hend hrv HUk hq hV hE0 hpk hpp hin hne bX
      obtain ⟨W6, hW6, hA6⟩ : ∃ W6, (pk < 0 → W6 = E0 + V) ∧ (0 ≤ pk → W6 = E0) := by
        rcases hor with r | r
        · exact ⟨E0 + V, fun _ => rfl, fun q => by omega⟩
        · exact ⟨E0, fun q => by omega, fun _ => rfl⟩
      rcases hor with hp | hp
      all_goals
        go_wp2_with (go_at_call 15; refine (HUK.out wr HBR.out).mono ?_; rintro e w5 ⟨adu, capu, rfl, o5, b5⟩; have HU5 : Hid (IR w5 adu q (fun j => ((k + j : Nat) : Int))) := row_IR o5 (fun j hj => ints_get _ _ _ hj); have HB5 : Hid (Below w3.heap.size w3 w5) := bel_on HB.out b5; have HBR5 : Hid (Below w1.heap.size w1 w5) := bel_on HBR.out b5; have g5 := keep_cell b5 g1; clear o5 b5)
        obtain ⟨ub, uo, rfl, _⟩ := HU5.out.addr (by omega)
        go_loop [9, 10] (fun u v => ∃ (j : Nat), j ≤ q ∧ v = .int .i64 (j : Int) ∧ u = .int .i64 (sm z (k + j) - sm z k)) (fun u v => q - (intOf v).toNat)
        case atStart => exact ⟨0, Nat.zero_le _, rfl, by simp⟩
        case round =>
          obtain ⟨j, hj, rfl, rfl⟩ := hrel
          by_cases hjq : j < q
          · have u1 := HU5.out.cell hjq
            have l1 := (HIR.out.below HBR5.out).cell (by omega : k + j < m)
            have hjq2 : (j : Int) < (q : Int) := by omega
            have hkj2 : ((k + j : Nat) : Int) < (m : Int) := by omega
            have hkj0 : (0 : Int) ≤ ((k + j : Nat) : Int) := by omega
            have hbd2 := sm_small h120 HTP.out.bound (a := k) (e := k + j) (by omega) (by omega)
            have hzb := HTP.out.bound (k + j) (by omega)
            have hes : Hid (sm z (k + j) - sm z k + z (k + j) = sm z (k + (j + 1)) - sm z k) := by show _ = _; rw [show k + (j + 1) = k + j + 1 by omega, sm_succ]; omega
            obtain ⟨p, hp2⟩ : ∃ p : Nat, k + j = p := ⟨_, rfl⟩
            rw [hp2] at u1 l1 hkj2 hkj0 hbd2 hzb hes ⊢
            generalize sm z p - sm z k = Y at hes hbd2 ⊢
            generalize z p = X at l1 hes hzb
            clear hp2
            go_wp2
            go_round
            case rel => exact ⟨j + 1, by omega, by go_num, by rw [← hes.out]⟩
            case measure => simp [intOf]; omega
          · obtain rfl : j = q := by omega
            rw [HV.out]
            have hj0 : ((j : Int) == 0) = false := by simp; omega
            go_wp2
            go_roundw
            case rel =>
              obtain ⟨e', q1, q2, q3, q4, q5, q6⟩ := HEQ.out
              first
                | exact ⟨k + 1, e', by omega, by go_num, by rw [← q5 hp], q1, q2, q3, q4, HB5.out⟩
                | exact ⟨k + 1, e', by omega, by go_num, by rw [← q6 hp], q1, q2, q3, q4, HB5.out⟩
            case measure => simp [intOf]; omega
    · obtain rfl : k = m := by omega
      obtain rfl : e = k := by omega
      have HBF : Hid (Below w.heap.size w wr) := bel_on HB1.out HBR.out
      have HSU : Hid (Calls Tryd.prog 16 #[.slice (some ⟨ki, oi, none⟩) e capi] wr fun e' w' => e' = .returned (.int .i64 (sm z e)) ∧ w' = wr) := sum_any _ _ _ z wr h120 HTP.out (HIR.out.below HBR.out)
      generalize sm z e = Y at HSU be ⊢
      go_wp2_with (go_at_call 16; refine HSU.out.mono ?_; rintro e' w' ⟨rfl, ew⟩; replace ew := ew.symm; subst ew)
      go_returns
      exact ⟨by simp, HBF.out⟩

set_option maxRecDepth 100000 in
theorem lifted (os : Os) (started : os.Started) (H : Type) (enc : TypeId × Value → H) :
    ReturnsInHanded {} Tryd.checked os 3 .any (fun w args => (Rows.fnRolledSpec.pre enc Tryd.prog Tryd.f3 [] false w args ∧ laidMetH Tryd.prog laid7 w) ∧ sizedMet enc Tryd.prog Tryd.f3 (OpenSpec.ofChange Rows.fnRolledSpec) false w args)
      (Rows.fnRolledSpec.post enc Tryd.prog Tryd.f3 false true false false) := by
  refine returnsInHanded_of_change_and (C := Tryd.checked) (X := fun w _ => laidMetH Tryd.prog laid7 w) (fun _ _ _ hh h => h.of_heap hh) own started (by kernel_rfl) Tryd.func3
    (ChangeSpec.witness_shaped (enc := enc) (C := Tryd.checked) (os := os) (X := fun w _ => laidMetH Tryd.prog laid7 w) false (World.doorLaid Tryd.prog 400 os) #[.slice none 0 0] 8 rfl (World.shaped_of_RefB (by kernel_rfl) (by kernel_rfl)) (by kernel_rfl) (by kernel_rfl) (by kernel_rfl) (door_met7 os _)) ?_
  intro W base args ds gs before hval0 hW _ _ hL _
  have hval : ∀ (j : Nat) t v, Tryd.f3.params[j]? = some t → args[j]? = some v → Value.okWide Tryd.prog W .any base t v := hval0
  have hW' := hW
  obtain ⟨p, q, hA0, hV, rfl, hfz, hnd⟩ := hW
  have hA : DataW.TrodAll enc Tryd.prog W 0 (fun _ => true) true Tryd.f3.params.toList args.toList ds p := hA0
  rw [Tryd.params3] at hA hval
  obtain ⟨v0, vs0, d0, ds0, p0, q0, hargs, rfl, rfl, h0, r0⟩ := trodAll_cons hA
  obtain ⟨rfl, rfl, rfl⟩ := trodAll_nil r0
  obtain rfl : args = #[v0] := by cases args; simp_all
  have hV1 := hV
  obtain ⟨x1, x2, x3, x4, x5, x6, x7, rfl⟩ := seven (trodVars_len hV)
  have k0 := h0
  have lt0 : ∀ x ∈ p0, x.block < W.heap.size := by obtain ⟨m, hm⟩ := k0; exact DataW.trod_lt m _ _ _ hm
  obtain ⟨a0, len0, cap0, rfl⟩ := okWide_slice Tryd.underlying22 (hval 0 22 v0 rfl rfl)
  obtain ⟨z0, w0⟩ : ∃ zs, IsRow .u8 W a0 len0 cap0 zs := by
    obtain ⟨fuel, hf⟩ := h0
    rcases open_ints Tryd.underlying22 Tryd.underlying5 (by kernel_rfl) hf with ⟨hcs, _⟩ | ⟨x, l, c, zs, hcs, _, hl, hm, hz, _, hcell, hwz⟩
    · simp [Value.cells] at hcs
      obtain ⟨rfl, rfl, rfl⟩ := hcs
      exact ⟨[], .inl ⟨rfl, rfl, rfl, rfl⟩⟩
    · simp [Value.cells] at hcs
      obtain ⟨rfl, rfl, rfl⟩ := hcs
      exact ⟨zs, .inr ⟨_, rfl, hl, hm, by simpa using hz, hcell, hwz⟩⟩
  clear hA0 hval0
  refine (walk a0 len0 cap0 z0 W w0 (of_laid7 hL)).mono fun e W' ⟨he, hg⟩ => ?_
  subst he
  exact ⟨_, rfl, _, _, _, [], _, _, hW', (trodAll_cons_mk (shut_bool Tryd.underlying4 _) trodAll_mk0), (trodAll_cons_mk (Below.trod laidOut (by kernel_rfl) (of_decide_eq_true (by kernel_rfl)) k0 hg lt0) trodAll_mk0), Below.trodVars laidOut hg (by kernel_rfl) hV1, hg.frame _, fun h => by cases h⟩

theorem row_holds : Rows.FnRolledSaid :=
  OpenClaim.holds_of_wide 3 Tryd.f3 rfl rfl rfl rfl rfl rfl rfl ⟨rfl, rfl, rfl, rfl, rfl⟩ rfl rfl rfl rfl rfl (by kernel_rfl) Tryd.func3 (by kernel_rfl)
    (of_decide_eq_true (by kernel_rfl)) (by unfold Func.isWrapper; first | (rw [if_pos (by decide +kernel)]; kernel_rfl) | (rw [if_neg (by decide +kernel)]; exact ⟨rfl, rfl⟩))
    (fun os started H enc _ => lifted os started H enc)

end Go.Proofs.YtkplhiahfebmlaaDoor.fnRolled

namespace Go.Proofs.YtkplhiahfebmlaaDoor
open Go
theorem fnRolled_holds : Rows.FnRolledCardSaid :=
  Claim7.holds_tied_plain_at .later [] [.sentinel, .sentinel, .sentinel, .sentinel, .sentinel, .sentinel, .sentinel] true (true, "9bc0da8d520b9693c1a8712bd9396e4423562277a24b2e620eca603c48470675") true
    fnRolled.row_holds (fun _ h => by cases h) (by kernel_rfl) (fun _ h => by cases h) fnRolled_row_tie rfl ⟨rfl, rfl⟩ (by kernel_rfl) rfl
    (fun f fn hf hfn => by
      obtain rfl : f = 3 := Option.some.inj ((show Tryd.prog.funcNamed "loop.example/g00040/laws.FnRolled" = some 3 by kernel_rfl).symm.trans hf) |>.symm
      obtain rfl : fn = Tryd.f3 := (Option.some.inj (Tryd.func3.symm.trans hfn)).symm
      exact ⟨by kernel_rfl, fun j t ht => by
        rw [Tryd.params3] at ht
        have hm : t ∈ [22] := by simpa using Array.mem_of_getElem? ht
        have hall : ([22].all fun u => !Tryd.prog.wantsStandIn u) = true := by kernel_rfl
        exact (show Tryd.prog.wantsStandIn t = false by simpa using List.all_eq_true.1 hall t hm)⟩)
    (by kernel_rfl)
#print axioms fnRolled_holds
end Go.Proofs.YtkplhiahfebmlaaDoor
