/- What Roll tells, in the model. -/
import Derived.Test.YtkplhiahfebmlaaDoorRo
import Derived.Test.YtkplhiahfebmlaaDoorUs
namespace Go.Proofs.YtkplhiahfebmlaaDoor
open Go.ChangeShapes Go.WideShapes Go.ChangeAt Go.RowKit
set_option linter.unusedVariables false
set_option linter.unusedSimpArgs false

set_option maxRecDepth 20000 in
set_option maxHeartbeats 4000000 in
theorem specRoll_any (ad : Option Addr) (len cap : Nat) (c : Nat → C3) (ai : Option Addr) (leni capi : Nat) (z : Nat → Int) (w : World) (hl : (len : Int) ≤ 1048576) (hc : ∀ j, (c j).code.size ≤ maxLen) (hr : CR w ad len c) (hli : (leni : Int) ≤ 1048576) (hz : IR w ai leni z) :
    Calls Tryd.prog 14 #[.slice ad len cap, .slice ai leni capi] w (NewI (rm len c leni z) (rollL len c z (rm len c leni z)) w) := by
  have HL : Hid (∀ j, (c j).code.size ≤ maxLen) := hc
  have HR1 : Hid (CR (w.alloc (.cells #[] 3 (0, 0))) ad len c) := hr.alloc _
  have HV1 : Hid ((w.alloc (.cells #[] 3 (0, 0))).ownsRow w.heap.size 3 1 (.slice (some ⟨w.heap.size, 0, none⟩) 0 0) 0 []) := World.ownsRow_made w #[] 0 (Nat.le_refl _) (Nat.zero_le _) rfl
  have HY1 : Hid (Below w.heap.size w (w.alloc (.cells #[] 3 (0, 0)))) := (Below.refl _ _).alloc (Nat.le_refl _) _
  have HR0 : Hid (CR w ad len c) := hr
  have HZ : Hid (IR w ai leni z) := hz
  clear hr hc hz
  cases hv : chartB len c with
  | false =>
    have hm : rm len c leni z = 0 := by
      have : tn len c = 0 := by unfold tn; rw [hv]; rfl
      unfold rm; rw [this]; split <;> rfl
    rw [hm]
    go_enter Tryd.func14, Tryd.ntmps14
    go_wp2_with (go_at_call 18; refine (specChartOk_eq _ _ _ c _ hl HL.out HR1.out hv).mono ?_; rintro e w2 ⟨rfl, hY2⟩; have HV2 : Hid (w2.ownsRow w.heap.size 3 1 (.slice (some ⟨w.heap.size, 0, none⟩) 0 0) 0 []) := row_below HV1.out hY2; have HY2 : Hid (Below w.heap.size w w2) := bel_on HY1.out hY2; clear hY2)
    go_returns
    exact ⟨_, _, rfl, HV2.out, HY2.out⟩
  | true =>
  have hq := chartB_iff.1 hv
  have htn : tn len c = len := by unfold tn; rw [if_pos hv]
  have h120 : len ≤ 120 := hq.2.1
  clear hq
  by_cases hlen : leni = len
  case neg =>
    have hm : rm len c leni z = 0 := by unfold rm; rw [if_neg (by rw [htn]; exact fun q => hlen q.1)]
    rw [hm]
    have e1 : ((leni : Int) == (len : Int)) = false := eq_f (by omega)
    have e2 : ((leni : Int) != (len : Int)) = true := by simp [bne, e1]
    have e5 : (leni == len) = false := by simpa using hlen
    have e6 : decide (leni = len) = false := decide_eq_false hlen
    clear htn hm
    go_enter Tryd.func14, Tryd.ntmps14
    go_wp2_with (go_at_call 18; refine (specChartOk_eq _ _ _ c _ hl HL.out HR1.out hv).mono ?_; rintro e w2 ⟨rfl, hY2⟩; have HV2 : Hid (w2.ownsRow w.heap.size 3 1 (.slice (some ⟨w.heap.size, 0, none⟩) 0 0) 0 []) := row_below HV1.out hY2; have HY2 : Hid (Below w.heap.size w w2) := bel_on HY1.out hY2; clear hY2)
    go_returns
    exact ⟨_, _, rfl, HV2.out, HY2.out⟩
  subst hlen
  obtain ⟨i0, hi, hz0, hz1, hz2⟩ := info3
  have HTN : Hid (tn leni c = leni) := htn
  obtain ⟨M, hM⟩ : ∃ M, rm leni c leni z = M := ⟨_, rfl⟩
  rw [hM]
  have HMM : Hid (rm leni c leni z = M) := hM
  clear htn hM
  go_enter Tryd.func14, Tryd.ntmps14
  go_wp2_with (go_at_call 18; refine (specChartOk_eq _ _ _ c _ hl HL.out HR1.out hv).mono ?_; rintro e w2 ⟨rfl, hY2⟩; have HV2 : Hid (w2.ownsRow w.heap.size 3 1 (.slice (some ⟨w.heap.size, 0, none⟩) 0 0) 0 []) := row_below HV1.out hY2; have HY2 : Hid (Below w.heap.size w w2) := bel_on HY1.out hY2; clear hY2)
  go_loop [6] (fun i => ∃ (k : Nat), k ≤ leni ∧ i = .int .i64 (k : Int) ∧ TotP k z) (fun i => leni - (intOf i).toNat)
  case atStart => exact ⟨0, Nat.zero_le _, rfl, fun j hj => by omega⟩
  case round =>
    obtain ⟨k, hk, rfl, hT⟩ := hrel
    have HT : Hid (TotP k z) := hT
    clear hT
    by_cases hlt : k < leni
    · obtain ⟨kb, off, rfl, _⟩ := HZ.out.addr (by omega)
      have c1 := (HZ.out.below HY2.out).cell hlt
      have hlt2 : (k : Int) < (leni : Int) := by omega
      cases hb : inB (z k) (-1000000000000000) 1000000000000000
      · have HF : Hid (M = 0) := by
          show M = 0
          rw [← HMM.out]; unfold rm; rw [if_neg (fun q => by rw [totB_f hlt hb] at q; exact absurd q.2 (by simp))]
        generalize z k = y at c1 hb
        go_wp2_with (go_at_call 46; refine (l1In_any _ _ _ _).mono ?_; rintro e w' ⟨rfl, ew⟩; replace ew := ew.symm; subst ew)
        go_returns
        rw [HF.out]
        exact ⟨_, _, rfl, HV2.out, HY2.out⟩
      · have HT2 : Hid (TotP (k + 1) z) := fun j hj => by
          by_cases e : j = k
          · subst e; exact hb
          · exact HT.out j (by omega)
        generalize z k = y at c1 hb
        go_wp2_with (go_at_call 46; refine (l1In_any _ _ _ _).mono ?_; rintro e w' ⟨rfl, ew⟩; replace ew := ew.symm; subst ew)
        go_round
        case rel => exact ⟨k + 1, by omega, by go_num, HT2.out⟩
        case measure => simp [intOf]; omega
    · obtain rfl : k = leni := by omega
      have HF : Hid (M = k) := by
        show M = k
        rw [← HMM.out]; unfold rm; rw [if_pos ⟨HTN.out.symm, totB_t HT.out⟩]; exact HTN.out
      have hMk : M = k := HF.out
      subst hMk
      clear hlt
      go_wp2
      go_loopw [5, 7] (fun u i wr => ∃ (k : Nat) (adv : Option Addr) (capv : Nat), k ≤ M ∧ i = .int .i64 (k : Int) ∧ u = .slice adv k capv ∧ wr.ownsRow w.heap.size 3 1 (.slice adv k capv) k (rollL M c z k) ∧ Below w.heap.size w wr) (fun u i _ => M - (intOf i).toNat)
      case atStart => exact ⟨0, _, _, Nat.zero_le _, rfl, rfl, HV2.out, HY2.out⟩
      case round =>
        obtain ⟨k, adv, capv, hk, rfl, rfl, hO, hB⟩ := hrel
        by_cases hlt : k < M
        · have hsz := hB.size
          have HO : Hid (wr.ownsRow w.heap.size 3 1 (.slice adv k capv) k (rollL M c z k)) := hO
          have HB : Hid (Below w.heap.size w wr) := hB
          have HRk : Hid (CR wr ad M c) := HR0.out.below hB
          obtain ⟨kb, off, rfl, _⟩ := HZ.out.addr (by omega)
          have hend := um_in (len := M) (c := c) (a := k) (by rw [HTN.out]; exact hlt)
          have HE1 : Hid (k + um M c (k : Int) ≤ M) := by have := hend.2.1; rw [HTN.out] at this; exact this
          obtain ⟨m, hm⟩ : ∃ m, um M c (k : Int) = m := ⟨_, rfl⟩
          have HU : Hid (Calls Tryd.prog 26 #[.slice ad M cap, .int .i64 (k : Int)] wr (NewI m (ints k m) wr)) := by
            have := specUnder_any ad M cap c (k : Int) wr hl HL.out HRk.out
            rw [hm, show (k : Int).toNat = k by omega] at this
            exact this
          have HRV : Hid (rv M c z k = sm z (k + m) - sm z k) := by show rv M c z k = _; unfold rv; rw [hm]
          have hkm : k + m ≤ M := by have := HE1.out; omega
          clear hO hB hend hm
          go_wp2_with (go_at_call 26; refine HU.out.mono ?_; rintro e w3 ⟨adu, capu, rfl, o3, b3⟩; have HI3 : Hid (IR w3 adu m (fun j => ((k + j : Nat) : Int))) := row_IR o3 (fun j hj => ints_get _ _ _ hj); have HO3 : Hid (w3.ownsRow w.heap.size 3 1 (.slice adv k capv) k (rollL M c z k)) := row_below HO.out b3; have HB3 : Hid (Below w.heap.size w w3) := bel_on HB.out b3; clear o3 b3)
          go_loop [8, 10] (fun u v => ∃ (j : Nat), j ≤ m ∧ v = .int .i64 (j : Int) ∧ u = .int .i64 (sm z (k + j) - sm z k)) (fun u v => m - (intOf v).toNat)
          case atStart => exact ⟨0, Nat.zero_le _, rfl, by simp⟩
          case round =>
            obtain ⟨j, hj, rfl, rfl⟩ := hrel
            by_cases hjm : j < m
            · obtain ⟨ub, uo, rfl, _⟩ := HI3.out.addr (by omega)
              have u1 := HI3.out.cell hjm
              have l1 := (HZ.out.below HB3.out).cell (by omega : k + j < M)
              have hjm2 : (j : Int) < (m : Int) := by omega
              have hkj2 : ((k + j : Nat) : Int) < (M : Int) := by omega
              have hkj0 : (0 : Int) ≤ ((k + j : Nat) : Int) := by omega
              have hbd := sm_small h120 HT.out.bound (a := k) (e := k + j + 1) (by omega) (by omega)
              have hbd2 := sm_small h120 HT.out.bound (a := k) (e := k + j) (by omega) (by omega)
              have hzb := HT.out.bound (k + j) (by omega)
              have hes : Hid (sm z (k + j) - sm z k + z (k + j) = sm z (k + (j + 1)) - sm z k) := by show _ = _; rw [show k + (j + 1) = k + j + 1 by omega, sm_succ]; omega
              obtain ⟨q, hq⟩ : ∃ q : Nat, k + j = q := ⟨_, rfl⟩
              have HQ : Hid (k + j = q) := hq
              rw [hq] at u1 l1 hkj2 hkj0 hbd hbd2 hzb hes ⊢
              generalize hS : sm z q - sm z k = Y at hes hbd2
              generalize hZ : z q = X at l1 hes hzb
              clear hbd hq
              go_wp2
              go_round
              case rel => exact ⟨j + 1, by omega, by go_num, by rw [← hes.out]⟩
              case measure => simp [intOf]; omega
            · obtain rfl : j = m := by omega
              obtain ⟨Y, hY⟩ : ∃ Y, sm z (k + j) - sm z k = Y := ⟨_, rfl⟩
              rw [hY]
              have HYY : Hid (rv M c z k = Y) := HRV.out.trans hY
              clear hY
              go_wp2_with (at_builtin; refine wpList_append_own_at _ rfl _ _ 25 rfl w.heap.size 3 i0 (.int .i64 0) 1 8 Tryd.underlying25 hi hz0 hz1 hz2 rfl (by decide) (.slice adv k capv) k (rollL M c z k) rfl (HO3.out.alloc _) ⟨w3.heap.size, 0, none⟩ 1 1 [.int .i64 Y] rfl rfl (cell_one_at rfl) (fun u hu => by simp at hu; subst hu; rfl) (by unfold maxLen; omega) (by omega) (by have := HB3.out.size; simp; omega) ?_; intro v' w4 hown4 hgrow4 _ hloc4; obtain ⟨ad4, cap4, rfl⟩ := row_form hown4; have HO4 : Hid (w4.ownsRow w.heap.size 3 1 (.slice ad4 (k + 1) cap4) (k + 1) (rollL M c z k ++ [.int .i64 Y])) := hown4; have HB4 : Hid (Below w.heap.size w w4) := (HB3.out.alloc HB3.out.size _).grown hgrow4 (by have := HB3.out.size; simp; omega) (fun g hg => (HO3.out.lt g hg).1); clear hown4 hgrow4 hloc4)
              go_roundw
              case rel => exact ⟨k + 1, ad4, cap4, by omega, by go_num, rfl, by rw [rollL_succ, HYY.out]; exact HO4.out, HB4.out⟩
              case measure => simp [intOf]; omega
        · obtain rfl : k = M := by omega
          have HO : Hid (wr.ownsRow w.heap.size 3 1 (.slice adv k capv) k (rollL k c z k)) := hO
          have HB : Hid (Below w.heap.size w wr) := hB
          clear hO hB
          go_wp2
          go_returns
          exact ⟨_, _, rfl, HO.out, HB.out⟩

end Go.Proofs.YtkplhiahfebmlaaDoor
