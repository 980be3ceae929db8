/- What lies under an account, in the model. -/
import Derived.Test.YtkplhiahfebmlaaDoorUn
import Derived.Test.YtkplhiahfebmlaaDoorSl
namespace Go.Proofs.YtkplhiahfebmlaaDoor
open Go.ChangeShapes Go.WideShapes Go.ChangeAt Go.RowKit
set_option linter.unusedVariables false
set_option linter.unusedSimpArgs false

set_option maxRecDepth 20000 in
set_option maxHeartbeats 4000000 in
theorem specUnder_any (ad : Option Addr) (len cap : Nat) (c : Nat → C3) (x : Int) (w : World) (hl : (len : Int) ≤ 1048576) (hc : ∀ j, (c j).code.size ≤ maxLen) (hr : CR w ad len c) :
    Calls Tryd.prog 26 #[.slice ad len cap, .int .i64 x] w (NewI (um len c x) (ints x.toNat (um len c x)) w) := by
  have HL : Hid (∀ j, (c j).code.size ≤ maxLen) := hc
  have HR1 : Hid (CR (w.alloc (.cells #[] 3 (0, 0))) ad len c) := hr.alloc _
  have HV1 : Hid ((w.alloc (.cells #[] 3 (0, 0))).ownsRow w.heap.size 3 1 (.slice (some ⟨w.heap.size, 0, none⟩) 0 0) 0 []) := World.ownsRow_made w #[] 0 (Nat.le_refl _) (Nat.zero_le _) rfl
  have HY1 : Hid (Below w.heap.size w (w.alloc (.cells #[] 3 (0, 0)))) := (Below.refl _ _).alloc (Nat.le_refl _) _
  have HR0 : Hid (CR w ad len c) := hr
  clear hr hc
  cases hv : chartB len c with
  | false =>
    have hm : um len c x = 0 := um_out (by
      have : tn len c = 0 := by unfold tn; rw [hv]; rfl
      rw [this]; omega)
    rw [hm]
    go_enter Tryd.func26, Tryd.ntmps26
    go_wp2_with (go_at_call 18; refine (specChartOk_eq _ _ _ c _ hl HL.out HR1.out hv).mono ?_; rintro e w2 ⟨rfl, hY2⟩; have HV2 : Hid (w2.ownsRow w.heap.size 3 1 (.slice (some ⟨w.heap.size, 0, none⟩) 0 0) 0 []) := row_block HV1.out (fun g hg => hY2.block g (HV1.out.lt g hg).2); have HY2 : Hid (Below w.heap.size w w2) := bel_on HY1.out hY2; clear hY2)
    go_returns
    exact ⟨_, _, rfl, HV2.out, HY2.out⟩
  | true =>
  have hq := chartB_iff.1 hv
  have htn : tn len c = len := by unfold tn; rw [if_pos hv]
  have h120 : len ≤ 120 := hq.2.1
  have HRT : Hid (RightTo c len) := hq.2.2
  clear hq
  cases hin : inB x 0 ((len : Int) - 1) with
  | false =>
    have hm : um len c x = 0 := um_out (by
      rw [htn]
      intro q
      rw [inB_t q.1 (by omega)] at hin; cases hin)
    rw [hm]
    clear htn hm
    go_enter Tryd.func26, Tryd.ntmps26
    go_wp2_with (first
      | (go_at_call 18; refine (specChartOk_eq _ _ _ c _ hl HL.out HR1.out hv).mono ?_; rintro e w2 ⟨rfl, hY2⟩; have HV2 : Hid (w2.ownsRow w.heap.size 3 1 (.slice (some ⟨w.heap.size, 0, none⟩) 0 0) 0 []) := row_block HV1.out (fun g hg => hY2.block g (HV1.out.lt g hg).2); have HY2 : Hid (Below w.heap.size w w2) := bel_on HY1.out hY2; clear hY2)
      | (go_at_call 46; refine (l1In_any _ _ _ _).mono ?_; rintro e w3 ⟨rfl, ew⟩; replace ew := ew.symm; subst ew))
    go_returns
    exact ⟨_, _, rfl, HV2.out, HY2.out⟩
  | true =>
  have hx := inB_iff.1 hin
  obtain ⟨a, rfl⟩ : ∃ a : Nat, x = (a : Int) := ⟨x.toNat, by omega⟩
  have han : a < len := by omega
  have hend : IsEnd (par c) (tn len c) a (a + um len c (a : Int)) := um_in (by omega)
  rw [htn] at hend
  obtain ⟨m, hm⟩ : ∃ m, um len c (a : Int) = m := ⟨_, rfl⟩
  rw [hm] at hend ⊢
  rw [show (a : Int).toNat = a by omega]
  have HEnd : Hid (IsEnd (par c) len a (a + m)) := hend
  have hE1 := hend.2.1
  have HLo : Hid (Low (par c) len) := HRT.out.low
  obtain ⟨i0, hi, hz0, hz1, hz2⟩ := info3
  clear htn hm hend hx
  go_enter Tryd.func26, Tryd.ntmps26
  go_wp2_with (first
    | (go_at_call 18; refine (specChartOk_eq _ _ _ c _ hl HL.out HR1.out hv).mono ?_; rintro e w2 ⟨rfl, hY2⟩; have HV2 : Hid (w2.ownsRow w.heap.size 3 1 (.slice (some ⟨w.heap.size, 0, none⟩) 0 0) 0 []) := row_block HV1.out (fun g hg => hY2.block g (HV1.out.lt g hg).2); have HY2 : Hid (Below w.heap.size w w2) := bel_on HY1.out hY2; clear hY2)
    | (go_at_call 46; refine (l1In_any _ _ _ _).mono ?_; rintro e w3 ⟨rfl, ew⟩; replace ew := ew.symm; subst ew))
  go_loopw [5, 6] (fun u i wr => ∃ (k mm : Nat) (adv : Option Addr) (capv : Nat), k ≤ len ∧ i = .int .i64 (k : Int) ∧ u = .slice adv mm capv ∧ mm = min k (a + m) - a ∧ wr.ownsRow w.heap.size 3 1 (.slice adv mm capv) mm (ints a mm) ∧ Below w.heap.size w wr) (fun u i _ => len - (intOf i).toNat)
  case atStart => exact ⟨0, 0, _, _, Nat.zero_le _, rfl, rfl, by omega, HV2.out, HY2.out⟩
  case round =>
    obtain ⟨k, mm, adv, capv, hk, rfl, rfl, hmm, hO, hB⟩ := hrel
    by_cases hlt : k < len
    · have hsz := hB.size
      have HO : Hid (wr.ownsRow w.heap.size 3 1 (.slice adv mm capv) mm (ints a mm)) := hO
      have HB : Hid (Below w.heap.size w wr) := hB
      have HRk : Hid (CR wr ad len c) := HR0.out.below hB
      obtain ⟨kb, off, rfl, hkb⟩ := HRk.out.addr (by omega)
      have hmm2 : mm ≤ 120 := by omega
      have HMM : Hid (mm = min k (a + m) - a) := hmm
      clear hO hB hmm
      go_wp2
      go_loop [7] (fun u => ∃ (s : Nat) (z : Int), u = .int .i64 z ∧ z = (s : Int) - 1 ∧ s ≤ k + 1 ∧ upW (par c) (atP (a : Int)) s = upW (par c) (atP (a : Int)) (k + 1)) (fun u => (intOf u + 1).toNat)
      case atStart => exact ⟨k + 1, _, rfl, by omega, Nat.le_refl _, rfl⟩
      case round =>
        obtain ⟨s, z, rfl, hz, hs, hup⟩ := hrel
        cases s with
        | zero =>
          obtain rfl : z = -1 := by omega
          clear hz
          have hno : ¬ Anc (par c) a k := fun q => q (hup ▸ upW_top (by cases e : atP (a : Int) 0 with | false => rfl | true => have := atP_iff.1 e; omega))
          have hnot : ¬ (a ≤ k ∧ k < a + m) := fun q => hno ((HEnd.out.2.2 k hlt).2 q)
          have e1 : ((-1 : Int) == (a : Int)) = false := eq_f (by omega)
          have HMN : Hid (mm = min (k + 1) (a + m) - a) := by have := HMM.out; show mm = _; omega
          clear hup hno hnot
          go_wp2
          go_roundw
          case rel => exact ⟨k + 1, mm, adv, capv, by omega, by go_num, rfl, HMN.out, HO.out, HB.out⟩
          case measure => simp [intOf]; omega
        | succ t =>
          obtain rfl : z = (t : Int) := by omega
          clear hz
          obtain ⟨_, x2, _⟩ := HRk.out.cell (by omega : t < len)
          have htl : (t : Int) < (len : Int) := by omega
          by_cases hta : t = a
          · subst hta
            have hyes : Anc (par c) t k := by unfold Anc; rw [← hup, upW_hit (atP_iff.2 (by omega))]; simp
            have hin2 := (HEnd.out.2.2 k hlt).1 hyes
            have hmk : mm = k - t := by have := HMM.out; omega
            have HMN : Hid (mm + 1 = min (k + 1) (t + m) - t) := by show mm + 1 = _; omega
            have HK : Hid (t + mm = k) := by show t + mm = k; omega
            have e0 := eq_t (rfl : (t : Int) = (t : Int))
            clear hup hyes hin2 hmk
            go_wp2_with (at_builtin; refine wpList_append_own_at _ rfl _ _ 25 rfl w.heap.size 3 i0 (.int .i64 0) 1 8 Tryd.underlying25 hi hz0 hz1 hz2 rfl (by decide) (.slice adv mm capv) mm (ints t mm) rfl (HO.out.alloc _) ⟨wr.heap.size, 0, none⟩ 1 1 [.int .i64 (k : Int)] rfl rfl (cell_one_at rfl) (fun u hu => by simp at hu; subst hu; rfl) (by unfold maxLen; omega) (by omega) (by simp; omega) ?_; intro v' w4 hown4 hgrow4 _ hloc4; obtain ⟨ad4, cap4, rfl⟩ := row_form hown4; have HO4 : Hid (w4.ownsRow w.heap.size 3 1 (.slice ad4 (mm + 1) cap4) (mm + 1) (ints t mm ++ [.int .i64 (k : Int)])) := hown4; have HB4 : Hid (Below w.heap.size w w4) := (HB.out.alloc hsz _).grown hgrow4 (by simp; omega) (fun g hg => (HO.out.lt g hg).1); clear hown4 hgrow4 hloc4)
            go_roundw
            case rel => exact ⟨k + 1, mm + 1, ad4, cap4, by omega, by go_num, rfl, HMN.out, by rw [ints_succ, HK.out]; exact HO4.out, HB4.out⟩
            case measure => simp [intOf]; omega
          · have e1 : ((t : Int) == (a : Int)) = false := eq_f (by omega)
            have hlo := HLo.out t (by omega)
            have hup2 : upW (par c) (atP (a : Int)) (par c t + 1).toNat = upW (par c) (atP (a : Int)) (k + 1) := by
              rw [← hup]
              exact (upW_step HLo.out (by omega) (by cases e : atP (a : Int) (t + 1) with | false => rfl | true => have := atP_iff.1 e; omega)).symm
            have hpt : (c t).places = par c t := rfl
            rw [hpt] at x2
            generalize par c t = y at x2 hlo hup2
            clear hup
            go_wp2
            go_round
            case rel => exact ⟨(y + 1).toNat, y, rfl, by omega, by omega, hup2⟩
            case measure => simp [intOf]; omega
    · obtain rfl : k = len := by omega
      have hmm2 : mm = m := by omega
      subst hmm2
      have HO : Hid (wr.ownsRow w.heap.size 3 1 (.slice adv mm capv) mm (ints a mm)) := hO
      have HB : Hid (Below w.heap.size w wr) := hB
      clear hO hB hmm
      go_wp2
      go_returns
      exact ⟨_, _, rfl, HO.out, HB.out⟩

end Go.Proofs.YtkplhiahfebmlaaDoor
