/- What one may do: the model's answer. -/
import Derived.Test.YtdhpadcihlmhiaaQg
namespace Go.Proofs.Ytdhpadcihlmhiaa
open Go.ChangeShapes Go.WideShapes Go.ChangeAt Go.RowKit
set_option linter.unusedVariables false
set_option linter.unusedSimpArgs false

open Classical in
theorem gv_not {c : Nat → PE} {u j : Nat} {s : ByteArray} {a : Int} (h : ¬ (forP c u j ∧ hasP (c j) s a)) : gvB c u s a j = false := by
  by_cases g : forP c u j
  · rw [gvB_t g]; exact hasB_f fun q => h ⟨g, q⟩
  · exact gvB_f g
theorem gv_yes {c : Nat → PE} {u j : Nat} {s : ByteArray} {a : Int} (h : forP c u j) (g : hasP (c j) s a) : gvB c u s a j = true := by rw [gvB_t h]; exact hasB_t g

set_option maxRecDepth 20000 in
set_option maxHeartbeats 8000000 in
theorem specMay_any (ad : Option Addr) (len cap : Nat) (c : Nat → PE) (who : Int) (s : ByteArray) (a : Int) (w : World) (h : (len : Int) ≤ 1048576) (hs : PSz c) (hr : PEr w ad len c) :
    Calls Try.prog 10 #[.slice ad len cap, .int .i64 who, .string s, .int .i64 a] w fun e w' => e = .returned (.bool (mayB len c who s a)) ∧ Below w.heap.size w w' := by
  have HR : Hid (PEr w ad len c) := hr
  have HC := hid (specPeople_any ad len cap c w h hs hr)
  have hwr : IntKind.i64.wrap ((len : Int) - 1) = (len : Int) - 1 := IntWalk.i64_in _ ⟨by omega, by omega⟩
  clear hr hs
  cases hb : peB len c
  · have HV : Hid (mayB len c who s a = false) := mayB_f fun q => by rw [peB_t q.1] at hb; cases hb
    rw [hb] at HC
    clear hb
    go_enter Try.func10, Try.ntmps10
    go_wp2_with (go_at_call 6; go_loud (refine HC.out.mono ?_; rintro e w1 ⟨rfl, b1⟩; have HB1 := hid b1; clear b1 HC))
    go_returns
    exact ⟨ret_bool HV.out.symm, HB1.out⟩
  have HPE : Hid (PeP len c) := peB_of hb
  rw [hb] at HC
  clear hb
  by_cases hin : 0 ≤ who ∧ who ≤ (len : Int) - 1
  rotate_left
  · have HV : Hid (mayB len c who s a = false) := mayB_f (by rintro ⟨_, u, e, hu, _⟩; exact hin ⟨by omega, by omega⟩)
    have HIN : Hid (inB who 0 ((len : Int) - 1) = false) := decide_eq_false hin
    clear hin
    go_enter Try.func10, Try.ntmps10
    go_wp2_with (first
      | (go_at_call 6; go_loud (refine HC.out.mono ?_; rintro e w1 ⟨rfl, b1⟩; have HB1 := hid b1; clear b1 HC))
      | (go_at_call 15; refine (l1In_eq HIN.out).mono ?_; rintro e w2 ⟨rfl, ew⟩; replace ew := ew.symm; subst ew))
    go_returns
    exact ⟨ret_bool HV.out.symm, HB1.out⟩
  have HIN : Hid (inB who 0 ((len : Int) - 1) = true) := decide_eq_true hin
  obtain ⟨u, rfl⟩ : ∃ u : Nat, who = (u : Int) := ⟨who.toNat, by omega⟩
  have hu : u < len := by omega
  have hu2 : (u : Int) < (len : Int) := by omega
  clear hin
  obtain ⟨kb, off, ea, hkb⟩ := HR.out.addr (by omega)
  subst ea
  obtain ⟨nu, hnu⟩ : ∃ x, (c u).nm = x := ⟨_, rfl⟩
  have HNU : Hid ((c u).nm = nu) := hnu
  clear hnu
  cases haw : (c u).aw
  rotate_left
  · have HV : Hid (mayB len c (u : Int) s a = false) := mayB_f (by rintro ⟨_, u', e, _, q, _⟩; obtain rfl : u = u' := by omega
                                                                   rw [haw] at q; cases q)
    have HAW := hid haw
    clear haw
    go_enter Try.func10, Try.ntmps10
    go_wp2_with (first
      | (go_at_call 6; go_loud (refine HC.out.mono ?_; rintro e w1 ⟨rfl, b1⟩; obtain ⟨_, _, _, _, _, _, _, a4, _⟩ := (HR.out.below b1).cell hu; rw [HAW.out] at a4; have HB1 := hid b1; clear b1 HC))
      | (go_at_call 15; refine (l1In_eq HIN.out).mono ?_; rintro e w2 ⟨rfl, ew⟩; replace ew := ew.symm; subst ew))
    go_returns
    exact ⟨ret_bool HV.out.symm, HB1.out⟩
  have HAW := hid haw
  clear haw
  go_enter Try.func10, Try.ntmps10
  go_wp2_with (first
    | (go_at_call 6; go_loud (refine HC.out.mono ?_; rintro e w1 ⟨rfl, b1⟩; obtain ⟨_, _, _, _, _, _, _, a4, _⟩ := (HR.out.below b1).cell hu; rw [HAW.out] at a4; have HB1 := hid b1; clear b1 HC))
    | (go_at_call 15; refine (l1In_eq HIN.out).mono ?_; rintro e w2 ⟨rfl, ew⟩; replace ew := ew.symm; subst ew))
  clear a4
  go_loopw [9] (fun i wr => ∃ (k : Nat), k ≤ len ∧ i = .int .i64 (k : Int) ∧ Hid ((∀ j, j < k → gvB c u s a j = false) ∧ Below w.heap.size w wr)) (fun i _ => len - (intOf i).toNat)
  case atStart => exact ⟨0, Nat.zero_le _, rfl, fun j hj => by omega, HB1.out⟩
  case round =>
    obtain ⟨k, hk, rfl, HH⟩ := hrel
    obtain ⟨wo, rfl⟩ : ∃ x, x = wr := ⟨wr, rfl⟩
    by_cases hlt : k < len
    · have hlt2 : (k : Int) < (len : Int) := by omega
      obtain ⟨ra, rc, hrc, c0, c1, c2, c3, c4, r5⟩ := (HR.out.below HH.out.2).cell hlt
      obtain ⟨_, _, _, u0, _⟩ := (HR.out.below HH.out.2).cell hu
      rw [HNU.out] at u0
      have HT : Hid (STR wo ra (c k).rn (c k).rz) := r5
      have hrn : ((c k).rn : Int) ≤ 1048576 := by have := (HPE.out.2.1 k hlt).2.2.1; omega
      obtain ⟨r, hr⟩ : ∃ r, c k = r := ⟨_, rfl⟩
      have HX : Hid (c k = r) := hr
      rw [hr] at c0 c1 c2 c3 c4 hrc hrn
      replace HT : Hid (STR wo ra r.rn r.rz) := by have := HT.out; rw [hr] at this; exact this
      obtain ⟨nm, rn, rz, lim, fr, aw⟩ := r
      simp only at c0 c1 c2 c3 c4 hrc hrn
      clear hr r5
      go_wp2
      have bo : Below wo.heap.size wo (wo.alloc (.cells #[.string nm, .slice ra rn rc, .int .i64 lim, .string fr, .bool aw] 35 (0, 0))) := (Below.refl _ _).alloc (Nat.le_refl _) _
      have HBo : Hid (Below w.heap.size w (wo.alloc (.cells #[.string nm, .slice ra rn rc, .int .i64 lim, .string fr, .bool aw] 35 (0, 0)))) := bel_on HH.out.2 bo
      have XP : CB (wo.alloc (.cells #[.string nm, .slice ra rn rc, .int .i64 lim, .string fr, .bool aw] 35 (0, 0))) wo.heap.size #[.string nm, .slice ra rn rc, .int .i64 lim, .string fr, .bool aw] 35 := CB.new _ _
      have HT1 := hid (HT.out.below bo)
      have n0 := keep_cell bo u0
      clear bo c0 c1 c2 c3 c4 u0
      generalize (wo.alloc (.cells #[.string nm, .slice ra rn rc, .int .i64 lim, .string fr, .bool aw] 35 (0, 0))) = wp at XP HT1 HBo n0 ⊢
      have HTp : Hid (∀ q : Nat, STR (wp.drewN q) ra rn rz) := fun q => HT1.out.below (bd_N (Below.refl _ _) q)
      have k1 : wp.cell? ⟨wo.heap.size, 1, none⟩ = some (.slice ra rn rc) := (XP.cell 1).trans rfl
      have k2 : wp.cell? ⟨wo.heap.size, 2, none⟩ = some (.int .i64 lim) := (XP.cell 2).trans rfl
      have k3 : wp.cell? ⟨wo.heap.size, 3, none⟩ = some (.string fr) := (XP.cell 3).trans rfl
      have k4 : wp.cell? ⟨wo.heap.size, 4, none⟩ = some (.bool aw) := (XP.cell 4).trans rfl
      clear XP HT1
      cases hhs : hasS rn rz s
      · have HHS := hid hhs
        have HG : Hid (gvB c u s a k = false) := gv_not fun q => by have q2 := q.2.2; rw [HX.out] at q2; dsimp only at q2; rw [hhs] at q2; cases q2
        have HF : Hid (∀ j, j < k + 1 → gvB c u s a j = false) := up_step HH.out.1 HG.out
        clear hhs
        go_quiet (first | (go_at_call 19; exact Calls.quiet_of_same (l10Has_eq _ _ _ rz s _ _ hrn (HTp.out _) HHS.out)))
        go_wp2
        go_roundw
        case rel => exact ⟨k + 1, by omega, by go_num, HF.out, bd_N HBo.out _⟩
        case measure => simp [intOf]; omega
      have HHS := hid hhs
      by_cases hlim : a ≤ lim
      rotate_left
      · have HG : Hid (gvB c u s a k = false) := gv_not fun q => by have q2 := q.2.1; rw [HX.out] at q2; exact hlim q2
        have HF : Hid (∀ j, j < k + 1 → gvB c u s a j = false) := up_step HH.out.1 HG.out
        clear hhs
        go_quiet (first | (go_at_call 19; exact Calls.quiet_of_same (l10Has_eq _ _ _ rz s _ _ hrn (HTp.out _) HHS.out)))
        go_wp2
        go_roundw
        case rel => exact ⟨k + 1, by omega, by go_num, HF.out, bd_N HBo.out _⟩
        case measure => simp [intOf]; omega
      have HP : Hid (hasP (c k) s a) := by rw [HX.out]; exact ⟨hlim, hhs⟩
      by_cases hku : k = u
      · have eku : ((k : Int) == (u : Int)) = true := by simp [hku]
        have HG : Hid (gvB c u s a k = true) := gv_yes (.inl hku) HP.out
        have HV : Hid (mayB len c (u : Int) s a = true) := mayB_t ⟨HPE.out, u, rfl, hu, HAW.out, k, hlt, HG.out⟩
        clear hhs hku
        go_quiet (first | (go_at_call 19; exact Calls.quiet_of_same (l10Has_eq _ _ _ rz s _ _ hrn (HTp.out _) HHS.out)))
        go_wp2
        go_returns
        exact ⟨ret_bool HV.out.symm, bd_N HBo.out _⟩
      have eku : ((k : Int) == (u : Int)) = false := by simp; omega
      cases haw : aw
      · subst haw
        have HG : Hid (gvB c u s a k = false) := gv_not fun q => by rcases q.1 with q | q; (exact hku q); (have q2 := q.1; rw [HX.out] at q2; cases q2)
        have HF : Hid (∀ j, j < k + 1 → gvB c u s a j = false) := up_step HH.out.1 HG.out
        clear hhs hku
        go_quiet (first | (go_at_call 19; exact Calls.quiet_of_same (l10Has_eq _ _ _ rz s _ _ hrn (HTp.out _) HHS.out)))
        go_wp2
        go_roundw
        case rel => exact ⟨k + 1, by omega, by go_num, HF.out, bd_N HBo.out _⟩
        case measure => simp [intOf]; omega
      subst haw
      by_cases hfr : fr = nu
      · have e1 := lists_t hfr
        have HG : Hid (gvB c u s a k = true) := gv_yes (.inr ⟨by rw [HX.out], by rw [HX.out, HNU.out]; exact hfr⟩) HP.out
        have HV : Hid (mayB len c (u : Int) s a = true) := mayB_t ⟨HPE.out, u, rfl, hu, HAW.out, k, hlt, HG.out⟩
        clear hhs hku hfr
        go_quiet (first | (go_at_call 19; exact Calls.quiet_of_same (l10Has_eq _ _ _ rz s _ _ hrn (HTp.out _) HHS.out)))
        go_wp2
        go_returns
        exact ⟨ret_bool HV.out.symm, bd_N HBo.out _⟩
      have e1 := lists_f hfr
      have HG : Hid (gvB c u s a k = false) := gv_not fun q => by rcases q.1 with q | q; (exact hku q); (have q2 := q.2; rw [HX.out, HNU.out] at q2; exact hfr q2)
      have HF : Hid (∀ j, j < k + 1 → gvB c u s a j = false) := up_step HH.out.1 HG.out
      clear hhs hku hfr
      go_quiet (first | (go_at_call 19; exact Calls.quiet_of_same (l10Has_eq _ _ _ rz s _ _ hrn (HTp.out _) HHS.out)))
      go_wp2
      go_roundw
      case rel => exact ⟨k + 1, by omega, by go_num, HF.out, bd_N HBo.out _⟩
      case measure => simp [intOf]; omega
    · obtain rfl : k = len := by omega
      have lkk : ¬ (k : Int) < (k : Int) := by omega
      have HV : Hid (mayB k c (u : Int) s a = false) := mayB_f (by rintro ⟨_, u', e, _, _, j, hj, g⟩; obtain rfl : u = u' := by omega
                                                                   rw [HH.out.1 j hj] at g; cases g)
      go_wp2
      go_returns
      exact ⟨ret_bool HV.out.symm, HH.out.2⟩
end Go.Proofs.Ytdhpadcihlmhiaa
