/- Plain: Net and all that is within are together the price; Net and all but reverse taxes are Gross; with all codes free both are the price. The law FnTaxWithin, given what the draw leaves. -/
import Derived.Test.YtbhghghkgojpgaaTx
namespace Go.Proofs.Ytbhghghkgojpgaa
set_option linter.unusedVariables false

def wsum (pt : Nat → P4) : Nat → Int
  | 0 => 0
  | k + 1 => wsum pt k + (if (pt k).kind = 3 then (pt k).tax else 0)
def asum (pt : Nat → P4) : Nat → Int
  | 0 => 0
  | k + 1 => asum pt k + (if (pt k).kind = 4 then 0 else (pt k).tax)

theorem net_same {p : Int} (hp : -100000000000 ≤ p ∧ p ≤ 100000000000) : mdV p 100000 (100000 + 0) 3 = p := by
  have h := (net_bd (p := p) (al := 0) (by omega) (by omega) hp).1
  obtain ⟨v, hv⟩ : ∃ v, dv (p * 100000) (100000 + 0) 3 = v := ⟨_, rfl⟩
  have n3 := near3 (p * 100000) (100000 + 0) (v * (100000 + 0)) (by omega) (by rw [hv])
  have e : mdV p 100000 (100000 + 0) 3 = v := by unfold mdV; rw [if_pos h]; exact hv
  rw [e]
  omega
theorem gr_sum (u : Nat → T5) (net : Int) (wi : Nat → Int) : ∀ k, grV u net wi k = net + asum (ptV u net wi) k
  | 0 => by simp [grV, asum]
  | k + 1 => by
    have e : grV u net wi (k + 1) = grV u net wi k + lvG (u k) (grV u net wi k) net (wi k) := rfl
    have e2 : (ptV u net wi k).kind = (u k).kind := rfl
    have e3 : (ptV u net wi k).tax = lvT (u k) (grV u net wi k) net (wi k) := rfl
    rw [e, asum, e2, e3]
    have ih := gr_sum u net wi k
    unfold lvG
    split <;> omega
theorem ws_sum (u : Nat → T5) (net : Int) (wi : Nat → Int) (h : ∀ k, (u k).kind ≠ 3 → wi k = 0) : ∀ k, wsum (ptV u net wi) k = Sh.sm wi k
  | 0 => rfl
  | k + 1 => by
    have e2 : (ptV u net wi k).kind = (u k).kind := rfl
    have e3 : (ptV u net wi k).tax = lvT (u k) (grV u net wi k) net (wi k) := rfl
    rw [wsum, e2, e3, Sh.sm_succ, ws_sum u net wi h k]
    by_cases g : (u k).kind = 3
    · rw [if_pos g]; unfold lvT; rw [if_pos g]
    · rw [if_neg g, h k g]
theorem ws_sumB (u : Nat → T5) (net : Int) (wi : Nat → Int) {m : Nat} (h : ∀ k, k < m → (u k).kind ≠ 3 → wi k = 0) : ∀ k, k ≤ m → wsum (ptV u net wi) k = Sh.sm wi k
  | 0, _ => rfl
  | k + 1, hk => by
    have e2 : (ptV u net wi k).kind = (u k).kind := rfl
    have e3 : (ptV u net wi k).tax = lvT (u k) (grV u net wi k) net (wi k) := rfl
    rw [wsum, e2, e3, Sh.sm_succ, ws_sumB u net wi h k (by omega)]
    by_cases g : (u k).kind = 3
    · rw [if_pos g]; unfold lvT; rw [if_pos g]
    · rw [if_neg g, h k (by omega) g]
theorem sm_zero {z : Nat → Int} (h : ∀ j, z j = 0) : ∀ n, Sh.sm z n = 0
  | 0 => rfl
  | n + 1 => by rw [Sh.sm_succ, sm_zero h n, h n]; rfl
/-- Net and all that is within are together the price. -/
theorem within_all {u : Nat → T5} {m : Nat} {p : Int} (h : UOk u m) (hm : m ≤ 6) (hp : amt p = true) : netV u m p + wsum (ptV u (netV u m p) (wiV u m p)) m = p := by
  have hp' := amt_t hp
  by_cases ha : alW u m = 0
  · have hz : ∀ j, wiV u m p j = 0 := fun j => by unfold wiV; rw [if_pos ha]
    rw [ws_sumB u _ _ (fun k _ _ => hz k) m (Nat.le_refl _), sm_zero hz]
    have : netV u m p = p := by unfold netV; rw [ha]; exact net_same hp'
    omega
  · have hs := sh_ok h hm hp ha
    have hf := Sh.shV_facts hs
    have hz : ∀ j, wiV u m p j = Sh.shV (p - netV u m p) m (wsW u) j := fun j => by unfold wiV; rw [if_neg ha]
    have h0 : ∀ k, k < m → (u k).kind ≠ 3 → wiV u m p k = 0 := fun k hk g => by
      rw [hz]
      have hw : wsW u k = 0 := by unfold wsW; rw [if_neg g]
      have q := hf.2.1 k hk
      rw [hw, Int.mul_zero] at q
      have hS := hs.2.2.2
      generalize Sh.shV (p - netV u m p) m (wsW u) k = v at q
      generalize Sh.sm (wsW u) m = S at q hS
      rcases Int.lt_trichotomy v 0 with g1 | g1 | g1
      · have : v * S ≤ (-1) * S := Int.mul_le_mul_of_nonneg_right (by omega) (by omega)
        omega
      · exact g1
      · have : 1 * S ≤ v * S := Int.mul_le_mul_of_nonneg_right (by omega) (by omega)
        omega
    rw [ws_sumB u _ _ h0 m (Nat.le_refl _), Sh.sm_congr (fun j _ => hz j), hf.1]
    omega
theorem mul_zero_dv {b : Int} : dv (b * 0) 100000 3 = 0 := by
  rw [Int.mul_zero]; rfl
theorem md_zero {b : Int} (h : amt b = true) : mdB b 0 100000 3 = true ∧ mdV b 0 100000 3 = 0 := by
  have h' := amt_t h
  have e : mdB b 0 100000 3 = true := by
    unfold mdB
    rw [mul_zero_dv]
    simp only [Bool.and_eq_true, decide_eq_true_eq]
    omega
  exact ⟨e, by unfold mdV; rw [if_pos e, mul_zero_dv]⟩
/-- With rates of 0 Net and Gross are the price. -/
theorem free_all {u : Nat → T5} {m : Nat} {p : Int} (h : ∀ i, i < m → (u i).rate = 0) (hp : amt p = true) : BiP u m p ∧ netV u m p = p ∧ grV u (netV u m p) (wiV u m p) m = p := by
  have hp' := amt_t hp
  have ha : alW u m = 0 := by
    unfold alW
    have : ∀ n, n ≤ m → Sh.sm (wsW u) n = 0 := by
      intro n
      induction n with
      | zero => intro _; rfl
      | succ n ih =>
        intro hn
        rw [Sh.sm_succ, ih (by omega)]
        unfold wsW
        split
        · rw [h n (by omega)]; rfl
        · rfl
    exact this m (Nat.le_refl _)
  have hn : netV u m p = p := by unfold netV; rw [ha]; exact net_same hp'
  have hz : ∀ j, wiV u m p j = 0 := fun j => by unfold wiV; rw [if_pos ha]
  have hg : ∀ k, k ≤ m → grV u p (wiV u m p) k = p := by
    intro k
    induction k with
    | zero => intro _; rfl
    | succ k ih =>
      intro hk
      have e : grV u p (wiV u m p) (k + 1) = grV u p (wiV u m p) k + lvG (u k) (grV u p (wiV u m p) k) p (wiV u m p k) := rfl
      rw [e, ih (by omega), hz]
      have hb : lvB (u k) p p = p := by unfold lvB; split <;> rfl
      have : lvG (u k) p p 0 = 0 := by
        unfold lvG lvT
        rw [hb, h k (by omega), (md_zero hp).2]
        split
        · rfl
        · split <;> rfl
      rw [this]; omega
  refine ⟨⟨hp, fun i hi => ?_, ?_⟩, hn, by rw [hn]; exact hg m (Nat.le_refl _)⟩
  · rw [hn, hg i (by omega)]
    unfold lvO
    have hb : lvB (u i) p p = p := by unfold lvB; split <;> rfl
    rw [hb, h i hi, (md_zero hp).1]
    split <;> rfl
  · rw [hn, hg m (Nat.le_refl _)]; exact hp
/-- The second bill, all codes free. -/
theorem tax_free {n : Nat} {c : Nat → T5} {m : Nat} {cs : Nat → ByteArray} {f : Nat} {fs : Nat → ByteArray} {p d : Int} (h : TaxP n c m cs f fs p d) : TaxP n c m cs m cs p d ∧ netV (usR n c cs m cs d) m p = p ∧ grV (usR n c cs m cs d) (netV (usR n c cs m cs d) m p) (wiV (usR n c cs m cs d) m p) m = p := by
  have hr : ∀ i, i < m → (usR n c cs m cs d i).rate = 0 := fun i hi => by
    unfold usR
    simp only
    rw [if_pos (hasS_t ⟨i, hi, rfl⟩)]
  have q := free_all hr h.2.2.2.1
  have h2 := h.2.1
  exact ⟨⟨h.1, h.2.1, by omega, h.2.2.2.1, h.2.2.2.2.1, q.1⟩, q.2.1, q.2.2⟩
end Go.Proofs.Ytbhghghkgojpgaa

namespace Go.Proofs.Ytbhghghkgojpgaa
open Go Go.ChangeShapes Go.WideShapes Go.ChangeAt Go.RowKit
set_option linter.unusedVariables false
set_option linter.unusedSimpArgs false

/-- What DrawTaxOf leaves. -/
def TwD (w : World) (e : Ending) (w' : World) : Prop :=
  ∃ ad n cap c ca m ccap cs fa f fcap fs p d, e = .returned (.tuple #[.slice ad n cap, .slice ca m ccap, .slice fa f fcap, .int .i64 p, .int .i64 d]) ∧ (n ≤ cap ∧ m ≤ ccap ∧ (n : Int) ≤ 1000 ∧ (m : Int) ≤ 1000 ∧ (f : Int) ≤ 1000) ∧ (∀ j, (c j).code.size ≤ maxLen) ∧ (-9223372036854775808 ≤ p ∧ p ≤ 9223372036854775807) ∧ TR w' ad n c ∧ STR w' ca m cs ∧ STR w' fa f fs ∧ Below w.heap.size w w'

theorem bl_true {n : Nat} {c : Nat → T5} {m : Nat} {cs : Nat → ByteArray} {f : Nat} {fs : Nat → ByteArray} {p d : Int} {NT GR : Int} {L : Nat} {PT : Nat → P4} (h : blV n c m cs f fs p d = ⟨NT, GR, L, true, PT⟩) :
    TaxP n c m cs f fs p d ∧ L = m ∧ NT + wsum PT L = p ∧ NT + asum PT L = GR ∧ (∀ j, j < L → -100000000000 ≤ (PT j).tax ∧ (PT j).tax ≤ 100000000000) := by
  unfold blV at h
  by_cases hT : TaxP n c m cs f fs p d
  · rw [if_pos hT] at h
    simp only [BL.mk.injEq] at h
    obtain ⟨h1, h2, h3, _, h5⟩ := h
    subst h1 h2 h3 h5
    have hU := u_ok (f := f) (fs := fs) hT.1 hT.2.2.2.2.1
    refine ⟨hT, rfl, within_all hU hT.2.1 hT.2.2.2.1, (gr_sum _ _ _ _).symm, fun j hj => ?_⟩
    exact lv_bd hU hT.2.1 hT.2.2.2.1 _ j hj
  · rw [if_neg hT] at h
    simp at h
theorem bl_free {n : Nat} {c : Nat → T5} {m : Nat} {cs : Nat → ByteArray} {f : Nat} {fs : Nat → ByteArray} {p d : Int} (h : TaxP n c m cs f fs p d) : ∃ PT, blV n c m cs m cs p d = ⟨p, p, m, true, PT⟩ := by
  obtain ⟨h1, h2, h3⟩ := tax_free h
  unfold blV
  rw [if_pos h1]
  exact ⟨_, by rw [h3, h2]⟩

set_option maxRecDepth 20000 in
set_option maxHeartbeats 8000000 in
theorem within_walk (a0 : Option Addr) (len0 cap0 : Nat) (w : World)
    (hbig : Calls Try.prog 8 #[.slice a0 len0 cap0] w fun e w' => e = .returned (.bool false) ∧ w' = w)
    (hD : Calls Try.prog 9 #[.slice a0 len0 cap0] w (TwD w)) :
    Calls Try.prog 3 #[.slice a0 len0 cap0] w fun e w' => e = .returned (.bool true) ∧ Below w.heap.size w w' := by
  have HBG : Hid (Calls Try.prog 8 #[.slice a0 len0 cap0] w fun e w' => e = .returned (.bool false) ∧ w' = w) := hbig
  have HDR : Hid (Calls Try.prog 9 #[.slice a0 len0 cap0] w (TwD w)) := hD
  clear hbig hD
  have tk1 : True := trivial
  go_enter Try.func3, Try.ntmps3
  go_wp2_with (first
    | (go_at_call 8; refine HBG.out.mono ?_; rintro e w1 ⟨rfl, ew⟩; replace ew := ew.symm; subst ew)
    | (go_at_call 9; refine HDR.out.mono ?_; rintro e w2 ⟨ad, n, cap, c, ca, m, ccap, cs, fa, f, fcap, fs, p, d, rfl, hn, hs, hp, hr, hc, hf, b2⟩; have HX : Hid (TR w2 ad n c ∧ STR w2 ca m cs ∧ STR w2 fa f fs) := ⟨hr, hc, hf⟩; have HS : Hid (∀ j, (c j).code.size ≤ maxLen) := hs; have HP : Hid (-9223372036854775808 ≤ p ∧ p ≤ 9223372036854775807) := hp; have HB2 : Hid (Below w.heap.size w w2) := b2; clear hr hc hf hs hp b2; obtain ⟨B, hB⟩ : ∃ B, blV n c m cs f fs p d = B := ⟨_, rfl⟩; obtain ⟨NT, GR, L, BO, PT⟩ := B; have HBL : Hid (blV n c m cs f fs p d = ⟨NT, GR, L, BO, PT⟩) := hB; clear hB; cases BO)
    | (go_at_call 10; clear tk1; refine (implTax_uni _ _ _ c _ _ _ cs _ _ _ fs p d _ _ HBL.out (by omega) (by omega) (by omega) HS.out (by omega) (by omega) HP.out HX.out.1 HX.out.2.1 HX.out.2.2).mono ?_; rintro e w3 ⟨ga, rfl, g3, d3⟩; unfold bV; have HG3 : Hid (GA (w3.alloc (.cells #[.int .i64 NT, .int .i64 GR, .slice ga L L] 30 (0, 0))) w2.heap.size ga L PT ∧ CB (w3.alloc (.cells #[.int .i64 NT, .int .i64 GR, .slice ga L L] 30 (0, 0))) w3.heap.size #[.int .i64 NT, .int .i64 GR, .slice ga L L] 30) := ⟨g3.below ((Below.refl _ _).alloc (Nat.le_refl _) _), CB.new _ _⟩; have HX3 : Hid (TR (w3.alloc (.cells #[.int .i64 NT, .int .i64 GR, .slice ga L L] 30 (0, 0))) ad n c ∧ STR (w3.alloc (.cells #[.int .i64 NT, .int .i64 GR, .slice ga L L] 30 (0, 0))) ca m cs ∧ STR (w3.alloc (.cells #[.int .i64 NT, .int .i64 GR, .slice ga L L] 30 (0, 0))) fa f fs) := ⟨HX.out.1.below (bel_on d3 ((Below.refl _ _).alloc (Nat.le_refl _) _)), HX.out.2.1.below (bel_on d3 ((Below.refl _ _).alloc (Nat.le_refl _) _)), HX.out.2.2.below (bel_on d3 ((Below.refl _ _).alloc (Nat.le_refl _) _))⟩; have HB3 : Hid (Below w.heap.size w (w3.alloc (.cells #[.int .i64 NT, .int .i64 GR, .slice ga L L] 30 (0, 0)))) := bel_on (bel_on HB2.out d3) ((Below.refl _ _).alloc (Nat.le_refl _) _); clear g3 d3)
    | (go_at_call 11; refine (specTax_uni _ _ _ c _ _ _ cs _ _ _ fs p d _ _ HBL.out (by omega) (by omega) (by omega) HS.out (by omega) HX3.out.1 HX3.out.2.1 HX3.out.2.2).mono ?_; rintro e w4 ⟨pa, pc, rfl, _, d4⟩; unfold bV; have d5 := bel_on d4 ((Below.refl w4.heap.size w4).alloc (Nat.le_refl _) (.cells #[.int .i64 NT, .int .i64 GR, .slice pa L pc] 30 (0, 0))); have HG4 : Hid (PRow (w4.alloc (.cells #[.int .i64 NT, .int .i64 GR, .slice pa L pc] 30 (0, 0))) ga L PT) := HG3.out.1.row.below d5; have C4 : CB (w4.alloc (.cells #[.int .i64 NT, .int .i64 GR, .slice pa L pc] 30 (0, 0))) w3.heap.size #[.int .i64 NT, .int .i64 GR, .slice ga L L] 30 := HG3.out.2.below d5 HG3.out.2.lt; have q0 := (C4.cell 0).trans rfl; have q1 := (C4.cell 1).trans rfl; have q2 := (C4.cell 2).trans rfl; have HX4 : Hid (TR (w4.alloc (.cells #[.int .i64 NT, .int .i64 GR, .slice pa L pc] 30 (0, 0))) ad n c ∧ STR (w4.alloc (.cells #[.int .i64 NT, .int .i64 GR, .slice pa L pc] 30 (0, 0))) ca m cs) := ⟨HX3.out.1.below d5, HX3.out.2.1.below d5⟩; have HB4 : Hid (Below w.heap.size w (w4.alloc (.cells #[.int .i64 NT, .int .i64 GR, .slice pa L pc] 30 (0, 0)))) := bel_on HB3.out d5; clear d4 d5 C4))
  · go_returns
    exact ⟨rfl, HB4.out⟩
  · obtain ⟨hT, hL, hw, ha, ht⟩ := bl_true HBL.out
    have HT : Hid (TaxP n c m cs f fs p d) := hT
    have HTX : Hid (∀ j, j < L → -100000000000 ≤ (PT j).tax ∧ (PT j).tax ≤ 100000000000) := ht
    have hm6 : (L : Int) ≤ 6 := by have := hT.2.1; omega
    have HWA : Hid (NT + wsum PT L = p ∧ NT + asum PT L = GR) := ⟨hw, ha⟩
    have hpp := amt_t hT.2.2.2.1
    subst hL
    clear hT hw ha ht
    generalize hV : w4.alloc (.cells #[.int .i64 NT, .int .i64 GR, .slice pa L pc] 30 (0, 0)) = V at q0 q1 q2 HG4 HX4 HB4 ⊢
    clear hV
    go_loop [12, 13, 14] (fun wv av i => ∃ (k : Nat) (ws al : Int), k ≤ L ∧ i = .int .i64 (k : Int) ∧ wv = .int .i64 ws ∧ av = .int .i64 al ∧ (-(100000000000 * (k : Int)) ≤ ws ∧ ws ≤ 100000000000 * (k : Int)) ∧ (-(100000000000 * (k : Int)) ≤ al ∧ al ≤ 100000000000 * (k : Int)) ∧ Hid (ws = wsum PT k ∧ al = asum PT k)) (fun _ _ i => L - (intOf i).toNat)
    case atStart => exact ⟨0, 0, 0, Nat.zero_le _, rfl, rfl, rfl, by omega, by omega, rfl, rfl⟩
    case round =>
      obtain ⟨k, ws, al, hk, rfl, rfl, rfl, hwb, hab, HE⟩ := hrel
      by_cases hlt : k < L
      · have hlt2 : (k : Int) < (L : Int) := by omega
        obtain ⟨sb, so, rfl, hsb⟩ := HG4.out.addr (by omega)
        obtain ⟨t0, t1, t2, t3⟩ := HG4.out.cell hlt
        have htb := HTX.out k hlt
        have HW1 : Hid (wsum PT (k + 1) = ws + (if (PT k).kind = 3 then (PT k).tax else 0) ∧ asum PT (k + 1) = al + (if (PT k).kind = 4 then 0 else (PT k).tax)) := ⟨by rw [wsum, HE.out.1], by rw [asum, HE.out.2]⟩
        generalize (PT k).kind = kd at t1 HW1
        generalize (PT k).tax = tx at t3 HW1 htb
        clear t0 t2
        by_cases h3 : kd = 3
        · subst h3
          go_wp2
          go_round
          case rel => exact ⟨k + 1, ws + tx, al + tx, by omega, by go_num, rfl, rfl, by omega, by omega, HW1.out.1.symm, HW1.out.2.symm⟩
          case measure => simp [intOf]; omega
        · have e3 := eq_f h3
          by_cases h4 : kd = 4
          · subst h4
            go_wp2
            go_round
            case rel => exact ⟨k + 1, ws, al, by omega, by go_num, rfl, rfl, by omega, by omega, by rw [HW1.out.1]; simp, by rw [HW1.out.2]; simp⟩
            case measure => simp [intOf]; omega
          · have e4 := eq_f h4
            have HW2 : Hid (wsum PT (k + 1) = ws ∧ asum PT (k + 1) = al + tx) := ⟨by rw [HW1.out.1, if_neg h3]; omega, by rw [HW1.out.2, if_neg h4]⟩
            clear h3 h4
            go_wp2
            go_round
            case rel => exact ⟨k + 1, ws, al + tx, by omega, by go_num, rfl, rfl, by omega, by omega, HW2.out.1.symm, HW2.out.2.symm⟩
            case measure => simp [intOf]; omega
      · obtain rfl : k = L := by omega
        have lkk : ¬ (k : Int) < (k : Int) := by omega
        obtain ⟨PT2, hB2⟩ := bl_free HT.out
        have HBL2 : Hid (blV n c k cs k cs p d = ⟨p, p, k, true, PT2⟩) := hB2
        have g1 : NT + ws = p := by rw [HE.out.1]; exact HWA.out.1
        have g2 : NT + al = GR := by rw [HE.out.2]; exact HWA.out.2
        have hNT : -10000000000000 ≤ NT ∧ NT ≤ 10000000000000 := by omega
        clear hB2
        go_wp2_with (go_at_call 10; refine (implTax_uni _ _ _ c _ _ _ cs _ _ _ cs p d _ _ HBL2.out (by omega) (by omega) (by omega) HS.out (by omega) (by omega) HP.out HX4.out.1 HX4.out.2 HX4.out.2).mono ?_; rintro e w6 ⟨ha, rfl, _, d6⟩; unfold bV; have HB6 : Hid (Below w.heap.size w w6) := bel_on HB4.out d6; clear d6)
        go_returns
        exact ⟨rfl, bel_on HB6.out (by go_grown)⟩
end Go.Proofs.Ytbhghghkgojpgaa
