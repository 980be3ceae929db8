/- FnPaidReceived, given the draw: what is MatchOk was received and is no dearer than the tolerance lets it be. -/
import Derived.Test.YtghphlnpginmhaaBi
import Derived.Deep.QuietTactic
namespace Go.Proofs.Ytghphlnpginmhaa
open Go.ChangeShapes Go.WideShapes Go.ChangeAt Go.RowKit
set_option linter.unusedVariables false
set_option linter.unusedSimpArgs false

theorem dv_down (p q : Int) : dv p q 1 = p.tdiv q := by unfold dv rnd fur; simp
theorem md_down {a n : Int} (h0 : 0 ≤ a) (h1 : a ≤ 100000000000) (h2 : 0 ≤ n) (h3 : n ≤ 1000) : mdV a n 1000 1 = (a * n).tdiv 1000 := by
  have hok : MdOk a n 1000 1 := by unfold MdOk; omega
  have hm0 : 0 ≤ a * n := Int.mul_nonneg h0 h2
  have hm1 : a * n ≤ a * 1000 := Int.mul_le_mul_of_nonneg_left h3 h0
  have e : (a * n).tdiv 1000 = (a * n) / 1000 := Int.tdiv_eq_ediv_of_nonneg hm0
  rw [(md_in hok (by rw [dv_down, e]; omega) (by rw [dv_down, e]; omega)).2, dv_down]
theorem paid_line {G Q E p pr le : Int} (hQ : 0 ≤ Q ∧ Q ≤ 1000000) (hp : 0 ≤ p ∧ p ≤ 100000) (hr : 0 ≤ pr ∧ pr ≤ 1000) (h : stV G Q E p pr le = 1) : ¬ G < Q ∧ (E ≤ Q * p + (Q * p * pr).tdiv 1000 ∨ E ≤ Q * p + le) := by
  have hm0 : 0 ≤ Q * p := Int.mul_nonneg hQ.1 hp.1
  have hm1 : Q * p ≤ 1000000 * 100000 := Int.mul_le_mul hQ.2 hp.2 hp.1 (by omega)
  have hd := md_down hm0 (by omega) hr.1 hr.2
  unfold stV at h
  by_cases h0 : Q = 0
  · rw [if_pos h0] at h; cases h
  · rw [if_neg h0] at h
    by_cases h1 : G < Q
    · rw [if_pos h1] at h
      split at h <;> cases h
    · rw [if_neg h1] at h
      refine ⟨h1, ?_⟩
      by_cases h2 : dearV (Q * p) le (mdV (Q * p) pr 1000 1) < E
      · rw [if_pos h2] at h; cases h
      · unfold dearV at h2
        rw [hd] at h2
        omega
theorem re_tolp {len : Nat} {c : Nat → OL3} {nr : Nat} {tov tpr tle : Int} (h : reB len c nr tov tpr tle = true) : 0 ≤ tpr ∧ tpr ≤ 1000 := by unfold reB at h; simp only [Bool.and_eq_true] at h; have h2 := h.2.1; unfold tolB at h2; simp only [Bool.and_eq_true] at h2; exact inB_t h2.2.1
theorem mb_parts {len : Nat} {c : Nat → OL3} {nr : Nat} {rc : Nat → RC2} {nb : Nat} {bc : Nat → BN3} {tov tpr tle : Int} (h : mbB len c nr rc nb bc tov tpr tle = true) : reB len c nr tov tpr tle = true ∧ BiP len nb bc := by
  unfold mbB at h; simp only [Bool.and_eq_true, decide_eq_true_eq] at h
  exact ⟨re_ok h.1, biB_p h.2⟩
/-- What the draw leaves. -/
def DmP (w : World) (e : Ending) (W : World) : Prop :=
  ∃ (a1 : Option Addr) (len k1 : Nat) (c : Nat → OL3) (a2 : Option Addr) (nr k2 : Nat) (rc : Nat → RC2) (a3 : Option Addr) (nb k3 : Nat) (bc : Nat → BN3) (tov tpr tle : Int),
    e = .returned (.tuple #[.slice a1 len k1, .slice a2 nr k2, .slice a3 nb k3, .agg #[.int .i64 tov, .int .i64 tpr, .int .i64 tle]]) ∧ (len : Int) ≤ 1048576 ∧ (nr : Int) ≤ 1048576 ∧ (nb : Int) ≤ 1048576 ∧ (∀ j, (c j).item.size ≤ maxLen) ∧ OLr W a1 len c ∧ RCr W a2 nr rc ∧ BNr W a3 nb bc ∧ Below w.heap.size w W

set_option maxRecDepth 20000 in
set_option maxHeartbeats 8000000 in
theorem paid_walk (code : Value) (w : World) (hbig : Calls Try.prog 12 #[code] w fun e w' => (e = .returned (.bool true) ∨ e = .returned (.bool false)) ∧ w' = w) (hdraw : Calls Try.prog 18 #[code] w fun e w' => DmP w e w') :
    Calls Try.prog 4 #[code] w fun e w' => e = .returned (.bool true) ∧ Below w.heap.size w w' := by
  have HBG : Hid (Calls Try.prog 12 #[code] w fun e w' => (e = .returned (.bool true) ∨ e = .returned (.bool false)) ∧ w' = w) := hbig
  have HDR : Hid (Calls Try.prog 18 #[code] w fun e w' => DmP w e w') := hdraw
  clear hbig hdraw
  go_enter Try.func4, Try.ntmps4
  go_wp2_with (first
    | (go_at_call 12; go_loud (refine HBG.out.mono ?_; rintro e w0 ⟨he, ew⟩; replace ew := ew.symm; subst ew; rcases he with rfl | rfl))
    | (go_at_call 18; go_loud (refine HDR.out.mono ?_; rintro e w1 ⟨a1, len, k1, c, a2, nr, k2, rc, a3, nb, k3, bc, tov, tpr, tle, rfl, hl, hn, hb, hs, h1, h2, h3, b1⟩; have HS : Hid (∀ j, (c j).item.size ≤ maxLen) := hs; have H1 : Hid (OLr w1 a1 len c) := h1; have H2 : Hid (RCr w1 a2 nr rc) := h2; have H3 : Hid (BNr w1 a3 nb bc) := h3; have HB1 : Hid (Below w.heap.size w w1) := b1; clear hs h1 h2 h3 b1))
    | (go_at_call 19; go_loud (refine (implMatch_any a1 len k1 c a2 nr k2 rc a3 nb k3 bc tov tpr tle _ hl hn hb HS.out (H1.out.alloc _) (H2.out.alloc _) (H3.out.alloc _)).mono ?_; rintro e w2 ⟨ag, cg, rfl, o2, b2⟩; obtain ⟨C2, B2⟩ := tol_bl b2; have HT2 : Hid (CB w2 w1.heap.size #[.int .i64 tov, .int .i64 tpr, .int .i64 tle] 40) := C2; have HW2 : Hid (Below w1.heap.size w1 w2) := B2; have HO2 : Hid (OwnML4 w2 w1.heap.size ag (mbM len c nr rc nb bc tov tpr tle) (mbF c nr rc nb bc tpr tle)) := o2.mono (by simp); have x0 := (C2.cell 0).trans rfl; have x1 := (C2.cell 1).trans rfl; have x2 := (C2.cell 2).trans rfl; clear b2 C2 B2 o2))
    | (go_at_call 20; go_loud (refine (specMatch_any a1 len k1 c a2 nr k2 rc a3 nb k3 bc tov tpr tle _ hl hn hb HS.out (H1.out.below HW2.out) (H2.out.below HW2.out) (H3.out.below HW2.out)).mono ?_; rintro e w3 ⟨ao, co, rfl, _, b3⟩; have HT3 : Hid (CB w3 w1.heap.size #[.int .i64 tov, .int .i64 tpr, .int .i64 tle] 40) := HT2.out.below b3 HT2.out.lt; have HW3 : Hid (Below w1.heap.size w1 w3) := bel_on HW2.out b3; have HO3 : Hid (MLr w3 ag (mbM len c nr rc nb bc tov tpr tle) (mbF c nr rc nb bc tpr tle)) := (HO2.out.below b3).row; clear b3 x0 x1 x2)))
  · go_returns
    exact ⟨rfl, Below.refl _ _⟩
  obtain ⟨F, hF⟩ : ∃ F, mbF c nr rc nb bc tpr tle = F := ⟨_, rfl⟩
  obtain ⟨M, hM⟩ : ∃ M, mbM len c nr rc nb bc tov tpr tle = M := ⟨_, rfl⟩
  obtain ⟨Y, hY⟩ : ∃ Y, mbY len c nr rc nb bc tov tpr tle = Y := ⟨_, rfl⟩
  have HYP : Hid (Y = payS F M) := hid (by
    rw [← hY, ← hM, ← hF]
    cases hb : mbB len c nr rc nb bc tov tpr tle
    · unfold mbY mbM; rw [hb]; rfl
    · rw [(mb_yes hb).1, (mb_yes hb).2])
  have HLN : Hid (∀ i, i < M → i < len ∧ (0 ≤ (F i).billed ∧ (F i).billed ≤ 1000000) ∧ (0 ≤ (F i).due ∧ (F i).due ≤ 100000000000) ∧ (0 ≤ (c i).price ∧ (c i).price ≤ 100000) ∧ (0 ≤ tpr ∧ tpr ≤ 1000) ∧ (0 ≤ tle ∧ tle ≤ 100000000000) ∧ ((F i).state = 1 → ¬ (F i).got < (F i).billed ∧ ((F i).due ≤ (F i).billed * (c i).price + ((F i).billed * (c i).price * tpr).tdiv 1000 ∨ (F i).due ≤ (F i).billed * (c i).price + tle))) := hid (fun i hi => by
    cases hb : mbB len c nr rc nb bc tov tpr tle
    · rw [← hM] at hi; unfold mbM at hi; rw [hb] at hi; simp at hi
    · have hp := mb_parts hb
      have hm := (mb_yes hb).1
      rw [hM] at hm
      have ho := (olB_p ((re_or hp.1).2.2 i (by omega))).2.2
      have h1 := bd_bd (len := len) hp.2.2.1 i
      have h2 := hp.2.2.2 i
      have ht := re_tolp hp.1
      have hl := re_tol hp.1
      rw [← hF]
      refine ⟨by omega, ⟨h1.1, h2⟩, ⟨h1.2.2.1, ?_⟩, ho, ht, hl, fun hs => paid_line ⟨h1.1, h2⟩ ho ht hs⟩
      show dS bc nb i ≤ 100000000000
      omega)
  have hMl : (M : Int) ≤ 1048576 := by rw [← hM]; unfold mbM; split <;> omega
  rw [hM, hF] at HO3
  rw [hM, hY]
  clear hM hF hY HO2 HT2 HW2
  go_loopw [11, 12] (fun n i wr => ∃ (k : Nat) (P : Int), k ≤ M ∧ i = .int .i64 (k : Int) ∧ n = .int .i64 P ∧ 0 ≤ P ∧ P ≤ 100000000000 * (k : Int) ∧ Hid (P = payS F k) ∧ Hid (Below w3.heap.size w3 wr)) (fun _ i _ => M - (intOf i).toNat)
  case atStart => exact ⟨0, 0, Nat.zero_le _, rfl, rfl, by omega, by omega, rfl, Below.refl _ _⟩
  case round =>
    obtain ⟨k, P, hk, rfl, rfl, hP0, hP1, HP, HB⟩ := hrel
    obtain ⟨wo, rfl⟩ : ∃ x, x = wr := ⟨wr, rfl⟩
    by_cases hlt : k < M
    · have hlt2 : (k : Int) < (M : Int) := by omega
      obtain ⟨kb, off, rfl, hkb⟩ := HO3.out.addr (by omega)
      obtain ⟨c0, c1, c2, c3⟩ := (HO3.out.below HB.out).cell hlt
      have hln := HLN.out k hlt
      obtain ⟨fk, hfk⟩ : ∃ x, F k = x := ⟨_, rfl⟩
      obtain ⟨p, hp⟩ : ∃ p, (c k).price = p := ⟨_, rfl⟩
      rw [hfk] at c0 c1 c2 c3 hln
      rw [hp] at hln
      have HFK : Hid (F k = fk) := hfk
      obtain ⟨g, q, e, s⟩ := fk
      simp only at c0 c1 c2 c3 hln
      obtain ⟨hkl, hq, he, hpb, htp, htl, hst⟩ := hln
      have hkl2 : (k : Int) < (len : Int) := by omega
      by_cases hs1 : s = 1
      · have e1 := eq_t hs1
        have hs3 : (s != 1) = false := by simp [hs1]
        obtain ⟨hgq, hor⟩ := hst hs1
        have HPN : Hid (P + e = payS F (k + 1)) := hid (by rw [payS_t (by rw [HFK.out]; exact hs1), HFK.out, HP.out])
        clear hs1 hst hfk
        go_wp2
        have hC : CB (wo.alloc (.cells #[.int .i64 g, .int .i64 q, .int .i64 e, .int .i64 s] 47 (0, 0))) wo.heap.size #[.int .i64 g, .int .i64 q, .int .i64 e, .int .i64 s] 47 := CB.new _ _
        have hW : Below w3.heap.size w3 (wo.alloc (.cells #[.int .i64 g, .int .i64 q, .int .i64 e, .int .i64 s] 47 (0, 0))) := bel_on HB.out ((Below.refl _ _).alloc (Nat.le_refl _) _)
        clear c0 c1 c2 c3
        generalize wo.alloc (.cells #[.int .i64 g, .int .i64 q, .int .i64 e, .int .i64 s] 47 (0, 0)) = W1 at hC hW ⊢
        obtain ⟨B, hBn⟩ : ∃ B, wo.heap.size = B := ⟨_, rfl⟩
        rw [hBn] at hC ⊢
        clear hBn
        obtain ⟨ka, ofa, rfl, hka⟩ := H1.out.addr (by omega)
        obtain ⟨_, _, o2⟩ := (H1.out.below (bel_on HW3.out hW)).cell hkl
        rw [hp] at o2
        have m1 : W1.cell? ⟨B, 1, none⟩ = some (.int .i64 q) := (hC.cell 1).trans rfl
        have hm0 : 0 ≤ q * p := Int.mul_nonneg (by omega) (by omega)
        have hm1 : q * p ≤ 1000000 * 100000 := Int.mul_le_mul hq.2 hpb.2 hpb.1 (by omega)
        have hwm : IntKind.i64.wrap (q * p) = q * p := IntWalk.i64_in _ ⟨by omega, by omega⟩
        have HHC : Hid (CB W1 B #[.int .i64 g, .int .i64 q, .int .i64 e, .int .i64 s] 47) := hC
        have HHW : Hid (Below w3.heap.size w3 W1) := hW
        clear hC hW hp
        go_quiet (fail)
        have hC5 : CB (W1.drewN nq) B #[.int .i64 g, .int .i64 q, .int .i64 e, .int .i64 s] 47 := HHC.out
        have HW5 : Hid (Below w3.heap.size w3 (W1.drewN nq)) := bd_N HHW.out _
        clear m1 o2 HHC HHW
        generalize W1.drewN nq = W5 at hC5 HW5 ⊢
        have m0 : W5.cell? ⟨B, 0, none⟩ = some (.int .i64 g) := (hC5.cell 0).trans rfl
        have m1 : W5.cell? ⟨B, 1, none⟩ = some (.int .i64 q) := (hC5.cell 1).trans rfl
        have m2 : W5.cell? ⟨B, 2, none⟩ = some (.int .i64 e) := (hC5.cell 2).trans rfl
        have hT5 := HT3.out.below HW5.out HT3.out.lt
        have t1 : W5.cell? ⟨w1.heap.size, 1, none⟩ = some (.int .i64 tpr) := (hT5.cell 1).trans rfl
        have t2 : W5.cell? ⟨w1.heap.size, 2, none⟩ = some (.int .i64 tle) := (hT5.cell 2).trans rfl
        clear hC5 hT5
        obtain ⟨R, hR⟩ : ∃ R, q * p = R := ⟨_, rfl⟩
        rw [hR] at hm0 hm1 hor ⊢
        clear hwm hR
        have hr0 : 0 ≤ R * tpr := Int.mul_nonneg hm0 htp.1
        have hr1 : R * tpr ≤ R * 1000 := Int.mul_le_mul_of_nonneg_left htp.2 hm0
        have hwr : IntKind.i64.wrap (R * tpr) = R * tpr := IntWalk.i64_in _ ⟨by omega, by omega⟩
        obtain ⟨TD, hTD⟩ : ∃ T, (R * tpr).tdiv 1000 = T := ⟨_, rfl⟩
        have hTb : 0 ≤ TD ∧ TD ≤ 100000000000 := by rw [← hTD, Int.tdiv_eq_ediv_of_nonneg hr0]; omega
        rw [hTD] at hor
        by_cases hA : R + TD < e
        · have hB2 : ¬ R + tle < e := by omega
          go_wp2
          go_roundw
          case rel => exact ⟨k + 1, P + e, by omega, by go_num, rfl, by omega, by omega, HPN, HW5⟩
          case measure => simp [intOf]; omega
        · go_wp2
          go_roundw
          case rel => exact ⟨k + 1, P + e, by omega, by go_num, rfl, by omega, by omega, HPN, HW5⟩
          case measure => simp [intOf]; omega
      · have e1 := eq_f hs1
        have hs3 : (s != 1) = true := by simp [hs1]
        have HPN : Hid (P = payS F (k + 1)) := hid (by rw [payS_f (by rw [HFK.out]; exact hs1), HP.out])
        clear hs1 hst hfk
        go_wp2
        go_roundw
        case rel => exact ⟨k + 1, P, by omega, by go_num, rfl, by omega, by omega, HPN, bel_on HB.out ((Below.refl _ _).alloc (Nat.le_refl _) _)⟩
        case measure => simp [intOf]; omega
    · obtain rfl : k = M := by omega
      have lkk : ¬ (k : Int) < (k : Int) := by omega
      obtain rfl : P = Y := HP.out.trans HYP.out.symm
      have hpp : (P == P) = true := by simp
      go_wp2
      go_returns
      exact ⟨rfl, bel_on HB1.out (bel_on HW3.out HB.out)⟩
end Go.Proofs.Ytghphlnpginmhaa
