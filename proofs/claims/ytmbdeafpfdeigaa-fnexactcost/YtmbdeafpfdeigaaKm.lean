/- Explode of the model. -/
import Derived.Test.YtmbdeafpfdeigaaKl
namespace Go.Proofs.Ytmbdeafpfdeigaa
open Go Go.ChangeShapes Go.WideShapes Go.ChangeAt Go.RowKit
set_option linter.unusedVariables false
set_option linter.unusedSimpArgs false

set_option maxRecDepth 20000 in
set_option maxHeartbeats 8000000 in
theorem specExplode_any (ad : Option Addr) (n cap : Nat) (c : Nat → IT) (a q d : Int) (w : World) (h : (n : Int) ≤ 1048576) (hz : IZ n c) (hr : ITr w ad n c) :
    Calls Try.prog 23 #[.slice ad n cap, .int .i64 a, .int .i64 q, .int .i64 d] w fun e w' => ∃ ad cap, e = .returned (.tuple #[.slice ad (rkM eoB n c a q d) cap, .bool (rkB eoB n c a q d)]) ∧ OwnI w' w.heap.size ad (rkM eoB n c a q d) (eoF n c d a.toNat q) ∧ Below w.heap.size w w' := by
  have HR : Hid (ITr w ad n c) := hr
  have HZ : Hid (IZ n c) := hz
  have HFA : Hid (rkB eoB n c a q d = false → rkM eoB n c a q d = 0) := hid (fun q => by unfold rkM; rw [q]; rfl)
  clear hr hz
  cases hak : akB n c a q d
  · have HV : Hid (rkB eoB n c a q d = false ∧ rkM eoB n c a q d = 0) := hid (by
      have e : rkB eoB n c a q d = false := by simp [rkB, hak]
      exact ⟨e, HFA.out e⟩)
    have HAK : Hid (akB n c a q d = false) := hak
    rw [HV.out.1, HV.out.2]
    clear hak
    go_enter Try.func23, Try.ntmps23
    go_wp2_with (go_at_call 56; refine (l17Asked_eq ad n cap c a q d _ _ h HZ.out HR.out HAK.out).mono ?_; rintro e w1 ⟨rfl, b1⟩; have HB1 : Hid (Below w.heap.size w w1) := b1; clear b1)
    go_returns
    exact ⟨_, _, rfl, .inl rfl, bel_on HB1.out ((Below.refl _ _).alloc (Nat.le_refl _) _)⟩
  have HAK : Hid (akB n c a q d = true) := hak
  obtain ⟨hI, ⟨ha0, ha1⟩, ⟨hq0, hq1⟩, _⟩ := akB_p hak
  obtain ⟨i, rfl⟩ : ∃ i : Nat, a = (i : Int) := ⟨a.toNat, by omega⟩
  have hi : i < n := by omega
  have hi2 : (i : Int) < (n : Int) := by omega
  have hn60 : (n : Int) ≤ 60 := by have := (isB_p hI).1; omega
  have hmk := mkI n (by omega)
  simp only [Int.toNat_natCast]
  have HRB : Hid (rkB eoB n c (i : Int) q d = eoB n c d i q ∧ rkM eoB n c (i : Int) q d = if eoB n c d i q = true then n else 0) := hid (by
    have e : rkB eoB n c (i : Int) q d = eoB n c d i q := by unfold rkB; rw [hak, Int.toNat_natCast]; rfl
    exact ⟨e, by unfold rkM; rw [e]⟩)
  rw [HRB.out.1, HRB.out.2]
  have HMK : Hid (∀ w1 : World, Below w.heap.size w w1 → IB (w1.alloc (.cells (zeros n) 3)) w1.heap.size n z0 ∧ ItS w1.heap.size (w1.alloc (.cells (zeros n) 3)) ad n c) := hid (fun w1 b => ⟨⟨zeros n, CB.new _ _, fun j hj => zeros_get hj⟩, ⟨w, b.size, HR.out, bel_on b ((Below.refl _ _).alloc (Nat.le_refl _) _)⟩⟩)
  have HEND : Hid (∀ w1 W : World, Below w.heap.size w w1 → Bt w1.heap.size (w1.alloc (.cells (zeros n) 3)) W → Below w.heap.size w W) := hid (fun w1 W b k => (bel_on b ((Below.refl _ _).alloc (Nat.le_refl _) _)).trans (k.2.mono b.size))
  clear hak ha0 ha1 HRB HFA
  unfold eoB eoF
  have HFQ0 : Hid (FQ (upI z0 i q)) := hid (z0_q.up i hq0 hq1)
  have HST : Hid (∀ w1 : World, Below w.heap.size w w1 → IB ((w1.alloc (.cells (zeros n) 3)).setCell ⟨w1.heap.size, i, none⟩ (.int .i64 q)) w1.heap.size n (upI z0 i q)) := hid (fun w1 b => (HMK.out w1 b).1.set hi q)
  generalize upI z0 i q = G at HFQ0 HST ⊢
  have HII : Hid (isB n c = true) := hI
  clear hI hq0 hq1
  obtain ⟨TV, hTV⟩ : ∃ b, epB c d i G (n - i) = b := ⟨_, rfl⟩
  obtain ⟨FR, hFR⟩ : ∃ f, epF c d i G (n - i) = f := ⟨_, rfl⟩
  rw [hTV, hFR]
  obtain ⟨M, hM⟩ : ∃ m, (if TV = true then n else 0) = m := ⟨_, rfl⟩
  rw [hM]
  have HTV : Hid (epB c d i G (n - i) = TV) := hTV
  have HFR : Hid (epF c d i G (n - i) = FR) := hFR
  have HMM : Hid ((if TV = true then n else 0) = M) := hM
  clear hTV hFR hM
  go_enter Try.func23, Try.ntmps23
  go_wp2_with (go_at_call 56; refine (l17Asked_eq ad n cap c (i : Int) q d _ _ h HZ.out HR.out HAK.out).mono ?_; rintro e w1 ⟨rfl, b1⟩; have HB1 : Hid (Below w.heap.size w w1) := b1; clear b1; have x1 := (HMK.out w1 HB1.out).1.cell hi; have f1 := (HMK.out w1 HB1.out).1.fr i; generalize z0 i = A at x1)
  have HIT : Hid (∀ W, Bt w1.heap.size (w1.alloc (.cells (zeros n) 3)) W → ItS w1.heap.size W ad n c ∧ Below w.heap.size w W) := hid (fun W b => ⟨((HMK.out w1 HB1.out).2).on b, HEND.out w1 W HB1.out b⟩)
  have HLW : Hid (w.heap.size ≤ w1.heap.size) := HB1.out.size
  have H1 : Hid (epB c d i G 0 = true ∧ IB ((w1.alloc (.cells (zeros n) 3)).setCell ⟨w1.heap.size, i, none⟩ (.int .i64 q)) w1.heap.size n (epF c d i G 0) ∧ Bt w1.heap.size (w1.alloc (.cells (zeros n) 3)) ((w1.alloc (.cells (zeros n) 3)).setCell ⟨w1.heap.size, i, none⟩ (.int .i64 q))) := hid ⟨rfl, HST.out w1 HB1.out, (Bt.refl _ _).set _ _⟩
  clear HMK HEND HB1 HST x1 f1
  have eA : (w1.alloc (.cells (zeros n) 3)).setCell ⟨w1.heap.size, i, none⟩ (.int .i64 q) = w1.alloc (.cells ((zeros n).setIfInBounds i (.int .i64 q)) 3) := by go_simp
  rw [eA] at H1
  clear eA
  generalize w1.alloc (.cells ((zeros n).setIfInBounds i (.int .i64 q)) 3) = WB at H1 ⊢
  generalize w1.alloc (.cells (zeros n) 3) = WA at H1 HIT
  generalize w1.heap.size = LB at H1 HIT HLW ⊢
  go_loopw [11] (fun v wr => ∃ (k : Nat), i + k ≤ n ∧ v = .int .i64 ((i + k : Nat) : Int) ∧ Hid (epB c d i G k = true ∧ IB wr LB n (epF c d i G k) ∧ Bt LB WA wr)) (fun v _ => n - (intOf v).toNat)
  case atStart => exact ⟨0, by omega, rfl, H1⟩
  case round =>
    clear H1
    obtain ⟨k, hk, rfl, HH⟩ := hrel
    obtain ⟨wo, rfl⟩ : ∃ x, x = wr := ⟨wr, rfl⟩
    obtain ⟨p, hp⟩ : ∃ p, i + k = p := ⟨_, rfl⟩
    have HPP : Hid (i + k = p) := hp
    rw [hp] at hk ⊢
    clear hp
    by_cases hlt : p < n
    · have hlt2 : (p : Int) < (n : Int) := by omega
      have HITS := hid (HIT.out wo HH.out.2.2).1
      have HIX : Hid (∀ W, Bt LB WA W → Below w.heap.size w W) := hid (fun W b => (HIT.out W b).2)
      obtain ⟨w0, hw0, hI0, hBw0⟩ := HITS.out
      obtain ⟨kb, off, rfl, hkb⟩ := hI0.addr (by omega)
      obtain ⟨ra, rc, sa, sc, _, _, c0, c1, c2, c3, c4, r5, r6⟩ := hI0.cell hlt
      obtain ⟨g1, g2, g3, g4, g5⟩ := isB_it HII.out hlt
      have hLB : LB < wo.heap.size := HH.out.2.1.lt
      have d3 := keep_cell hBw0 c3
      have HFQ : Hid (FQ (epF c d i G k)) := hid (epF_q HFQ0.out k HH.out.1)
      have HNB : Hid (epB c d i G (k + 1) = epO c d (epF c d i G k) p) := hid (by show (epB c d i G k && epO c d (epF c d i G k) (i + k)) = _; rw [HH.out.1, HPP.out]; rfl)
      have HNF : Hid (epF c d i G (k + 1) = epS c d (epF c d i G k) p) := hid (by show epS _ _ _ (i + k) = _; rw [HPP.out])
      have HMO : Hid (epB c d i G (k + 1) = false → epB c d i G (n - i) = false) := hid (fun h => epB_mono _ (by have := HPP.out; omega) h)
      have HCO : Hid (Calls Try.prog 59 #[.slice ra (c p).parn rc, .int .i64 d] wo fun e w' => ∃ ad2 oc, e = .returned (.slice ad2 (cnN (c p).parz d (c p).parn) oc) ∧ Below wo.heap.size wo w') := hid ((l17Counting_any ra _ rc _ d wo (by omega) (r5.below hBw0) (fun j hj => (g4 j hj).1.2.2.2)).mono (by rintro e w' ⟨x1, x2, x3, _, x4⟩; exact ⟨x1, x2, x3, x4⟩))
      have HXP : Hid (∀ W, Below wo.heap.size wo W → Calls Try.prog 57 #[.slice (some ⟨LB, 0, none⟩) n n, .slice (some ⟨kb, off, none⟩) n cap, .int .i64 (p : Int), .int .i64 (epF c d i G k p), .int .i64 d] W (XpP n LB (xpF c d (epF c d i G k) p (epF c d i G k p)) (xpB c d (epF c d i G k) p (epF c d i G k p)) W)) := hid (fun W b => l17Expand_any _ n cap n c d LB _ p _ W HII.out (HH.out.2.1.below b) (HITS.out.on (Bt.of b (by omega))) HFQ.out hlt (HFQ.out p).1 (HFQ.out p).2)
      have HXZ : Hid (epF c d i G k p = 0 → epO c d (epF c d i G k) p = true ∧ epS c d (epF c d i G k) p = epF c d i G k) := hid (fun e => by
        obtain ⟨e1, e2⟩ := xp_zero (d := d) HII.out hlt HFQ.out
        unfold epO epS
        rw [e, e1, e2]
        exact ⟨ite_self _, ite_self _⟩)
      have HMW : Hid (∀ W, Below wo.heap.size wo W → IB W LB n (epF c d i G k) ∧ Bt LB WA W) := hid (fun W b => ⟨HH.out.2.1.below b, HH.out.2.2.on b (by omega)⟩)
      have HCE : Hid (∀ W, Below wo.heap.size wo W → W.cell? ⟨LB, p, none⟩ = some (.int .i64 (epF c d i G k p))) := hid (fun W b => (HH.out.2.1.below b).cell hlt)
      have fl := HH.out.2.1.fr p
      have hg := HFQ.out p
      have cl := HCE.out wo (Below.refl _ _)
      clear c0 c1 c2 c3 c4 r5 r6 hI0 g1 g2 g3 g4 g5 HH HFQ HIT hBw0 hw0 hkb
      unfold epO at HNB HXZ
      unfold epS at HNF HXZ
      generalize xpF c d (epF c d i G k) p (epF c d i G k p) = XF at HNF HXP HXZ
      generalize xpB c d (epF c d i G k) p (epF c d i G k p) = XB at HNB HXP HXZ
      generalize epF c d i G k p = Q at HXP HCE hg cl HXZ
      generalize epF c d i G k = g at HNF HMW HXZ
      have HCN : Hid (∃ N, cnN (c p).parz d (c p).parn = N) := ⟨_, rfl⟩
      obtain ⟨N, hN⟩ := HCN.out
      rw [hN] at HNB HNF HCO HXZ
      clear hN HCN
      generalize (c p).parn = rn at d3 HCO
      by_cases hq : 0 < Q
      · have d0 : decide (0 < Q) = true := decide_eq_true hq
        clear HXZ
        by_cases hm : 0 < N
        · have hm2 : (0 : Int) < (N : Int) := by omega
          rw [if_pos hm] at HNB HNF
          have HLL : Hid (∀ W, Below wo.heap.size wo W → W.cell? ⟨LB, p, none⟩ = some (.int .i64 Q)) := HCE
          go_wp2_with (first
            | (go_at_call 59; refine HCO.out.mono ?_; rintro e w1 ⟨ad2, oc, rfl, b1⟩; have HB1 : Hid (Below wo.heap.size wo w1) := b1; clear b1; have cl1 := HCE.out w1 HB1.out)
            | (go_at_call 57; refine (HXP.out _ HB1.out).mono ?_; rintro e w2 ⟨rfl, b2, g2⟩; have HB2 : Hid (Bt LB WA w2 ∧ (XB = true → IB w2 LB n XF)) := hid ⟨(HMW.out w1 HB1.out).2.trans b2, g2⟩; clear b2 g2))
          · obtain rfl : XB = false := by rename_i hh; simpa using hh
            obtain rfl : TV = false := HTV.out.symm.trans (HMO.out HNB.out)
            obtain rfl : M = 0 := HMM.out.symm
            have HBW := hid (HIX.out w2 HB2.out.1)
            go_returns
            first | exact ⟨_, ⟨_, rfl⟩, .inl rfl, bel_on HBW.out ((Below.refl _ _).alloc (Nat.le_refl _) _)⟩ | exact ⟨_, _, rfl, .inl rfl, bel_on HBW.out ((Below.refl _ _).alloc (Nat.le_refl _) _)⟩ | exact ⟨_, _, .inl rfl, bel_on HBW.out ((Below.refl _ _).alloc (Nat.le_refl _) _)⟩
          · obtain rfl : XB = true := by rename_i hh; simpa using hh
            have HN : Hid (epB c d i G (k + 1) = true ∧ IB w2 LB n (epF c d i G (k + 1)) ∧ Bt LB WA w2) := hid ⟨HNB.out, by rw [HNF.out]; exact HB2.out.2 rfl, HB2.out.1⟩
            go_roundw
            case rel => exact ⟨k + 1, by have := HPP.out; omega, by have := HPP.out; go_num, HN⟩
            case measure => simp [intOf]; omega
        · have hm2 : ¬ (0 : Int) < (N : Int) := by omega
          rw [if_neg hm] at HNB HNF
          clear HXP
          go_wp2_with (go_at_call 59; refine HCO.out.mono ?_; rintro e w1 ⟨ad2, oc, rfl, b1⟩; have HB1 : Hid (Below wo.heap.size wo w1) := b1; clear b1)
          have HN : Hid (epB c d i G (k + 1) = true ∧ IB w1 LB n (epF c d i G (k + 1)) ∧ Bt LB WA w1) := hid ⟨HNB.out, by rw [HNF.out]; exact (HMW.out w1 HB1.out).1, (HMW.out w1 HB1.out).2⟩
          go_roundw
          case rel => exact ⟨k + 1, by have := HPP.out; omega, by have := HPP.out; go_num, HN⟩
          case measure => simp [intOf]; omega
      · have d0 : decide (0 < Q) = false := decide_eq_false hq
        have hq0 : Q = 0 := by omega
        have HN : Hid (epB c d i G (k + 1) = true ∧ IB wo LB n (epF c d i G (k + 1)) ∧ Bt LB WA wo) := hid ⟨by rw [HNB.out]; exact (HXZ.out hq0).1, by rw [HNF.out, (HXZ.out hq0).2]; exact (HMW.out wo (Below.refl _ _)).1, (HMW.out wo (Below.refl _ _)).2⟩
        clear HXP HXZ HCO
        go_wp2
        go_roundw
        case rel => exact ⟨k + 1, by have := HPP.out; omega, by have := HPP.out; go_num, HN⟩
        case measure => simp [intOf]; omega
    · obtain rfl : p = n := by omega
      have hkn : p - i = k := by have := HPP.out; omega
      have lpp : ¬ (p : Int) < (p : Int) := by omega
      obtain rfl : TV = true := by rw [← HTV.out, hkn]; exact HH.out.1
      obtain rfl : p = M := HMM.out
      obtain rfl : epF c d i G k = FR := by rw [← HFR.out, hkn]
      have HFI := hid (HH.out.2.1.own HLW.out)
      have HBW := hid (HIT.out wo HH.out.2.2).2
      clear hkn
      go_wp2
      go_returns
      first | exact ⟨_, ⟨_, rfl⟩, HFI.out, HBW.out⟩ | exact ⟨_, _, rfl, HFI.out, HBW.out⟩
end Go.Proofs.Ytmbdeafpfdeigaa
