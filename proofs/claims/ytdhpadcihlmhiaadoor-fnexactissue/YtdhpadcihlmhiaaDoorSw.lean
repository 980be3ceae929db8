/- Issue of the model. -/
import Derived.Test.YtdhpadcihlmhiaaDoorSv
namespace Go.Proofs.YtdhpadcihlmhiaaDoor
open Go.ChangeShapes Go.WideShapes Go.ChangeAt Go.RowKit
open Go.Lib (decDigits)
set_option linter.unusedVariables false
set_option linter.unusedSimpArgs false

theorem own_blk_ne {w : World} {base n s g : Nat} {t u : TypeId} {v : Value} {xs : List Value} {cs : Array Value} (h : w.ownsRow base t s v n xs) (hc : CB w g cs u) (htu : t ≠ u) : some g ≠ v.ownBlock := fun e => by
  obtain ⟨_, h2⟩ := h
  rcases h2 with ⟨e1, _⟩ | ⟨g', cap, cur, e1, h0, hg, _⟩
  · rw [e1] at e; simp [Value.ownBlock] at e
  · rw [e1] at e
    simp [Value.ownBlock] at e
    subst e
    exact CB_ne hg hc htu rfl
theorem OwnS2.reg {w : World} {lo n : Nat} {ad : Option Addr} {c : Nat → S2} (h : OwnS2 w lo ad n c) {b o : Nat} {ds : Array Value} (e : CB w b ds 27) (u : Value) : OwnS2 (w.setCell ⟨b, o, none⟩ u) lo ad n c :=
  h.keepC (fun g cs _ _ _ hc => Below.heap_setCell _ _ _ _ (CB_ne hc e (by decide)))
theorem OwnP4.reg {w : World} {lo n : Nat} {ad : Option Addr} {c : Nat → P4} (h : OwnP4 w lo ad n c) {b o : Nat} {ds : Array Value} (e : CB w b ds 27) (u : Value) : OwnP4 (w.setCell ⟨b, o, none⟩ u) lo ad n c :=
  h.keepC (fun g cs _ _ _ hc => Below.heap_setCell _ _ _ _ (CB_ne hc e (by decide)))
theorem isI_of {c : Nat → S2} {R R' : RI} {w w' : World} {e : Ending} (h : R = R') (g : IsI c R' w e w') : IsI c R w e w' := h ▸ g
theorem issue_code {len : Nat} {c : Nat → S2} {np : Nat} {p : Nat → P4} {s day v : Int} (h : RegP len c np p) (g : refV len c np p s day = v) (hv : ¬ v = 0) : issueR len c np p s day = ⟨len, np, p, v⟩ := by rw [issueR_f h (by rw [g]; exact hv), g]
set_option maxRecDepth 20000 in
set_option maxHeartbeats 8000000 in
theorem specIssue_any (a b : Addr) (len cap : Nat) (c : Nat → S2) (np pcap : Nat) (p : Nat → P4) (s day : Int) (w : World) (h : (len : Int) ≤ 1048576) (hs : ∀ j, (c j).pre.size ≤ maxLen) (hr : SRw w (some a) len c) (hn : (np : Int) ≤ 1048576) (hp : PRw w (some b) np p) :
    Calls Tryd.prog 19 #[.agg #[.slice (some a) len cap, .slice (some b) np pcap], .int .i64 s, .int .i64 day] w (IsI c (issueR len c np p s day) w) := by
  have HR : Hid (SRw w (some a) len c) := hr
  have HP : Hid (PRw w (some b) np p) := hp
  have HBA : Hid (Below w.heap.size w ((w.alloc (.cells #[.slice (some a) len cap, .slice (some b) np pcap] 27 (0, 0))).alloc (.cells #[.slice none 0 0, .slice none 0 0] 27 (0, 0)))) := ((Below.refl _ _).alloc (Nat.le_refl _) _).alloc (by simp) _
  have HC := specReg_any (some a) len cap c (some b) np pcap p ((w.alloc (.cells #[.slice (some a) len cap, .slice (some b) np pcap] 27 (0, 0))).alloc (.cells #[.slice none 0 0, .slice none 0 0] 27 (0, 0))) h hs (hr.below HBA.out) hn (hp.below HBA.out)
  clear hr hp hs
  cases hb : regB len c np p
  · rw [hb] at HC
    have HCF := hid HC
    have HV : Hid (issueR len c np p s day = ⟨0, 0, p, 1⟩) := issueR_n fun H => by rw [regB_t H] at hb; cases hb
    rw [HV.out]
    clear HC hb
    go_enter Tryd.func19, Tryd.ntmps19
    go_wp2_with (first | (go_at_call 15; go_loud (refine HCF.out.mono ?_; rintro e w1 ⟨rfl, b1⟩; obtain ⟨X0, X1, b2⟩ := two_bl b1; have HB1 : Hid (Below w.heap.size w w1) := b2; have k0 := (X0.cell 0).trans rfl; have k1 := (X0.cell 1).trans rfl; have k2 := (X1.cell 0).trans rfl; have k3 := (X1.cell 1).trans rfl; have f0 := X0.fr 0; have f1 := X0.fr 1; have f2 := X1.fr 0; have f3 := X1.fr 1; have HX0 := hid X0; have HX1 := hid X1; have hs1 : w.heap.size + 1 < w1.heap.size := X1.lt; clear b1 b2 HCF X0 X1)))
    have hX := ((HX1.out.set 0 (.slice none 0 0)).set 1 (.slice none 0 0))
    have hZ := ((HB1.out.setCell (p := ⟨w.heap.size + 1, 0, none⟩) (by simp; try omega) (.slice none 0 0)).setCell (p := ⟨w.heap.size + 1, 1, none⟩) (by simp; try omega) (.slice none 0 0))
    have e0 := hX.cell 0
    have e1 := hX.cell 1
    simp at e0 e1
    clear hX
    clear k0 k1 k2 k3 f0 f1 f2 f3
    generalize (World.setCell _ _ _) = W9 at e0 e1 hZ ⊢
    refine bodyPost_ret (by simp [results, Tryd.results19, go_sem, e0, e1]; try rfl) rfl ?_
    exact ⟨none, 0, none, 0, rfl, .inl rfl, .inl rfl, hZ⟩
  rw [hb] at HC
  have HCF := hid HC
  have HRP : Hid (RegP len c np p) := regB_of hb
  have hnp4 : (np : Int) ≤ 400 := by have := HRP.out.few; omega
  clear HC hb
  cases hq : inB s 0 ((len : Int) - 1)
  · have HIN : Hid (inB s 0 ((len : Int) - 1) = false) := hq
    have HV : Hid (issueR len c np p s day = ⟨len, np, p, 2⟩) := issue_code HRP.out (refN_two fun H => inB_f hq ⟨H.1, by have := H.2; omega⟩) (by decide)
    rw [HV.out]
    clear hq
    go_enter Tryd.func19, Tryd.ntmps19
    go_wp2_with (first | (go_at_call 15; go_loud (refine HCF.out.mono ?_; rintro e w1 ⟨rfl, b1⟩; obtain ⟨X0, X1, b2⟩ := two_bl b1; have HB1 : Hid (Below w.heap.size w w1) := b2; have k0 := (X0.cell 0).trans rfl; have k1 := (X0.cell 1).trans rfl; have k2 := (X1.cell 0).trans rfl; have k3 := (X1.cell 1).trans rfl; have f0 := X0.fr 0; have f1 := X0.fr 1; have f2 := X1.fr 0; have f3 := X1.fr 1; have HX0 := hid X0; have HX1 := hid X1; have hs1 : w.heap.size + 1 < w1.heap.size := X1.lt; clear b1 b2 HCF X0 X1)) | (go_at_call 58; go_loud (refine (l11Reg_any a b len cap c np pcap p _ h hn (HR.out.below HB1.out) (HP.out.below HB1.out)).mono ?_; rintro e w2 ⟨a2, c2, a3, c3, rfl, o2, o3, b2⟩; obtain ⟨O2, O3⟩ := own_pair o2 o3; have HO2 := hid O2; have HO3 := hid O3; have HR3 := hid o3; have HB2 : Hid (Below w.heap.size w w2) := bel_on HB1.out b2; have X0 := HX0.out.below b2 HX0.out.lt; have X1 := HX1.out.below b2 HX1.out.lt; have HY0 := hid X0; have HY1 := hid X1; clear k0 k1 k2 k3 f0 f1 f2 f3; have k0 : w2.cell? ⟨w.heap.size, 0, none⟩ = some (.slice (some a) len cap) := (X0.cell 0).trans rfl; have kk0 := keep_cell ((Below.refl _ _).alloc (Nat.le_refl _) (.cells #[.slice a2 len c2, .slice a3 np c3] 27 (0, 0))) k0; have hs2 : w1.heap.size ≤ w2.heap.size := b2.size; clear b2 o2 o3 X0 X1 O2 O3)))
    have hbn : Below w2.heap.size w2 (w2.alloc (.cells #[.slice a2 len c2, .slice a3 np c3] 27 (0, 0))) := (Below.refl _ _).alloc (Nat.le_refl _) _
    have XN : CB (w2.alloc (.cells #[.slice a2 len c2, .slice a3 np c3] 27 (0, 0))) w2.heap.size #[.slice a2 len c2, .slice a3 np c3] 27 := CB.new _ _
    replace HY0 := hid (HY0.out.below hbn HY0.out.lt)
    replace HY1 := hid (HY1.out.below hbn HY1.out.lt)
    replace HO2 := hid (HO2.out.below hbn)
    replace HO3 := hid (HO3.out.below hbn)
    replace HR3 := hid (ownsRow_below HR3.out hbn)
    replace HB2 := hid (bel_on HB2.out hbn)
    have hs3 := hbn.size
    clear hbn k0 kk0
    generalize (w2.alloc (.cells #[.slice a2 len c2, .slice a3 np c3] 27 (0, 0))) = wn at XN HY0 HY1 HO2 HO3 HR3 HB2 hs3 ⊢
    have HXN := hid XN
    have k0 := (XN.cell 0).trans rfl
    have k1 := (XN.cell 1).trans rfl
    have k2 := (HY1.out.cell 0).trans rfl
    have k3 := (HY1.out.cell 1).trans rfl
    have f2 := HY1.out.fr 0
    have f3 := HY1.out.fr 1
    have j0 : wn.cell? ⟨w.heap.size, 0, none⟩ = some (.slice (some a) len cap) := (HY0.out.cell 0).trans rfl
    have j1 : wn.cell? ⟨w.heap.size, 1, none⟩ = some (.slice (some b) np pcap) := (HY0.out.cell 1).trans rfl
    clear XN
    go_wp2_with (first | (go_at_call 51; refine (l1In_eq HIN.out).mono ?_; rintro e w3 ⟨rfl, ew⟩; replace ew := ew.symm; subst ew))
    have hX := ((HY1.out.set 0 (.slice a2 len c2)).set 1 (.slice a3 np c3))
    have hO2 := ((HO2.out.put (b := w.heap.size + 1) (o := 0) (.slice a2 len c2) (by omega)).put (b := w.heap.size + 1) (o := 1) (.slice a3 np c3) (by omega))
    have hO3 := ((HO3.out.put (b := w.heap.size + 1) (o := 0) (.slice a2 len c2) (by omega)).put (b := w.heap.size + 1) (o := 1) (.slice a3 np c3) (by omega))
    have hZ := ((HB2.out.setCell (p := ⟨w.heap.size + 1, 0, none⟩) (by simp; try omega) (.slice a2 len c2)).setCell (p := ⟨w.heap.size + 1, 1, none⟩) (by simp; try omega) (.slice a3 np c3))
    have e0 := hX.cell 0
    have e1 := hX.cell 1
    simp at e0 e1
    clear hX
    clear k0 k1 k2 k3 f2 f3 j0 j1
    generalize (World.setCell _ _ _) = W9 at e0 e1 hO2 hO3 hZ ⊢
    refine bodyPost_ret (by simp [results, Tryd.results19, go_sem, e0, e1]; try rfl) rfl ?_
    exact ⟨a2, c2, a3, c3, rfl, hO2.mono (l := w.heap.size) (by omega), hO3.mono (l := w.heap.size) (by omega), hZ⟩
  have HIN : Hid (inB s 0 ((len : Int) - 1) = true) := hq
  have hq2 := inB_t hq
  clear hq
  obtain ⟨i, rfl⟩ : ∃ i : Nat, s = (i : Int) := ⟨s.toNat, by omega⟩
  have hil : i < len := by omega
  have hil2 : (i : Int) < (len : Int) := by omega
  have hs0 : 0 ≤ (i : Int) ∧ (i : Int) < (len : Int) := ⟨by omega, by omega⟩
  go_enter Tryd.func19, Tryd.ntmps19
  go_wp2_with (first | (go_at_call 15; go_loud (refine HCF.out.mono ?_; rintro e w1 ⟨rfl, b1⟩; obtain ⟨X0, X1, b2⟩ := two_bl b1; have HB1 : Hid (Below w.heap.size w w1) := b2; have k0 := (X0.cell 0).trans rfl; have k1 := (X0.cell 1).trans rfl; have k2 := (X1.cell 0).trans rfl; have k3 := (X1.cell 1).trans rfl; have f0 := X0.fr 0; have f1 := X0.fr 1; have f2 := X1.fr 0; have f3 := X1.fr 1; have HX0 := hid X0; have HX1 := hid X1; have hs1 : w.heap.size + 1 < w1.heap.size := X1.lt; clear b1 b2 HCF X0 X1)) | (go_at_call 58; go_loud (refine (l11Reg_any a b len cap c np pcap p _ h hn (HR.out.below HB1.out) (HP.out.below HB1.out)).mono ?_; rintro e w2 ⟨a2, c2, a3, c3, rfl, o2, o3, b2⟩; obtain ⟨O2, O3⟩ := own_pair o2 o3; have HO2 := hid O2; have HO3 := hid O3; have HR3 := hid o3; have HB2 : Hid (Below w.heap.size w w2) := bel_on HB1.out b2; have X0 := HX0.out.below b2 HX0.out.lt; have X1 := HX1.out.below b2 HX1.out.lt; have HY0 := hid X0; have HY1 := hid X1; clear k0 k1 k2 k3 f0 f1 f2 f3; have k0 : w2.cell? ⟨w.heap.size, 0, none⟩ = some (.slice (some a) len cap) := (X0.cell 0).trans rfl; have kk0 := keep_cell ((Below.refl _ _).alloc (Nat.le_refl _) (.cells #[.slice a2 len c2, .slice a3 np c3] 27 (0, 0))) k0; have hs2 : w1.heap.size ≤ w2.heap.size := b2.size; clear b2 o2 o3 X0 X1 O2 O3)))
  have hbn : Below w2.heap.size w2 (w2.alloc (.cells #[.slice a2 len c2, .slice a3 np c3] 27 (0, 0))) := (Below.refl _ _).alloc (Nat.le_refl _) _
  have XN : CB (w2.alloc (.cells #[.slice a2 len c2, .slice a3 np c3] 27 (0, 0))) w2.heap.size #[.slice a2 len c2, .slice a3 np c3] 27 := CB.new _ _
  replace HY0 := hid (HY0.out.below hbn HY0.out.lt)
  replace HY1 := hid (HY1.out.below hbn HY1.out.lt)
  replace HO2 := hid (HO2.out.below hbn)
  replace HO3 := hid (HO3.out.below hbn)
  replace HR3 := hid (ownsRow_below HR3.out hbn)
  replace HB2 := hid (bel_on HB2.out hbn)
  have hs3 := hbn.size
  clear hbn k0 kk0
  generalize (w2.alloc (.cells #[.slice a2 len c2, .slice a3 np c3] 27 (0, 0))) = wn at XN HY0 HY1 HO2 HO3 HR3 HB2 hs3 ⊢
  have HXN := hid XN
  have k0 := (XN.cell 0).trans rfl
  have k1 := (XN.cell 1).trans rfl
  have k2 := (HY1.out.cell 0).trans rfl
  have k3 := (HY1.out.cell 1).trans rfl
  have f2 := HY1.out.fr 0
  have f3 := HY1.out.fr 1
  have j0 : wn.cell? ⟨w.heap.size, 0, none⟩ = some (.slice (some a) len cap) := (HY0.out.cell 0).trans rfl
  have j1 : wn.cell? ⟨w.heap.size, 1, none⟩ = some (.slice (some b) np pcap) := (HY0.out.cell 1).trans rfl
  clear XN
  go_wp2_with (first | (go_at_call 51; refine (l1In_eq HIN.out).mono ?_; rintro e w3 ⟨rfl, ew⟩; replace ew := ew.symm; subst ew))
  go_loop [9, 10, 11] (fun u v k => ∃ (m : Nat), m ≤ np ∧ k = .int .i64 (m : Int) ∧ u = .int .i64 ((cntP p (i : Int) m : Int) + 1) ∧ v = .int .i64 (lstP p (i : Int) m)) (fun _ _ k => np - (intOf k).toNat)
  case atStart => exact ⟨0, Nat.zero_le _, rfl, rfl, rfl⟩
  case round =>
    obtain ⟨m, hm, rfl, rfl, rfl⟩ := hrel
    by_cases hml : m < np
    · have hml2 : (m : Int) < (np : Int) := by omega
      obtain ⟨kp, offp, e1, hkp⟩ := HP.out.addr (by omega)
      cases e1
      obtain ⟨x0, x1, x2, x3⟩ := (HP.out.below HB2.out).cell hml
      obtain ⟨r, hr⟩ : ∃ r, p m = r := ⟨_, rfl⟩
      have HY : Hid (p m = r) := hr
      rw [hr] at x0 x1 x2 x3
      obtain ⟨ps, pn, pd, pv⟩ := r
      simp only at x0 x1 x2 x3
      clear hr
      have hcl := cntP_le p (i : Int) m
      by_cases hse : ps = (i : Int)
      · have HSE : Hid ((p m).ser = (i : Int)) := hid (by rw [HY.out]; exact hse)
        have HCT : Hid (cntP p (i : Int) (m + 1) = cntP p (i : Int) m + 1) := cntP_hit HSE.out
        have HLT : Hid (lstP p (i : Int) (m + 1) = pd) := hid ((lstP_hit HSE.out).trans (by rw [HY.out]))
        have es1 : (ps == (i : Int)) = true := eq_t hse
        clear hse
        go_wp2
        go_round
        case rel => exact ⟨m + 1, by omega, by go_num, by rw [HCT.out]; go_num, by rw [HLT.out]⟩
        case measure => simp [intOf]; omega
      · have HSE : Hid (¬ (p m).ser = (i : Int)) := hid (by rw [HY.out]; exact hse)
        have HCT : Hid (cntP p (i : Int) (m + 1) = cntP p (i : Int) m) := cntP_miss HSE.out
        have HLT : Hid (lstP p (i : Int) (m + 1) = lstP p (i : Int) m) := lstP_miss HSE.out
        have es1 : (ps == (i : Int)) = false := eq_f hse
        clear hse
        go_wp2
        go_round
        case rel => exact ⟨m + 1, by omega, by go_num, by rw [HCT.out], by rw [HLT.out]⟩
        case measure => simp [intOf]; omega
    · obtain rfl : m = np := by omega
      have lmm : ¬ (m : Int) < (m : Int) := by omega
      have hcl := cntP_le p (i : Int) m
      obtain ⟨lt, hlt⟩ : ∃ x, lstP p (i : Int) m = x := ⟨_, rfl⟩
      have HLS : Hid (lstP p (i : Int) m = lt) := hlt
      rw [hlt]
      clear hlt
      cases hdy : inB day 0 40000
      · have HDY : Hid (inB day 0 40000 = false) := hdy
        have HV : Hid (issueR len c m p (i : Int) day = ⟨len, m, p, 3⟩) := issue_code HRP.out (refN_three hs0 (.inl (inB_f hdy))) (by decide)
        clear hdy
        go_wp2_with (first | (go_at_call 53; refine (l2Day_eq HDY.out).mono ?_; rintro e w3 ⟨rfl, ew⟩; replace ew := ew.symm; subst ew))
        have hX := ((HY1.out.set 0 (.slice a2 len c2)).set 1 (.slice a3 m c3))
        have hO2 := ((HO2.out.put (b := w.heap.size + 1) (o := 0) (.slice a2 len c2) (by omega)).put (b := w.heap.size + 1) (o := 1) (.slice a3 m c3) (by omega))
        have hO3 := ((HO3.out.put (b := w.heap.size + 1) (o := 0) (.slice a2 len c2) (by omega)).put (b := w.heap.size + 1) (o := 1) (.slice a3 m c3) (by omega))
        have hZ := ((HB2.out.setCell (p := ⟨w.heap.size + 1, 0, none⟩) (by simp; try omega) (.slice a2 len c2)).setCell (p := ⟨w.heap.size + 1, 1, none⟩) (by simp; try omega) (.slice a3 m c3))
        have e0 := hX.cell 0
        have e1 := hX.cell 1
        simp at e0 e1
        clear hX
        clear k0 k1 k2 k3 f2 f3 j0 j1
        generalize (World.setCell _ _ _) = W9 at e0 e1 hO2 hO3 hZ ⊢
        refine bodyPost_ret (by simp [results, Tryd.results19, go_sem, e0, e1]; try rfl) rfl ?_
        exact isI_of HV.out ⟨a2, c2, a3, c3, rfl, hO2.mono (l := w.heap.size) (by omega), hO3.mono (l := w.heap.size) (by omega), hZ⟩
      have HDY : Hid (inB day 0 40000 = true) := hdy
      have hd2 := inB_t hdy
      clear hdy
      by_cases hdl : day < lt
      · have HV : Hid (issueR len c m p (i : Int) day = ⟨len, m, p, 3⟩) := issue_code HRP.out (refN_three hs0 (.inr (by rw [HLS.out]; exact hdl))) (by decide)
        go_wp2_with (first | (go_at_call 53; refine (l2Day_eq HDY.out).mono ?_; rintro e w3 ⟨rfl, ew⟩; replace ew := ew.symm; subst ew))
        have hX := ((HY1.out.set 0 (.slice a2 len c2)).set 1 (.slice a3 m c3))
        have hO2 := ((HO2.out.put (b := w.heap.size + 1) (o := 0) (.slice a2 len c2) (by omega)).put (b := w.heap.size + 1) (o := 1) (.slice a3 m c3) (by omega))
        have hO3 := ((HO3.out.put (b := w.heap.size + 1) (o := 0) (.slice a2 len c2) (by omega)).put (b := w.heap.size + 1) (o := 1) (.slice a3 m c3) (by omega))
        have hZ := ((HB2.out.setCell (p := ⟨w.heap.size + 1, 0, none⟩) (by simp; try omega) (.slice a2 len c2)).setCell (p := ⟨w.heap.size + 1, 1, none⟩) (by simp; try omega) (.slice a3 m c3))
        have e0 := hX.cell 0
        have e1 := hX.cell 1
        simp at e0 e1
        clear hX
        clear k0 k1 k2 k3 f2 f3 j0 j1
        generalize (World.setCell _ _ _) = W9 at e0 e1 hO2 hO3 hZ ⊢
        refine bodyPost_ret (by simp [results, Tryd.results19, go_sem, e0, e1]; try rfl) rfl ?_
        exact isI_of HV.out ⟨a2, c2, a3, c3, rfl, hO2.mono (l := w.heap.size) (by omega), hO3.mono (l := w.heap.size) (by omega), hZ⟩
      have hdl2 : lt ≤ day := by omega
      obtain ⟨kb, off, e1, hkb⟩ := HR.out.addr (by omega)
      cases e1
      obtain ⟨y0, y1⟩ := (HR.out.below HB2.out).cell hil
      obtain ⟨r, hr⟩ : ∃ r, c i = r := ⟨_, rfl⟩
      have HX : Hid (c i = r) := hr
      rw [hr] at y0 y1
      obtain ⟨pr, wd⟩ := r
      simp only at y0 y1
      clear hr
      have hBn : Below wn.heap.size wn wn := Below.refl _ _
      have hBnd : Below wn.heap.size wn wn.drew := (Below.refl _ _).drew
      by_cases hf : m = 400
      · have HV : Hid (issueR len c m p (i : Int) day = ⟨len, m, p, 4⟩) := issue_code HRP.out (refN_four hs0 hd2 (by rw [HLS.out]; exact hdl2) (.inl hf)) (by decide)
        have hk4 : ((m : Int) == 400) = true := eq_t (by omega)
        clear hf
        go_wp2_with (first | (go_at_call 53; refine (l2Day_eq HDY.out).mono ?_; rintro e w3 ⟨rfl, ew⟩; replace ew := ew.symm; subst ew))
        refine wp_region_noPanic ?_
        refine wp_region_held_drew (S := fun w' => w'.cell? ⟨w.heap.size, 0, none⟩ = some (.slice (some ⟨kb, off, none⟩) len cap) ∧ w'.cell? ⟨w.heap.size, 1, none⟩ = some (.slice (some b) m pcap) ∧ w'.cell? ⟨kb, off + i * 2, none⟩ = some (.string pr) ∧ w'.cell? ⟨kb, off + i * 2 + 1, none⟩ = some (.int .i64 wd) ∧ Below wn.heap.size wn w') (by kernel_rfl) ?_ (fun hHeld => ?_)
        · (try dsimp only); refine ⟨?_, ?_, ?_, ?_, ?_⟩ <;> first | assumption | (simp [*, World.cell?_alloc_some]; done)
        refine wpAnyH_take (i := 0) (oi := { dst := some 58, op := Go.Op.fieldAddr 27 (Go.Operand.tmp 3) 1, type := 0, pos := "l11_papers.go:62", after := #[], guard := none }) (v := ?_) rfl (by kernel_rfl) (by kernel_rfl) (by kernel_rfl) (fun _ _ _ h => h) (Or.inl ⟨by rfl, ?_⟩) (by assumption) ?_
        rotate_left
        · (intro w hSw; (try dsimp only at hSw); go_simp <;> try with_reducible rfl)
        try simp only [Act.put, List.setIfInBounds_toArray, List.set_cons_zero, List.set_cons_succ]
        refine wpAnyH_take (i := 1) (oi := { dst := some 59, op := Go.Op.load 25 (Go.Operand.tmp 58), type := 25, pos := "l11_papers.go:62", after := #[{ on := 0, ground := Go.Ground.data }], guard := none }) (v := ?_) rfl (by kernel_rfl) (by kernel_rfl) (by kernel_rfl) (fun _ _ _ h => h) (Or.inl ⟨by rfl, ?_⟩) (by assumption) ?_
        rotate_left
        · (intro w hSw; (try dsimp only at hSw); go_simp <;> try with_reducible rfl)
        try simp only [Act.put, List.setIfInBounds_toArray, List.set_cons_zero, List.set_cons_succ]
        refine wpAnyH_take (i := 2) (oi := { dst := some 60, op := Go.Op.call { callee := Go.Callee.builtin Go.Builtin.len, args := #[Go.Operand.tmp 59], argTypes := #[25] }, type := 3, pos := "l11_papers.go:62", after := #[{ on := 1, ground := Go.Ground.data }], guard := none }) (v := ?_) rfl (by kernel_rfl) (by kernel_rfl) (by kernel_rfl) (fun _ _ _ h => h) (Or.inl ⟨by rfl, ?_⟩) (by assumption) ?_
        rotate_left
        · (intro w hSw; (try dsimp only at hSw); go_simp <;> try with_reducible rfl)
        try simp only [Act.put, List.setIfInBounds_toArray, List.set_cons_zero, List.set_cons_succ]
        refine wpAnyH_take (i := 3) (oi := { dst := some 61, op := Go.Op.binOp Go.BinOp.eql 3 (Go.Operand.tmp 60) (Go.Operand.const (Go.Value.int Go.IntKind.i64 400)) 3, type := 4, pos := "l11_papers.go:62", after := #[{ on := 2, ground := Go.Ground.data }], guard := none }) (v := ?_) rfl (by kernel_rfl) (by kernel_rfl) (by kernel_rfl) (fun _ _ _ h => h) (Or.inl ⟨by rfl, ?_⟩) (by assumption) ?_
        rotate_left
        · (intro w hSw; (try dsimp only at hSw); go_simp <;> try with_reducible rfl)
        try simp only [Act.put, List.setIfInBounds_toArray, List.set_cons_zero, List.set_cons_succ]
        refine wpAnyH_take (i := 4) (oi := { dst := some 62, op := Go.Op.move (Go.Operand.tmp 61), type := 4, pos := "l11_papers.go:62", after := #[{ on := 3, ground := Go.Ground.data }], guard := none }) (v := ?_) rfl (by kernel_rfl) (by kernel_rfl) (by kernel_rfl) (fun _ _ _ h => h) (Or.inl ⟨by rfl, ?_⟩) (by assumption) ?_
        rotate_left
        · (intro w hSw; (try dsimp only at hSw); go_simp <;> try with_reducible rfl)
        try simp only [Act.put, List.setIfInBounds_toArray, List.set_cons_zero, List.set_cons_succ]
        refine wpAnyH_take (i := 5) (oi := { dst := some 63, op := Go.Op.move (Go.Operand.tmp 9), type := 3, pos := "l11_papers.go:62", after := #[{ on := 4, ground := Go.Ground.guard }], guard := some (4, false) }) (v := undef) rfl (by kernel_rfl) (by kernel_rfl) (by kernel_rfl) (fun _ _ _ h => h) (Or.inr ⟨by rfl, rfl⟩) (by assumption) ?_
        try simp only [Act.put, List.setIfInBounds_toArray, List.set_cons_zero, List.set_cons_succ]
        refine wpAnyH_take (i := 6) (oi := { dst := some 64, op := Go.Op.call { callee := Go.Callee.value (Go.Operand.func 52), args := #[Go.Operand.tmp 63], argTypes := #[3] }, type := 9, pos := "l11_papers.go:62", after := #[{ on := 5, ground := Go.Ground.data }, { on := 4, ground := Go.Ground.chain }, { on := 4, ground := Go.Ground.guard }], guard := some (4, false) }) (v := undef) rfl (by kernel_rfl) (by kernel_rfl) (by kernel_rfl) (fun _ _ _ h => h) (Or.inr ⟨by rfl, rfl⟩) (by assumption) ?_
        try simp only [Act.put, List.setIfInBounds_toArray, List.set_cons_zero, List.set_cons_succ]
        refine wpAnyH_take (i := 7) (oi := { dst := some 65, op := Go.Op.call { callee := Go.Callee.builtin Go.Builtin.len, args := #[Go.Operand.tmp 64], argTypes := #[9] }, type := 3, pos := "l11_papers.go:62", after := #[{ on := 6, ground := Go.Ground.data }, { on := 4, ground := Go.Ground.guard }], guard := some (4, false) }) (v := undef) rfl (by kernel_rfl) (by kernel_rfl) (by kernel_rfl) (fun _ _ _ h => h) (Or.inr ⟨by rfl, rfl⟩) (by assumption) ?_
        try simp only [Act.put, List.setIfInBounds_toArray, List.set_cons_zero, List.set_cons_succ]
        refine wpAnyH_take (i := 8) (oi := { dst := some 66, op := Go.Op.fieldAddr 27 (Go.Operand.tmp 3) 0, type := 0, pos := "l11_papers.go:62", after := #[{ on := 4, ground := Go.Ground.guard }], guard := some (4, false) }) (v := undef) rfl (by kernel_rfl) (by kernel_rfl) (by kernel_rfl) (fun _ _ _ h => h) (Or.inr ⟨by rfl, rfl⟩) (by assumption) ?_
        try simp only [Act.put, List.setIfInBounds_toArray, List.set_cons_zero, List.set_cons_succ]
        refine wpAnyH_take (i := 9) (oi := { dst := some 67, op := Go.Op.load 24 (Go.Operand.tmp 66), type := 24, pos := "l11_papers.go:62", after := #[{ on := 8, ground := Go.Ground.data }, { on := 4, ground := Go.Ground.guard }], guard := some (4, false) }) (v := undef) rfl (by kernel_rfl) (by kernel_rfl) (by kernel_rfl) (fun _ _ _ h => h) (Or.inr ⟨by rfl, rfl⟩) (by assumption) ?_
        try simp only [Act.put, List.setIfInBounds_toArray, List.set_cons_zero, List.set_cons_succ]
        refine wpAnyH_take (i := 10) (oi := { dst := some 68, op := Go.Op.move (Go.Operand.tmp 1), type := 3, pos := "l11_papers.go:62", after := #[{ on := 4, ground := Go.Ground.guard }], guard := some (4, false) }) (v := undef) rfl (by kernel_rfl) (by kernel_rfl) (by kernel_rfl) (fun _ _ _ h => h) (Or.inr ⟨by rfl, rfl⟩) (by assumption) ?_
        try simp only [Act.put, List.setIfInBounds_toArray, List.set_cons_zero, List.set_cons_succ]
        refine wpAnyH_take (i := 11) (oi := { dst := some 69, op := Go.Op.indexAddr 24 (Go.Operand.tmp 67) (Go.Operand.tmp 68), type := 0, pos := "l11_papers.go:62", after := #[{ on := 9, ground := Go.Ground.data }, { on := 10, ground := Go.Ground.data }, { on := 4, ground := Go.Ground.guard }], guard := some (4, false) }) (v := undef) rfl (by kernel_rfl) (by kernel_rfl) (by kernel_rfl) (fun _ _ _ h => h) (Or.inr ⟨by rfl, rfl⟩) (by assumption) ?_
        try simp only [Act.put, List.setIfInBounds_toArray, List.set_cons_zero, List.set_cons_succ]
        refine wpAnyH_take (i := 12) (oi := { dst := some 70, op := Go.Op.fieldAddr 75 (Go.Operand.tmp 69) 1, type := 0, pos := "l11_papers.go:62", after := #[{ on := 11, ground := Go.Ground.data }, { on := 4, ground := Go.Ground.guard }], guard := some (4, false) }) (v := undef) rfl (by kernel_rfl) (by kernel_rfl) (by kernel_rfl) (fun _ _ _ h => h) (Or.inr ⟨by rfl, rfl⟩) (by assumption) ?_
        try simp only [Act.put, List.setIfInBounds_toArray, List.set_cons_zero, List.set_cons_succ]
        refine wpAnyH_take (i := 13) (oi := { dst := some 71, op := Go.Op.load 3 (Go.Operand.tmp 70), type := 3, pos := "l11_papers.go:62", after := #[{ on := 12, ground := Go.Ground.data }, { on := 4, ground := Go.Ground.guard }], guard := some (4, false) }) (v := undef) rfl (by kernel_rfl) (by kernel_rfl) (by kernel_rfl) (fun _ _ _ h => h) (Or.inr ⟨by rfl, rfl⟩) (by assumption) ?_
        try simp only [Act.put, List.setIfInBounds_toArray, List.set_cons_zero, List.set_cons_succ]
        refine wpAnyH_take (i := 14) (oi := { dst := some 72, op := Go.Op.binOp Go.BinOp.gtr 3 (Go.Operand.tmp 65) (Go.Operand.tmp 71) 3, type := 4, pos := "l11_papers.go:62", after := #[{ on := 7, ground := Go.Ground.data }, { on := 13, ground := Go.Ground.data }, { on := 4, ground := Go.Ground.guard }], guard := some (4, false) }) (v := undef) rfl (by kernel_rfl) (by kernel_rfl) (by kernel_rfl) (fun _ _ _ h => h) (Or.inr ⟨by rfl, rfl⟩) (by assumption) ?_
        try simp only [Act.put, List.setIfInBounds_toArray, List.set_cons_zero, List.set_cons_succ]
        refine wpAnyH_take (i := 15) (oi := { dst := some 73, op := Go.Op.pick (Go.Operand.tmp 62) (Go.Operand.const (Go.Value.bool true)) (Go.Operand.tmp 72), type := 4, pos := "l11_papers.go:62", after := #[{ on := 4, ground := Go.Ground.data }, { on := 14, ground := Go.Ground.data }], guard := none }) (v := ?_) rfl (by kernel_rfl) (by kernel_rfl) (by kernel_rfl) (fun _ _ _ h => h) (Or.inl ⟨by rfl, ?_⟩) (by assumption) ?_
        rotate_left
        · (intro w hSw; (try dsimp only at hSw); go_simp <;> try with_reducible rfl)
        try simp only [Act.put, List.setIfInBounds_toArray, List.set_cons_zero, List.set_cons_succ]
        refine wpAnyH_done (by kernel_rfl) ?_ _
        refine NoPanic.normal ?_
        clear hBn y0 y1
        generalize wn.drew = wx at hBnd ⊢
        replace HY1 := hid (HY1.out.below hBnd HY1.out.lt)
        replace HO2 := hid (HO2.out.below hBnd)
        replace HO3 := hid (HO3.out.below hBnd)
        replace HR3 := hid (ownsRow_below HR3.out hBnd)
        replace HB2 := hid (bel_on HB2.out hBnd)
        have XN := HXN.out.below hBnd HXN.out.lt
        have hs4 := hBnd.size
        clear k0 k1 k2 k3 f2 f3 j0 j1
        have k0 := (XN.cell 0).trans rfl
        have k1 := (XN.cell 1).trans rfl
        have k2 := (HY1.out.cell 0).trans rfl
        have k3 := (HY1.out.cell 1).trans rfl
        have f0 := XN.fr 0
        have f1 := XN.fr 1
        have f2 := HY1.out.fr 0
        have f3 := HY1.out.fr 1
        have HXM := hid XN
        clear XN
        go_wp2
        have hX := ((HY1.out.set 0 (.slice a2 len c2)).set 1 (.slice a3 m c3))
        have hO2 := ((HO2.out.put (b := w.heap.size + 1) (o := 0) (.slice a2 len c2) (by omega)).put (b := w.heap.size + 1) (o := 1) (.slice a3 m c3) (by omega))
        have hO3 := ((HO3.out.put (b := w.heap.size + 1) (o := 0) (.slice a2 len c2) (by omega)).put (b := w.heap.size + 1) (o := 1) (.slice a3 m c3) (by omega))
        have hZ := ((HB2.out.setCell (p := ⟨w.heap.size + 1, 0, none⟩) (by simp; try omega) (.slice a2 len c2)).setCell (p := ⟨w.heap.size + 1, 1, none⟩) (by simp; try omega) (.slice a3 m c3))
        have e0 := hX.cell 0
        have e1 := hX.cell 1
        simp at e0 e1
        clear hX
        clear k0 k1 k2 k3 f0 f1 f2 f3
        generalize (World.setCell _ _ _) = W9 at e0 e1 hO2 hO3 hZ ⊢
        refine bodyPost_ret (by simp [results, Tryd.results19, go_sem, e0, e1]; try rfl) rfl ?_
        exact isI_of HV.out ⟨a2, c2, a3, c3, rfl, hO2.mono (l := w.heap.size) (by omega), hO3.mono (l := w.heap.size) (by omega), hZ⟩
      have hk4 : ((m : Int) == 400) = false := eq_f (by omega)
      have HTX0 : Hid (((strB (decDigits (cntP p (i : Int) m + 1))).size : Int) = dg (cntP p (i : Int) m + 1)) := hid (by rw [strB_size]; rfl)
      obtain ⟨A, hA⟩ : ∃ A, strB (decDigits (cntP p (i : Int) m + 1)) = A := ⟨_, rfl⟩
      have HTX : Hid (strB (decDigits (cntP p (i : Int) m + 1)) = A) := hA
      rw [hA] at HTX0
      clear hA
      by_cases hww : wd < (A.size : Int)
      · have HV : Hid (issueR len c m p (i : Int) day = ⟨len, m, p, 4⟩) := issue_code HRP.out (refN_four hs0 hd2 (by rw [HLS.out]; exact hdl2) (.inr (by simp only [Int.toNat_natCast]; rw [HX.out, ← HTX0.out]; exact hww))) (by decide)
        go_wp2_with (first | (go_at_call 53; refine (l2Day_eq HDY.out).mono ?_; rintro e w3 ⟨rfl, ew⟩; replace ew := ew.symm; subst ew))
        refine wp_region_noPanic ?_
        refine wp_region_held_drew (S := fun w' => w'.cell? ⟨w.heap.size, 0, none⟩ = some (.slice (some ⟨kb, off, none⟩) len cap) ∧ w'.cell? ⟨w.heap.size, 1, none⟩ = some (.slice (some b) m pcap) ∧ w'.cell? ⟨kb, off + i * 2, none⟩ = some (.string pr) ∧ w'.cell? ⟨kb, off + i * 2 + 1, none⟩ = some (.int .i64 wd) ∧ Below wn.heap.size wn w') (by kernel_rfl) ?_ (fun hHeld => ?_)
        · (try dsimp only); refine ⟨?_, ?_, ?_, ?_, ?_⟩ <;> first | assumption | (simp [*, World.cell?_alloc_some]; done)
        refine wpAnyH_take (i := 0) (oi := { dst := some 58, op := Go.Op.fieldAddr 27 (Go.Operand.tmp 3) 1, type := 0, pos := "l11_papers.go:62", after := #[], guard := none }) (v := ?_) rfl (by kernel_rfl) (by kernel_rfl) (by kernel_rfl) (fun _ _ _ h => h) (Or.inl ⟨by rfl, ?_⟩) (by assumption) ?_
        rotate_left
        · (intro w hSw; (try dsimp only at hSw); go_simp <;> try with_reducible rfl)
        try simp only [Act.put, List.setIfInBounds_toArray, List.set_cons_zero, List.set_cons_succ]
        refine wpAnyH_take (i := 1) (oi := { dst := some 59, op := Go.Op.load 25 (Go.Operand.tmp 58), type := 25, pos := "l11_papers.go:62", after := #[{ on := 0, ground := Go.Ground.data }], guard := none }) (v := ?_) rfl (by kernel_rfl) (by kernel_rfl) (by kernel_rfl) (fun _ _ _ h => h) (Or.inl ⟨by rfl, ?_⟩) (by assumption) ?_
        rotate_left
        · (intro w hSw; (try dsimp only at hSw); go_simp <;> try with_reducible rfl)
        try simp only [Act.put, List.setIfInBounds_toArray, List.set_cons_zero, List.set_cons_succ]
        refine wpAnyH_take (i := 2) (oi := { dst := some 60, op := Go.Op.call { callee := Go.Callee.builtin Go.Builtin.len, args := #[Go.Operand.tmp 59], argTypes := #[25] }, type := 3, pos := "l11_papers.go:62", after := #[{ on := 1, ground := Go.Ground.data }], guard := none }) (v := ?_) rfl (by kernel_rfl) (by kernel_rfl) (by kernel_rfl) (fun _ _ _ h => h) (Or.inl ⟨by rfl, ?_⟩) (by assumption) ?_
        rotate_left
        · (intro w hSw; (try dsimp only at hSw); go_simp <;> try with_reducible rfl)
        try simp only [Act.put, List.setIfInBounds_toArray, List.set_cons_zero, List.set_cons_succ]
        refine wpAnyH_take (i := 3) (oi := { dst := some 61, op := Go.Op.binOp Go.BinOp.eql 3 (Go.Operand.tmp 60) (Go.Operand.const (Go.Value.int Go.IntKind.i64 400)) 3, type := 4, pos := "l11_papers.go:62", after := #[{ on := 2, ground := Go.Ground.data }], guard := none }) (v := ?_) rfl (by kernel_rfl) (by kernel_rfl) (by kernel_rfl) (fun _ _ _ h => h) (Or.inl ⟨by rfl, ?_⟩) (by assumption) ?_
        rotate_left
        · (intro w hSw; (try dsimp only at hSw); go_simp <;> try with_reducible rfl)
        try simp only [Act.put, List.setIfInBounds_toArray, List.set_cons_zero, List.set_cons_succ]
        refine wpAnyH_take (i := 4) (oi := { dst := some 62, op := Go.Op.move (Go.Operand.tmp 61), type := 4, pos := "l11_papers.go:62", after := #[{ on := 3, ground := Go.Ground.data }], guard := none }) (v := ?_) rfl (by kernel_rfl) (by kernel_rfl) (by kernel_rfl) (fun _ _ _ h => h) (Or.inl ⟨by rfl, ?_⟩) (by assumption) ?_
        rotate_left
        · (intro w hSw; (try dsimp only at hSw); go_simp <;> try with_reducible rfl)
        try simp only [Act.put, List.setIfInBounds_toArray, List.set_cons_zero, List.set_cons_succ]
        refine wpAnyH_take (i := 5) (oi := { dst := some 63, op := Go.Op.move (Go.Operand.tmp 9), type := 3, pos := "l11_papers.go:62", after := #[{ on := 4, ground := Go.Ground.guard }], guard := some (4, false) }) (v := ?_) rfl (by kernel_rfl) (by kernel_rfl) (by kernel_rfl) (fun _ _ _ h => h) (Or.inl ⟨by rfl, ?_⟩) (by assumption) ?_
        rotate_left
        · (intro w hSw; (try dsimp only at hSw); go_simp <;> try with_reducible rfl)
        try simp only [Act.put, List.setIfInBounds_toArray, List.set_cons_zero, List.set_cons_succ]
        refine wpAnyH_take (i := 8) (oi := { dst := some 66, op := Go.Op.fieldAddr 27 (Go.Operand.tmp 3) 0, type := 0, pos := "l11_papers.go:62", after := #[{ on := 4, ground := Go.Ground.guard }], guard := some (4, false) }) (v := ?_) rfl (by kernel_rfl) (by kernel_rfl) (by kernel_rfl) (fun _ _ _ h => h) (Or.inl ⟨by rfl, ?_⟩) (by assumption) ?_
        rotate_left
        · (intro w hSw; (try dsimp only at hSw); go_simp <;> try with_reducible rfl)
        try simp only [Act.put, List.setIfInBounds_toArray, List.set_cons_zero, List.set_cons_succ]
        refine wpAnyH_take (i := 9) (oi := { dst := some 67, op := Go.Op.load 24 (Go.Operand.tmp 66), type := 24, pos := "l11_papers.go:62", after := #[{ on := 8, ground := Go.Ground.data }, { on := 4, ground := Go.Ground.guard }], guard := some (4, false) }) (v := ?_) rfl (by kernel_rfl) (by kernel_rfl) (by kernel_rfl) (fun _ _ _ h => h) (Or.inl ⟨by rfl, ?_⟩) (by assumption) ?_
        rotate_left
        · (intro w hSw; (try dsimp only at hSw); go_simp <;> try with_reducible rfl)
        try simp only [Act.put, List.setIfInBounds_toArray, List.set_cons_zero, List.set_cons_succ]
        refine wpAnyH_take (i := 10) (oi := { dst := some 68, op := Go.Op.move (Go.Operand.tmp 1), type := 3, pos := "l11_papers.go:62", after := #[{ on := 4, ground := Go.Ground.guard }], guard := some (4, false) }) (v := ?_) rfl (by kernel_rfl) (by kernel_rfl) (by kernel_rfl) (fun _ _ _ h => h) (Or.inl ⟨by rfl, ?_⟩) (by assumption) ?_
        rotate_left
        · (intro w hSw; (try dsimp only at hSw); go_simp <;> try with_reducible rfl)
        try simp only [Act.put, List.setIfInBounds_toArray, List.set_cons_zero, List.set_cons_succ]
        refine wpAnyH_take (i := 11) (oi := { dst := some 69, op := Go.Op.indexAddr 24 (Go.Operand.tmp 67) (Go.Operand.tmp 68), type := 0, pos := "l11_papers.go:62", after := #[{ on := 9, ground := Go.Ground.data }, { on := 10, ground := Go.Ground.data }, { on := 4, ground := Go.Ground.guard }], guard := some (4, false) }) (v := ?_) rfl (by kernel_rfl) (by kernel_rfl) (by kernel_rfl) (fun _ _ _ h => h) (Or.inl ⟨by rfl, ?_⟩) (by assumption) ?_
        rotate_left
        · (intro w hSw; (try dsimp only at hSw); go_simp <;> try with_reducible rfl)
        try simp only [Act.put, List.setIfInBounds_toArray, List.set_cons_zero, List.set_cons_succ]
        refine wpAnyH_take (i := 12) (oi := { dst := some 70, op := Go.Op.fieldAddr 75 (Go.Operand.tmp 69) 1, type := 0, pos := "l11_papers.go:62", after := #[{ on := 11, ground := Go.Ground.data }, { on := 4, ground := Go.Ground.guard }], guard := some (4, false) }) (v := ?_) rfl (by kernel_rfl) (by kernel_rfl) (by kernel_rfl) (fun _ _ _ h => h) (Or.inl ⟨by rfl, ?_⟩) (by assumption) ?_
        rotate_left
        · (intro w hSw; (try dsimp only at hSw); go_simp <;> try with_reducible rfl)
        try simp only [Act.put, List.setIfInBounds_toArray, List.set_cons_zero, List.set_cons_succ]
        refine wpAnyH_take (i := 13) (oi := { dst := some 71, op := Go.Op.load 3 (Go.Operand.tmp 70), type := 3, pos := "l11_papers.go:62", after := #[{ on := 12, ground := Go.Ground.data }, { on := 4, ground := Go.Ground.guard }], guard := some (4, false) }) (v := ?_) rfl (by kernel_rfl) (by kernel_rfl) (by kernel_rfl) (fun _ _ _ h => h) (Or.inl ⟨by rfl, ?_⟩) (by assumption) ?_
        rotate_left
        · (intro w hSw; (try dsimp only at hSw); go_simp <;> try with_reducible rfl)
        try simp only [Act.put, List.setIfInBounds_toArray, List.set_cons_zero, List.set_cons_succ]
        refine wpAnyH_ready (rs := [6]) (by kernel_rfl) (by simp) ?_
        refine AllReadyH.cons (o := { dst := some 64, op := Go.Op.call { callee := Go.Callee.value (Go.Operand.func 52), args := #[Go.Operand.tmp 63], argTypes := #[3] }, type := 9, pos := "l11_papers.go:62", after := #[{ on := 5, ground := Go.Ground.data }, { on := 4, ground := Go.Ground.chain }, { on := 4, ground := Go.Ground.guard }], guard := some (4, false) }) rfl (fun K hK => ?_) AllReadyH.nil
        go_simp
        (go_at_call 52; refine (text_at (m := cntP p (i : Int) m + 1) (by omega) (by omega)).mono ?_; rintro e w4 ⟨rfl, q0, ew⟩; rw [HTX.out]; have b4 := ew ▸ drew_below _ q0; clear ew; have q1_0 : w4.cell? ⟨w.heap.size, 0, none⟩ = some (.slice (some ⟨kb, off, none⟩) len cap) := keep_cell b4 (by simp [*]); have q1_1 : w4.cell? ⟨w.heap.size, 1, none⟩ = some (.slice (some b) m pcap) := keep_cell b4 (by simp [*]); have q1_2 : w4.cell? ⟨kb, off + i * 2, none⟩ = some (.string pr) := keep_cell b4 (by simp [*]); have q1_3 : w4.cell? ⟨kb, off + i * 2 + 1, none⟩ = some (.int .i64 wd) := keep_cell b4 (by simp [*]); have p1 : Below wn.heap.size wn w4 := bel_on (by assumption) b4; clear b4)
        first | refine hK.out _ _ ?_ (fun hHeld => ?_) | (go_wp2_with fail; refine hK.out _ _ ?_ (fun hHeld => ?_))
        · (try dsimp only); refine ⟨?_, ?_, ?_, ?_, ?_⟩ <;> first | assumption | (simp [*, World.cell?_alloc_some]; done)
        clear hK K
        try simp only [Act.put, List.setIfInBounds_toArray, List.set_cons_zero, List.set_cons_succ]
        refine wpAnyH_take (i := 7) (oi := { dst := some 65, op := Go.Op.call { callee := Go.Callee.builtin Go.Builtin.len, args := #[Go.Operand.tmp 64], argTypes := #[9] }, type := 3, pos := "l11_papers.go:62", after := #[{ on := 6, ground := Go.Ground.data }, { on := 4, ground := Go.Ground.guard }], guard := some (4, false) }) (v := ?_) rfl (by kernel_rfl) (by kernel_rfl) (by kernel_rfl) (fun _ _ _ h => h) (Or.inl ⟨by rfl, ?_⟩) (by assumption) ?_
        rotate_left
        · (intro w hSw; (try dsimp only at hSw); go_simp <;> try with_reducible rfl)
        try simp only [Act.put, List.setIfInBounds_toArray, List.set_cons_zero, List.set_cons_succ]
        refine wpAnyH_take (i := 14) (oi := { dst := some 72, op := Go.Op.binOp Go.BinOp.gtr 3 (Go.Operand.tmp 65) (Go.Operand.tmp 71) 3, type := 4, pos := "l11_papers.go:62", after := #[{ on := 7, ground := Go.Ground.data }, { on := 13, ground := Go.Ground.data }, { on := 4, ground := Go.Ground.guard }], guard := some (4, false) }) (v := ?_) rfl (by kernel_rfl) (by kernel_rfl) (by kernel_rfl) (fun _ _ _ h => h) (Or.inl ⟨by rfl, ?_⟩) (by assumption) ?_
        rotate_left
        · (intro w hSw; (try dsimp only at hSw); go_simp <;> try with_reducible rfl)
        try simp only [Act.put, List.setIfInBounds_toArray, List.set_cons_zero, List.set_cons_succ]
        refine wpAnyH_take (i := 15) (oi := { dst := some 73, op := Go.Op.pick (Go.Operand.tmp 62) (Go.Operand.const (Go.Value.bool true)) (Go.Operand.tmp 72), type := 4, pos := "l11_papers.go:62", after := #[{ on := 4, ground := Go.Ground.data }, { on := 14, ground := Go.Ground.data }], guard := none }) (v := ?_) rfl (by kernel_rfl) (by kernel_rfl) (by kernel_rfl) (fun _ _ _ h => h) (Or.inl ⟨by rfl, ?_⟩) (by assumption) ?_
        rotate_left
        · (intro w hSw; (try dsimp only at hSw); go_simp <;> try with_reducible rfl)
        try simp only [Act.put, List.setIfInBounds_toArray, List.set_cons_zero, List.set_cons_succ]
        refine wpAnyH_done (by kernel_rfl) ?_ _
        refine NoPanic.normal ?_
        replace HY1 := hid (HY1.out.below p1 HY1.out.lt)
        replace HO2 := hid (HO2.out.below p1)
        replace HO3 := hid (HO3.out.below p1)
        replace HR3 := hid (ownsRow_below HR3.out p1)
        replace HB2 := hid (bel_on HB2.out p1)
        have XN := HXN.out.below p1 HXN.out.lt
        have hs4 := p1.size
        clear k0 k1 k2 k3 f2 f3 j0 j1
        have k0 := (XN.cell 0).trans rfl
        have k1 := (XN.cell 1).trans rfl
        have k2 := (HY1.out.cell 0).trans rfl
        have k3 := (HY1.out.cell 1).trans rfl
        have f0 := XN.fr 0
        have f1 := XN.fr 1
        have f2 := HY1.out.fr 0
        have f3 := HY1.out.fr 1
        have HXM := hid XN
        clear XN
        go_wp2
        have hX := ((HY1.out.set 0 (.slice a2 len c2)).set 1 (.slice a3 m c3))
        have hO2 := ((HO2.out.put (b := w.heap.size + 1) (o := 0) (.slice a2 len c2) (by omega)).put (b := w.heap.size + 1) (o := 1) (.slice a3 m c3) (by omega))
        have hO3 := ((HO3.out.put (b := w.heap.size + 1) (o := 0) (.slice a2 len c2) (by omega)).put (b := w.heap.size + 1) (o := 1) (.slice a3 m c3) (by omega))
        have hZ := ((HB2.out.setCell (p := ⟨w.heap.size + 1, 0, none⟩) (by simp; try omega) (.slice a2 len c2)).setCell (p := ⟨w.heap.size + 1, 1, none⟩) (by simp; try omega) (.slice a3 m c3))
        have e0 := hX.cell 0
        have e1 := hX.cell 1
        simp at e0 e1
        clear hX
        clear k0 k1 k2 k3 f0 f1 f2 f3
        generalize (World.setCell _ _ _) = W9 at e0 e1 hO2 hO3 hZ ⊢
        refine bodyPost_ret (by simp [results, Tryd.results19, go_sem, e0, e1]; try rfl) rfl ?_
        exact isI_of HV.out ⟨a2, c2, a3, c3, rfl, hO2.mono (l := w.heap.size) (by omega), hO3.mono (l := w.heap.size) (by omega), hZ⟩
      have HV : Hid (issueR len c m p (i : Int) day = ⟨len, m + 1, ext p m (newP p m (i : Int) day), 0⟩) := issueR_t HRP.out (refN_zero hs0 hd2 (by rw [HLS.out]; exact hdl2) hf (by simp only [Int.toNat_natCast]; rw [HX.out, ← HTX0.out]; dsimp only; omega))
      obtain ⟨iP, gi, gz0, gz1, gz2⟩ := infoP4
      go_wp2_with (first | (go_at_call 53; refine (l2Day_eq HDY.out).mono ?_; rintro e w3 ⟨rfl, ew⟩; replace ew := ew.symm; subst ew))
      refine wp_region_noPanic ?_
      refine wp_region_held_drew (S := fun w' => w'.cell? ⟨w.heap.size, 0, none⟩ = some (.slice (some ⟨kb, off, none⟩) len cap) ∧ w'.cell? ⟨w.heap.size, 1, none⟩ = some (.slice (some b) m pcap) ∧ w'.cell? ⟨kb, off + i * 2, none⟩ = some (.string pr) ∧ w'.cell? ⟨kb, off + i * 2 + 1, none⟩ = some (.int .i64 wd) ∧ Below wn.heap.size wn w') (by kernel_rfl) ?_ (fun hHeld => ?_)
      · (try dsimp only); refine ⟨?_, ?_, ?_, ?_, ?_⟩ <;> first | assumption | (simp [*, World.cell?_alloc_some]; done)
      refine wpAnyH_take (i := 0) (oi := { dst := some 58, op := Go.Op.fieldAddr 27 (Go.Operand.tmp 3) 1, type := 0, pos := "l11_papers.go:62", after := #[], guard := none }) (v := ?_) rfl (by kernel_rfl) (by kernel_rfl) (by kernel_rfl) (fun _ _ _ h => h) (Or.inl ⟨by rfl, ?_⟩) (by assumption) ?_
      rotate_left
      · (intro w hSw; (try dsimp only at hSw); go_simp <;> try with_reducible rfl)
      try simp only [Act.put, List.setIfInBounds_toArray, List.set_cons_zero, List.set_cons_succ]
      refine wpAnyH_take (i := 1) (oi := { dst := some 59, op := Go.Op.load 25 (Go.Operand.tmp 58), type := 25, pos := "l11_papers.go:62", after := #[{ on := 0, ground := Go.Ground.data }], guard := none }) (v := ?_) rfl (by kernel_rfl) (by kernel_rfl) (by kernel_rfl) (fun _ _ _ h => h) (Or.inl ⟨by rfl, ?_⟩) (by assumption) ?_
      rotate_left
      · (intro w hSw; (try dsimp only at hSw); go_simp <;> try with_reducible rfl)
      try simp only [Act.put, List.setIfInBounds_toArray, List.set_cons_zero, List.set_cons_succ]
      refine wpAnyH_take (i := 2) (oi := { dst := some 60, op := Go.Op.call { callee := Go.Callee.builtin Go.Builtin.len, args := #[Go.Operand.tmp 59], argTypes := #[25] }, type := 3, pos := "l11_papers.go:62", after := #[{ on := 1, ground := Go.Ground.data }], guard := none }) (v := ?_) rfl (by kernel_rfl) (by kernel_rfl) (by kernel_rfl) (fun _ _ _ h => h) (Or.inl ⟨by rfl, ?_⟩) (by assumption) ?_
      rotate_left
      · (intro w hSw; (try dsimp only at hSw); go_simp <;> try with_reducible rfl)
      try simp only [Act.put, List.setIfInBounds_toArray, List.set_cons_zero, List.set_cons_succ]
      refine wpAnyH_take (i := 3) (oi := { dst := some 61, op := Go.Op.binOp Go.BinOp.eql 3 (Go.Operand.tmp 60) (Go.Operand.const (Go.Value.int Go.IntKind.i64 400)) 3, type := 4, pos := "l11_papers.go:62", after := #[{ on := 2, ground := Go.Ground.data }], guard := none }) (v := ?_) rfl (by kernel_rfl) (by kernel_rfl) (by kernel_rfl) (fun _ _ _ h => h) (Or.inl ⟨by rfl, ?_⟩) (by assumption) ?_
      rotate_left
      · (intro w hSw; (try dsimp only at hSw); go_simp <;> try with_reducible rfl)
      try simp only [Act.put, List.setIfInBounds_toArray, List.set_cons_zero, List.set_cons_succ]
      refine wpAnyH_take (i := 4) (oi := { dst := some 62, op := Go.Op.move (Go.Operand.tmp 61), type := 4, pos := "l11_papers.go:62", after := #[{ on := 3, ground := Go.Ground.data }], guard := none }) (v := ?_) rfl (by kernel_rfl) (by kernel_rfl) (by kernel_rfl) (fun _ _ _ h => h) (Or.inl ⟨by rfl, ?_⟩) (by assumption) ?_
      rotate_left
      · (intro w hSw; (try dsimp only at hSw); go_simp <;> try with_reducible rfl)
      try simp only [Act.put, List.setIfInBounds_toArray, List.set_cons_zero, List.set_cons_succ]
      refine wpAnyH_take (i := 5) (oi := { dst := some 63, op := Go.Op.move (Go.Operand.tmp 9), type := 3, pos := "l11_papers.go:62", after := #[{ on := 4, ground := Go.Ground.guard }], guard := some (4, false) }) (v := ?_) rfl (by kernel_rfl) (by kernel_rfl) (by kernel_rfl) (fun _ _ _ h => h) (Or.inl ⟨by rfl, ?_⟩) (by assumption) ?_
      rotate_left
      · (intro w hSw; (try dsimp only at hSw); go_simp <;> try with_reducible rfl)
      try simp only [Act.put, List.setIfInBounds_toArray, List.set_cons_zero, List.set_cons_succ]
      refine wpAnyH_take (i := 8) (oi := { dst := some 66, op := Go.Op.fieldAddr 27 (Go.Operand.tmp 3) 0, type := 0, pos := "l11_papers.go:62", after := #[{ on := 4, ground := Go.Ground.guard }], guard := some (4, false) }) (v := ?_) rfl (by kernel_rfl) (by kernel_rfl) (by kernel_rfl) (fun _ _ _ h => h) (Or.inl ⟨by rfl, ?_⟩) (by assumption) ?_
      rotate_left
      · (intro w hSw; (try dsimp only at hSw); go_simp <;> try with_reducible rfl)
      try simp only [Act.put, List.setIfInBounds_toArray, List.set_cons_zero, List.set_cons_succ]
      refine wpAnyH_take (i := 9) (oi := { dst := some 67, op := Go.Op.load 24 (Go.Operand.tmp 66), type := 24, pos := "l11_papers.go:62", after := #[{ on := 8, ground := Go.Ground.data }, { on := 4, ground := Go.Ground.guard }], guard := some (4, false) }) (v := ?_) rfl (by kernel_rfl) (by kernel_rfl) (by kernel_rfl) (fun _ _ _ h => h) (Or.inl ⟨by rfl, ?_⟩) (by assumption) ?_
      rotate_left
      · (intro w hSw; (try dsimp only at hSw); go_simp <;> try with_reducible rfl)
      try simp only [Act.put, List.setIfInBounds_toArray, List.set_cons_zero, List.set_cons_succ]
      refine wpAnyH_take (i := 10) (oi := { dst := some 68, op := Go.Op.move (Go.Operand.tmp 1), type := 3, pos := "l11_papers.go:62", after := #[{ on := 4, ground := Go.Ground.guard }], guard := some (4, false) }) (v := ?_) rfl (by kernel_rfl) (by kernel_rfl) (by kernel_rfl) (fun _ _ _ h => h) (Or.inl ⟨by rfl, ?_⟩) (by assumption) ?_
      rotate_left
      · (intro w hSw; (try dsimp only at hSw); go_simp <;> try with_reducible rfl)
      try simp only [Act.put, List.setIfInBounds_toArray, List.set_cons_zero, List.set_cons_succ]
      refine wpAnyH_take (i := 11) (oi := { dst := some 69, op := Go.Op.indexAddr 24 (Go.Operand.tmp 67) (Go.Operand.tmp 68), type := 0, pos := "l11_papers.go:62", after := #[{ on := 9, ground := Go.Ground.data }, { on := 10, ground := Go.Ground.data }, { on := 4, ground := Go.Ground.guard }], guard := some (4, false) }) (v := ?_) rfl (by kernel_rfl) (by kernel_rfl) (by kernel_rfl) (fun _ _ _ h => h) (Or.inl ⟨by rfl, ?_⟩) (by assumption) ?_
      rotate_left
      · (intro w hSw; (try dsimp only at hSw); go_simp <;> try with_reducible rfl)
      try simp only [Act.put, List.setIfInBounds_toArray, List.set_cons_zero, List.set_cons_succ]
      refine wpAnyH_take (i := 12) (oi := { dst := some 70, op := Go.Op.fieldAddr 75 (Go.Operand.tmp 69) 1, type := 0, pos := "l11_papers.go:62", after := #[{ on := 11, ground := Go.Ground.data }, { on := 4, ground := Go.Ground.guard }], guard := some (4, false) }) (v := ?_) rfl (by kernel_rfl) (by kernel_rfl) (by kernel_rfl) (fun _ _ _ h => h) (Or.inl ⟨by rfl, ?_⟩) (by assumption) ?_
      rotate_left
      · (intro w hSw; (try dsimp only at hSw); go_simp <;> try with_reducible rfl)
      try simp only [Act.put, List.setIfInBounds_toArray, List.set_cons_zero, List.set_cons_succ]
      refine wpAnyH_take (i := 13) (oi := { dst := some 71, op := Go.Op.load 3 (Go.Operand.tmp 70), type := 3, pos := "l11_papers.go:62", after := #[{ on := 12, ground := Go.Ground.data }, { on := 4, ground := Go.Ground.guard }], guard := some (4, false) }) (v := ?_) rfl (by kernel_rfl) (by kernel_rfl) (by kernel_rfl) (fun _ _ _ h => h) (Or.inl ⟨by rfl, ?_⟩) (by assumption) ?_
      rotate_left
      · (intro w hSw; (try dsimp only at hSw); go_simp <;> try with_reducible rfl)
      try simp only [Act.put, List.setIfInBounds_toArray, List.set_cons_zero, List.set_cons_succ]
      refine wpAnyH_ready (rs := [6]) (by kernel_rfl) (by simp) ?_
      refine AllReadyH.cons (o := { dst := some 64, op := Go.Op.call { callee := Go.Callee.value (Go.Operand.func 52), args := #[Go.Operand.tmp 63], argTypes := #[3] }, type := 9, pos := "l11_papers.go:62", after := #[{ on := 5, ground := Go.Ground.data }, { on := 4, ground := Go.Ground.chain }, { on := 4, ground := Go.Ground.guard }], guard := some (4, false) }) rfl (fun K hK => ?_) AllReadyH.nil
      go_simp
      (go_at_call 52; refine (text_at (m := cntP p (i : Int) m + 1) (by omega) (by omega)).mono ?_; rintro e w4 ⟨rfl, q0, ew⟩; rw [HTX.out]; have b4 := ew ▸ drew_below _ q0; clear ew; have q1_0 : w4.cell? ⟨w.heap.size, 0, none⟩ = some (.slice (some ⟨kb, off, none⟩) len cap) := keep_cell b4 (by simp [*]); have q1_1 : w4.cell? ⟨w.heap.size, 1, none⟩ = some (.slice (some b) m pcap) := keep_cell b4 (by simp [*]); have q1_2 : w4.cell? ⟨kb, off + i * 2, none⟩ = some (.string pr) := keep_cell b4 (by simp [*]); have q1_3 : w4.cell? ⟨kb, off + i * 2 + 1, none⟩ = some (.int .i64 wd) := keep_cell b4 (by simp [*]); have p1 : Below wn.heap.size wn w4 := bel_on (by assumption) b4; clear b4)
      first | refine hK.out _ _ ?_ (fun hHeld => ?_) | (go_wp2_with fail; refine hK.out _ _ ?_ (fun hHeld => ?_))
      · (try dsimp only); refine ⟨?_, ?_, ?_, ?_, ?_⟩ <;> first | assumption | (simp [*, World.cell?_alloc_some]; done)
      clear hK K
      try simp only [Act.put, List.setIfInBounds_toArray, List.set_cons_zero, List.set_cons_succ]
      refine wpAnyH_take (i := 7) (oi := { dst := some 65, op := Go.Op.call { callee := Go.Callee.builtin Go.Builtin.len, args := #[Go.Operand.tmp 64], argTypes := #[9] }, type := 3, pos := "l11_papers.go:62", after := #[{ on := 6, ground := Go.Ground.data }, { on := 4, ground := Go.Ground.guard }], guard := some (4, false) }) (v := ?_) rfl (by kernel_rfl) (by kernel_rfl) (by kernel_rfl) (fun _ _ _ h => h) (Or.inl ⟨by rfl, ?_⟩) (by assumption) ?_
      rotate_left
      · (intro w hSw; (try dsimp only at hSw); go_simp <;> try with_reducible rfl)
      try simp only [Act.put, List.setIfInBounds_toArray, List.set_cons_zero, List.set_cons_succ]
      refine wpAnyH_take (i := 14) (oi := { dst := some 72, op := Go.Op.binOp Go.BinOp.gtr 3 (Go.Operand.tmp 65) (Go.Operand.tmp 71) 3, type := 4, pos := "l11_papers.go:62", after := #[{ on := 7, ground := Go.Ground.data }, { on := 13, ground := Go.Ground.data }, { on := 4, ground := Go.Ground.guard }], guard := some (4, false) }) (v := ?_) rfl (by kernel_rfl) (by kernel_rfl) (by kernel_rfl) (fun _ _ _ h => h) (Or.inl ⟨by rfl, ?_⟩) (by assumption) ?_
      rotate_left
      · (intro w hSw; (try dsimp only at hSw); go_simp <;> try with_reducible rfl)
      try simp only [Act.put, List.setIfInBounds_toArray, List.set_cons_zero, List.set_cons_succ]
      refine wpAnyH_take (i := 15) (oi := { dst := some 73, op := Go.Op.pick (Go.Operand.tmp 62) (Go.Operand.const (Go.Value.bool true)) (Go.Operand.tmp 72), type := 4, pos := "l11_papers.go:62", after := #[{ on := 4, ground := Go.Ground.data }, { on := 14, ground := Go.Ground.data }], guard := none }) (v := ?_) rfl (by kernel_rfl) (by kernel_rfl) (by kernel_rfl) (fun _ _ _ h => h) (Or.inl ⟨by rfl, ?_⟩) (by assumption) ?_
      rotate_left
      · (intro w hSw; (try dsimp only at hSw); go_simp <;> try with_reducible rfl)
      try simp only [Act.put, List.setIfInBounds_toArray, List.set_cons_zero, List.set_cons_succ]
      refine wpAnyH_done (by kernel_rfl) ?_ _
      refine NoPanic.normal ?_
      replace HY1 := hid (HY1.out.below p1 HY1.out.lt)
      replace HO2 := hid (HO2.out.below p1)
      replace HO3 := hid (HO3.out.below p1)
      replace HR3 := hid (ownsRow_below HR3.out p1)
      replace HB2 := hid (bel_on HB2.out p1)
      have XN := HXN.out.below p1 HXN.out.lt
      have hs4 := p1.size
      clear k0 k1 k2 k3 f2 f3 j0 j1
      have k0 := (XN.cell 0).trans rfl
      have k1 := (XN.cell 1).trans rfl
      have k2 := (HY1.out.cell 0).trans rfl
      have k3 := (HY1.out.cell 1).trans rfl
      have f0 := XN.fr 0
      have f1 := XN.fr 1
      have f2 := HY1.out.fr 0
      have f3 := HY1.out.fr 1
      have HXM := hid XN
      clear XN
      have hnews := CB.new (w := w4) #[.int .i64 (i : Int), .int .i64 ((cntP p (i : Int) m : Int) + 1), .int .i64 day, .bool false] 32
      have hO3d : (w4.alloc (.cells #[.int .i64 (i : Int), .int .i64 ((cntP p (i : Int) m : Int) + 1), .int .i64 day, .bool false] 32 (0, 0))).ownsRow w1.heap.size 32 4 (.slice a3 m c3) m (rowP4 p m) := ownsRow_below HR3.out ((Below.refl _ _).alloc (Nat.le_refl _) _)
      have HSRC := hid (one_src hnews (l := [.int .i64 (i : Int), .int .i64 ((cntP p (i : Int) m : Int) + 1), .int .i64 day, .bool false]))
      have HOD := hid hO3d
      have HND := hid (HXM.out.below ((Below.refl _ _).alloc (Nat.le_refl _) (.cells #[.int .i64 (i : Int), .int .i64 ((cntP p (i : Int) m : Int) + 1), .int .i64 day, .bool false] 32 (0, 0))) HXM.out.lt)
      have n1 := (HND.out.cell 1).trans rfl
      clear hnews hO3d
      have HNR := hid (HY1.out.below ((Below.refl _ _).alloc (Nat.le_refl _) (.cells #[.int .i64 (i : Int), .int .i64 ((cntP p (i : Int) m : Int) + 1), .int .i64 day, .bool false] 32 (0, 0))) HY1.out.lt)
      have HN2 := hid (HO2.out.below ((Below.refl _ _).alloc (Nat.le_refl _) (.cells #[.int .i64 (i : Int), .int .i64 ((cntP p (i : Int) m : Int) + 1), .int .i64 day, .bool false] 32 (0, 0))))
      have HNB := hid (HB2.out.alloc (by have := HB2.out.size; omega) (.cells #[.int .i64 (i : Int), .int .i64 ((cntP p (i : Int) m : Int) + 1), .int .i64 day, .bool false] 32 (0, 0)))
      have hne1 : w2.heap.size ≠ w.heap.size + 1 := by omega
      have hne2 : w.heap.size + 1 ≠ w2.heap.size := by omega
      clear k0 k1 k2 k3 f0 f1 f2 f3
      have k1 : w4.cell? ⟨w2.heap.size, 1, none⟩ = some (.slice a3 m c3) := (HXM.out.cell 1).trans rfl
      go_wp2_with (first
        | (at_builtin; go_loud (refine wpList_append_own_at _ rfl _ _ 25 rfl w1.heap.size 32 iP (.agg #[.int .i64 0, .int .i64 0, .int .i64 0, .bool false]) 4 32 Tryd.underlying25 gi gz0 gz1 gz2 rfl (by decide) (.slice a3 m c3) m (rowP4 p m) rfl HOD.out ⟨w4.heap.size, 0, none⟩ 1 1 [.int .i64 (i : Int), .int .i64 ((cntP p (i : Int) m : Int) + 1), .int .i64 day, .bool false] rfl rfl HSRC.out (by intro u hu; simp at hu; rcases hu with rfl | rfl | rfl | rfl <;> rfl) (by unfold maxLen; omega) (by omega) (by simp; omega) ?_; intro v5 WE hown hgrow _ _; obtain ⟨a5, c5, rfl⟩ := row_form hown; have XN : CB WE w2.heap.size #[.slice a2 len c2, .slice a3 m c3] 27 := HND.out.block (hgrow.block _ HND.out.lt (own_blk_ne HOD.out HND.out (by decide))); have XR : CB WE (w.heap.size + 1) #[.slice none 0 0, .slice none 0 0] 27 := HNR.out.block (hgrow.block _ HNR.out.lt (own_blk_ne HOD.out HNR.out (by decide))); have XO2 : OwnS2 WE w1.heap.size a2 len c := HN2.out.keepC (fun g cs q e hlo hc => hgrow.block _ hc.lt (own_blk_ne HOD.out hc (by decide))); have hown2 : WE.ownsRow w1.heap.size 32 4 (.slice a5 (m + 1) c5) (m + 1) (rowP4 (ext p m (newP p m (i : Int) day)) (m + 1)) := (by rw [row_snoc]; exact hown); have XO3 : OwnP4 WE w1.heap.size a5 (m + 1) (ext p m (newP p m (i : Int) day)) := (by obtain ⟨ad', cp', e', _, h'⟩ := ownP4_of hown2; simp only [Value.slice.injEq] at e'; obtain ⟨rfl, _, rfl⟩ := e'; exact h'); have XB : Below w.heap.size w WE := HNB.out.grown hgrow (by have := HNB.out.size; omega) (fun g e => by have := (HOD.out.lt g e).1; omega); have HXN5 := hid XN; have HXR5 := hid XR; have HXO2 := hid XO2; have HXO3 := hid XO3; have HXB := hid XB; clear k1 n1; have k0 := (XN.cell 0).trans rfl; have k1 := (XN.cell 1).trans rfl; have f1 := XN.fr 1; have k2 := (XR.cell 0).trans rfl; have k3 := (XR.cell 1).trans rfl; have f2 := XR.fr 0; have f3 := XR.fr 1; clear hown hown2 hgrow XN XR XO2 XO3 XB)))
      have hX := ((HXR5.out.other (c := w2.heap.size) (o := 1) (.slice a5 (m + 1) c5) hne2).set 0 (.slice a2 len c2)).set 1 (.slice a5 (m + 1) c5)
      have hO2 := ((HXO2.out.reg HXN5.out (o := 1) (.slice a5 (m + 1) c5)).put (b := w.heap.size + 1) (o := 0) (.slice a2 len c2) (by omega)).put (b := w.heap.size + 1) (o := 1) (.slice a5 (m + 1) c5) (by omega)
      have hO3 := ((HXO3.out.reg HXN5.out (o := 1) (.slice a5 (m + 1) c5)).put (b := w.heap.size + 1) (o := 0) (.slice a2 len c2) (by omega)).put (b := w.heap.size + 1) (o := 1) (.slice a5 (m + 1) c5) (by omega)
      have hZ := ((HXB.out.setCell (p := ⟨w2.heap.size, 1, none⟩) (by simp; omega) (.slice a5 (m + 1) c5)).setCell (p := ⟨w.heap.size + 1, 0, none⟩) (by simp) (.slice a2 len c2)).setCell (p := ⟨w.heap.size + 1, 1, none⟩) (by simp) (.slice a5 (m + 1) c5)
      have e0 := hX.cell 0
      have e1 := hX.cell 1
      simp at e0 e1
      clear hX k0 k1 k2 k3 f1 f2 f3
      generalize (World.setCell _ _ _) = W9 at e0 e1 hO2 hO3 hZ ⊢
      refine bodyPost_ret (by simp [results, Tryd.results19, go_sem, e0, e1]; try rfl) rfl ?_
      exact isI_of HV.out ⟨a2, c2, a5, c5, rfl, hO2.mono (l := w.heap.size) (by omega), hO3.mono (l := w.heap.size) (by omega), hZ⟩
end Go.Proofs.YtdhpadcihlmhiaaDoor
