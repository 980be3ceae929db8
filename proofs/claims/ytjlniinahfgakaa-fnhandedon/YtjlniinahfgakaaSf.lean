/- The program's StepDown, whole. -/
import Derived.Test.YtjlniinahfgakaaSd
import Derived.Deep.Cut
namespace Go.Proofs.Ytjlniinahfgakaa
open Go.ChangeShapes Go.WideShapes Go.ChangeAt Go.RowKit
set_option linter.unusedVariables false
set_option linter.unusedSimpArgs false

set_option maxRecDepth 20000 in
set_option maxHeartbeats 4000000 in
theorem implStep_any (ca : Option Addr) (n ccap : Nat) (c : Nat → Int) (ra : Option Addr) (m rcap : Nat) (rs : Nat → R3) (w : World) (hn : (n : Int) ≤ 1048576) (hm : (m : Int) ≤ 1048576) (hrs : ∀ j, j < m → ((rs j).tn : Int) ≤ 1048576 ∧ ((rs j).wn : Int) ≤ 1048576) (HC : IR w ca n c) (HR : RU w ra m rs) :
    Calls Try.prog 17 #[.slice ca n ccap, .slice ra m rcap] w (SdP n c m rs w) := by
  have HCo : Hid (IR w ca n c) := HC
  have HRu : Hid (RU w ra m rs) := HR
  have HRs : Hid (∀ j, j < m → ((rs j).tn : Int) ≤ 1048576 ∧ ((rs j).wn : Int) ≤ 1048576) := hrs
  have HAC : Hid (∀ v, costB n c = v → Calls Try.prog 55 #[.slice ca n ccap] w fun e w' => e = .returned (.bool v) ∧ w' = w) := fun v h => h ▸ areCosts_any ca n ccap c w hn HC
  clear HC HR hrs
  by_cases hc : CostP n c
  case neg =>
    have hb := costB_f hc
    have HF : Hid (sdB n c m rs = false) := sdB_f (fun q => hc q.1)
    clear hc
    go_enter Try.func17, Try.ntmps17
    go_wp2_with (go_at_call 55; refine (HAC.out _ hb).mono ?_; rintro e w' ⟨rfl, ew⟩; replace ew := ew.symm; subst ew)
    go_returns
    exact SdP.none HF.out (Below.refl _ _)
  have hb := costB_t hc
  by_cases h40 : m ≤ 40
  case neg =>
    have HF : Hid (sdB n c m rs = false) := sdB_f (fun q => h40 q.2.1)
    have l1 : (m : Int) > 40 := by omega
    clear hc
    go_enter Try.func17, Try.ntmps17
    go_wp2_with (go_at_call 55; refine (HAC.out _ hb).mono ?_; rintro e w' ⟨rfl, ew⟩; replace ew := ew.symm; subst ew)
    go_returns
    exact SdP.none HF.out (Below.refl _ _)
  have l1 : ¬ (m : Int) > 40 := by omega
  have hn1 : 1 ≤ n := hc.1.1
  have hn2 : n ≤ 200 := hc.1.2
  have HCP : Hid (CostP n c) := hc
  have hmk := mkB n (by omega)
  clear hc
  go_enter Try.func17, Try.ntmps17
  go_upto_region 3 with (go_at_call 55; refine (HAC.out _ hb).mono ?_; rintro e w' ⟨rfl, ew⟩; replace ew := ew.symm; subst ew)
  go_cut [6] from 18 (fun s6 wx => ∃ D C cc Gb, s6 = .pointer (some ⟨D, 0, none⟩) ∧ CB wx D #[.slice (some ⟨C, 0, none⟩) n cc, .slice (some ⟨Gb, 0, none⟩) n n] 79 ∧ w.heap.size ≤ Gb ∧ FB wx Gb n (fun _ => false) ∧ w.heap.size ≤ C ∧ wx.ownsRow w.heap.size 3 1 (.slice (some ⟨C, 0, none⟩) n cc) n (intL c n) ∧ Below w.heap.size w wx)
  case first =>
    go_region_with (first
      | (go_at_call 56; have hp : Below w.heap.size w w.drew := (Below.refl _ _).drew; refine (cloneI_any ca n ccap c w.drew (by omega) (by omega) (HCo.out.below hp)).mono ?_; rintro e w2 ⟨ad', cp, rfl, o2, b2⟩; obtain ⟨C, cp2, eC, _, hCb, _⟩ := row_get o2 (j := 0) (by omega); simp only [Value.slice.injEq] at eC; obtain ⟨rfl, _, rfl⟩ := eC; have HO2 : Hid (w2.ownsRow w.heap.size 3 1 (.slice (some ⟨C, 0, none⟩) n cp) n (intL c n)) := row_lower o2 hp.size; have HB2 : Hid (Below w.heap.size w w2) := bel_on hp b2; have hCw : w.heap.size ≤ C := Nat.le_trans hp.size hCb; have HC2 : Hid (w.heap.size ≤ C) := hCw; clear o2 b2 hCb hp hCw)
      | (go_at_call 56; have hp : Below w.heap.size w (w.drew.alloc (.cells #[.slice none 0 0, .slice none 0 0] 79 (0, 0))) := ((Below.refl _ _).drew.alloc (Nat.le_refl _) _); refine (cloneI_any ca n ccap c (w.drew.alloc (.cells #[.slice none 0 0, .slice none 0 0] 79 (0, 0))) (by omega) (by omega) (HCo.out.below hp)).mono ?_; rintro e w2 ⟨ad', cp, rfl, o2, b2⟩; obtain ⟨C, cp2, eC, _, hCb, _⟩ := row_get o2 (j := 0) (by omega); simp only [Value.slice.injEq] at eC; obtain ⟨rfl, _, rfl⟩ := eC; have HO2 : Hid (w2.ownsRow w.heap.size 3 1 (.slice (some ⟨C, 0, none⟩) n cp) n (intL c n)) := row_lower o2 hp.size; have HB2 : Hid (Below w.heap.size w w2) := bel_on hp b2; have hCw : w.heap.size ≤ C := Nat.le_trans hp.size hCb; have HC2 : Hid (w.heap.size ≤ C) := hCw; have HZ : Hid (CB w2 (w.heap.size) #[.slice none 0 0, .slice none 0 0] 79) := (CB.newAt (by simp) _ _).below b2 (by first | (simp; done) | (simp; omega)); have z0 := (HZ.out.cell 0).trans rfl; have z1 := (HZ.out.cell 1).trans rfl; have z2 := HZ.out.fr 0; have z3 := HZ.out.fr 1; have HCD : Hid (some (w.heap.size) ≠ Value.ownBlock (.slice (some ⟨C, 0, none⟩) n cp)) := HZ.out.ne HO2.out (by decide); have hzl := HZ.out.lt; clear o2 b2 hCb hp hCw)
      | (go_at_call 56; have hp : Below w.heap.size w (w.drew.alloc (.cells (zerosB n) 4 (0, 0))) := ((Below.refl _ _).drew.alloc (Nat.le_refl _) _); refine (cloneI_any ca n ccap c (w.drew.alloc (.cells (zerosB n) 4 (0, 0))) (by omega) (by omega) (HCo.out.below hp)).mono ?_; rintro e w2 ⟨ad', cp, rfl, o2, b2⟩; obtain ⟨C, cp2, eC, _, hCb, _⟩ := row_get o2 (j := 0) (by omega); simp only [Value.slice.injEq] at eC; obtain ⟨rfl, _, rfl⟩ := eC; have HO2 : Hid (w2.ownsRow w.heap.size 3 1 (.slice (some ⟨C, 0, none⟩) n cp) n (intL c n)) := row_lower o2 hp.size; have HB2 : Hid (Below w.heap.size w w2) := bel_on hp b2; have hCw : w.heap.size ≤ C := Nat.le_trans hp.size hCb; have HC2 : Hid (w.heap.size ≤ C) := hCw; have HV : Hid (FB w2 (w.heap.size) n (fun _ => false)) := ⟨zerosB n, (CB.newAt (by simp) _ _).below b2 (by first | (simp; done) | (simp; omega)), (by rw [zerosB_size]; exact Nat.le_refl _), fun j hj => zerosB_get n j hj⟩; have hvl := HV.out.lt; clear o2 b2 hCb hp hCw)
      | (go_at_call 56; have hp : Below w.heap.size w ((w.drew.alloc (.cells (zerosB n) 4 (0, 0))).alloc (.cells #[.slice none 0 0, .slice none 0 0] 79 (0, 0))) := (((Below.refl _ _).drew.alloc (Nat.le_refl _) _).alloc (by simp) _); refine (cloneI_any ca n ccap c ((w.drew.alloc (.cells (zerosB n) 4 (0, 0))).alloc (.cells #[.slice none 0 0, .slice none 0 0] 79 (0, 0))) (by omega) (by omega) (HCo.out.below hp)).mono ?_; rintro e w2 ⟨ad', cp, rfl, o2, b2⟩; obtain ⟨C, cp2, eC, _, hCb, _⟩ := row_get o2 (j := 0) (by omega); simp only [Value.slice.injEq] at eC; obtain ⟨rfl, _, rfl⟩ := eC; have HO2 : Hid (w2.ownsRow w.heap.size 3 1 (.slice (some ⟨C, 0, none⟩) n cp) n (intL c n)) := row_lower o2 hp.size; have HB2 : Hid (Below w.heap.size w w2) := bel_on hp b2; have hCw : w.heap.size ≤ C := Nat.le_trans hp.size hCb; have HC2 : Hid (w.heap.size ≤ C) := hCw; have HZ : Hid (CB w2 (w.heap.size + 1) #[.slice none 0 0, .slice none 0 0] 79) := (CB.newAt (by simp) _ _).below b2 (by first | (simp; done) | (simp; omega)); have z0 := (HZ.out.cell 0).trans rfl; have z1 := (HZ.out.cell 1).trans rfl; have z2 := HZ.out.fr 0; have z3 := HZ.out.fr 1; have HCD : Hid (some (w.heap.size + 1) ≠ Value.ownBlock (.slice (some ⟨C, 0, none⟩) n cp)) := HZ.out.ne HO2.out (by decide); have hzl := HZ.out.lt; have HV : Hid (FB w2 (w.heap.size) n (fun _ => false)) := ⟨zerosB n, ((CB.newAt (by simp) _ _).alloc _).below b2 (by first | (simp; done) | (simp; omega)), (by rw [zerosB_size]; exact Nat.le_refl _), fun j hj => zerosB_get n j hj⟩; have hvl := HV.out.lt; clear o2 b2 hCb hp hCw)
      | (go_at_call 56; have hp : Below w.heap.size w ((w.drew.alloc (.cells #[.slice none 0 0, .slice none 0 0] 79 (0, 0))).alloc (.cells (zerosB n) 4 (0, 0))) := (((Below.refl _ _).drew.alloc (Nat.le_refl _) _).alloc (by simp) _); refine (cloneI_any ca n ccap c ((w.drew.alloc (.cells #[.slice none 0 0, .slice none 0 0] 79 (0, 0))).alloc (.cells (zerosB n) 4 (0, 0))) (by omega) (by omega) (HCo.out.below hp)).mono ?_; rintro e w2 ⟨ad', cp, rfl, o2, b2⟩; obtain ⟨C, cp2, eC, _, hCb, _⟩ := row_get o2 (j := 0) (by omega); simp only [Value.slice.injEq] at eC; obtain ⟨rfl, _, rfl⟩ := eC; have HO2 : Hid (w2.ownsRow w.heap.size 3 1 (.slice (some ⟨C, 0, none⟩) n cp) n (intL c n)) := row_lower o2 hp.size; have HB2 : Hid (Below w.heap.size w w2) := bel_on hp b2; have hCw : w.heap.size ≤ C := Nat.le_trans hp.size hCb; have HC2 : Hid (w.heap.size ≤ C) := hCw; have HZ : Hid (CB w2 (w.heap.size) #[.slice none 0 0, .slice none 0 0] 79) := ((CB.newAt (by simp) _ _).alloc _).below b2 (by first | (simp; done) | (simp; omega)); have z0 := (HZ.out.cell 0).trans rfl; have z1 := (HZ.out.cell 1).trans rfl; have z2 := HZ.out.fr 0; have z3 := HZ.out.fr 1; have HCD : Hid (some (w.heap.size) ≠ Value.ownBlock (.slice (some ⟨C, 0, none⟩) n cp)) := HZ.out.ne HO2.out (by decide); have hzl := HZ.out.lt; have HV : Hid (FB w2 (w.heap.size + 1) n (fun _ => false)) := ⟨zerosB n, (CB.newAt (by simp) _ _).below b2 (by first | (simp; done) | (simp; omega)), (by rw [zerosB_size]; exact Nat.le_refl _), fun j hj => zerosB_get n j hj⟩; have hvl := HV.out.lt; clear o2 b2 hCb hp hCw))
    all_goals
      go_wp2_with fail
      go_meet
      first
        | refine ⟨_, C, cp, w.heap.size, rfl, (HZ.out.set 0 _).set 1 _, ?_, ?_, HC2.out, ?_, ?_⟩
        | refine ⟨_, C, cp, w.heap.size + 1, rfl, (HZ.out.set 0 _).set 1 _, ?_, ?_, HC2.out, ?_, ?_⟩
        | refine ⟨_, C, cp, w2.heap.size, rfl, ((HZ.out.set 0 _).set 1 _).alloc _, ?_, ?_, HC2.out, ?_, ?_⟩
        | refine ⟨_, C, cp, w.heap.size, rfl, CB.new _ _, ?_, ?_, HC2.out, ?_, ?_⟩
        | refine ⟨_, C, cp, w2.heap.size, rfl, CB.newAt (by simp) _ _, ?_, ?_, HC2.out, ?_, ?_⟩
        | refine ⟨_, C, cp, w2.heap.size + 1, rfl, (CB.new _ _).alloc _, ?_, ?_, HC2.out, ?_, ?_⟩
      · have := HB2.out.size
        first | omega | (simp; omega)
      · first
          | exact ⟨zerosB n, (CB.new _ _).alloc _, by rw [zerosB_size]; exact Nat.le_refl _, fun j hj => zerosB_get n j hj⟩
          | exact ⟨zerosB n, CB.newAt (by simp) _ _, by rw [zerosB_size]; exact Nat.le_refl _, fun j hj => zerosB_get n j hj⟩
          | exact HV.out.on ((Below.refl _ _).alloc (Nat.le_refl _) _)
          | exact (HV.out.other _ (by omega)).other _ (by omega)
      · first
          | exact row_sets HO2.out HCD.out
          | exact row_below (row_sets HO2.out HCD.out) ((Below.refl _ _).alloc (Nat.le_refl _) _)
          | exact row_below HO2.out ((Below.refl _ _).alloc (Nat.le_refl _) _)
          | exact row_below (row_below HO2.out ((Below.refl _ _).alloc (Nat.le_refl _) _)) ((Below.refl _ _).alloc (Nat.le_refl _) _)
      · have hsz := HB2.out.size
        first
          | exact below_sets HB2.out (by omega)
          | exact (below_sets HB2.out (by omega)).alloc (by simp; omega) _
          | exact HB2.out.alloc hsz _
          | exact (HB2.out.alloc hsz _).alloc (by simp; omega) _
  case rest =>
    obtain ⟨D, C, cc, Gb, rfl, hD, hGb, hFB, hC, hO, hB⟩ := hcut
    obtain ⟨C2, cc2, cx, eC, _, hNB, hOwn⟩ := row_NB hO (by omega)
    simp only [Value.slice.injEq, Option.some.injEq, Addr.mk.injEq] at eC
    obtain ⟨⟨rfl, _⟩, _, rfl⟩ := eC
    have hDC : D ≠ C := fun q => hD.ne hO (by decide) (by rw [q]; rfl)
    have hDG : D ≠ Gb := fun q => by
      obtain ⟨cs, h1, _⟩ := hFB
      have h2 := hD
      subst q
      unfold CB at h1 h2
      rw [h2] at h1
      simp at h1
    have HOwn : Hid (∀ (w' : World) (o' : Nat → Int), NB w' C n cx o' → w'.ownsRow w.heap.size 3 1 (.slice (some ⟨C, 0, none⟩) n cc) n (intL o' n)) := hOwn
    have HI0 : Hid (NB wc C n cx c ∧ FB wc Gb n (fun _ => false) ∧ CB wc D #[.slice (some ⟨C, 0, none⟩) n cc, .slice (some ⟨Gb, 0, none⟩) n n] 79 ∧ Below w.heap.size w wc) := ⟨hNB, hFB, hD, hB⟩
    have hDl := hD.lt
    clear hNB hFB hD hB hO hOwn hmk
    go_wp2
    go_loopw [26] (fun v wr => ∃ (k : Nat) (s : (Nat → Int) × (Nat → Bool)), k ≤ m ∧ v = .int .i64 (k : Int) ∧ Hid (sdn n c rs k = some s ∧ NB wr C n cx s.1 ∧ FB wr Gb n s.2 ∧ CB wr D #[.slice (some ⟨C, 0, none⟩) n cc, .slice (some ⟨Gb, 0, none⟩) n n] 79 ∧ Below w.heap.size w wr)) (fun v _ => m - (intOf v).toNat)
    case atStart => exact ⟨0, (c, fun _ => false), Nat.zero_le _, rfl, rfl, HI0.out.1, HI0.out.2.1, HI0.out.2.2.1, HI0.out.2.2.2⟩
    case round =>
      clear HI0
      obtain ⟨k, ⟨sc, sg⟩, hk, rfl, HI⟩ := hrel
      have HNB : Hid (NB wr C n cx sc) := HI.out.2.1
      have HFB : Hid (FB wr Gb n sg) := HI.out.2.2.1
      have HDD : Hid (CB wr D #[.slice (some ⟨C, 0, none⟩) n cc, .slice (some ⟨Gb, 0, none⟩) n n] 79) := HI.out.2.2.2.1
      have HB : Hid (Below w.heap.size w wr) := HI.out.2.2.2.2
      have HSD : Hid (sdn n c rs k = some (sc, sg)) := HI.out.1
      clear HI
      by_cases hlt : k < m
      · have hlt2 : (k : Int) < (m : Int) := by omega
        obtain ⟨kb, off, rfl, hkb, hru⟩ : ∃ kb off, ra = some ⟨kb, off, none⟩ ∧ kb < w.heap.size ∧ RuAt w kb (off + k * 3) (rs k) := by
          rcases HRu.out with h | ⟨kb, off, e, hkb, hc⟩
          · omega
          · exact ⟨kb, off, e, hkb, hc k hlt⟩
        obtain ⟨ta, tc, wa, wc', r1, r2, r3, r4, r5, r6⟩ := hru
        have e1 : wr.cell? ⟨kb, off + k * 3, none⟩ = some (.int .i64 (rs k).frm) := by rw [World.cell?_of_block (w := w) (HB.out.block kb hkb)]; exact r1
        have e2 : wr.cell? ⟨kb, off + k * 3 + 1, none⟩ = some (.slice ta (rs k).tn tc) := by rw [World.cell?_of_block (w := w) (HB.out.block kb hkb)]; exact r2
        have e3 : wr.cell? ⟨kb, off + k * 3 + 2, none⟩ = some (.slice wa (rs k).wn wc') := by rw [World.cell?_of_block (w := w) (HB.out.block kb hkb)]; exact r3
        have HT : Hid (IR w ta (rs k).tn (rs k).to) := r4
        have HW : Hid (IR w wa (rs k).wn (rs k).wt) := r5
        have hrb := HRs.out k hlt
        obtain ⟨X, hX⟩ : ∃ X : Obj, (.cells #[.int .i64 (rs k).frm, .slice ta (rs k).tn tc, .slice wa (rs k).wn wc'] 36 (0, 0)) = X := ⟨_, rfl⟩
        have hal : Below wr.heap.size wr (wr.alloc (.cells #[.int .i64 (rs k).frm, .slice ta (rs k).tn tc, .slice wa (rs k).wn wc'] 36 (0, 0))) := (Below.refl _ _).alloc (Nat.le_refl _) _
        have HTK : Hid (Calls Try.prog 57 #[.agg #[.slice (some ⟨C, 0, none⟩) n cc, .slice (some ⟨Gb, 0, none⟩) n n], .agg #[.int .i64 (rs k).frm, .slice ta (rs k).tn tc, .slice wa (rs k).wn wc']] (wr.alloc (.cells #[.int .i64 (rs k).frm, .slice ta (rs k).tn tc, .slice wa (rs k).wn wc'] 36 (0, 0))) fun e w' => e = .returned (.bool (rokB n sg (rs k))) ∧ Below (wr.alloc (.cells #[.int .i64 (rs k).frm, .slice ta (rs k).tn tc, .slice wa (rs k).wn wc'] 36 (0, 0))).heap.size (wr.alloc (.cells #[.int .i64 (rs k).frm, .slice ta (rs k).tn tc, .slice wa (rs k).wn wc'] 36 (0, 0))) w') := takes_any C n cc Gb n sg ta tc wa wc' (rs k) _ (by omega) hn2 hrb.1 hrb.2 (HFB.out.on hal) (HT.out.below (bel_on HB.out hal)) (HW.out.below (bel_on HB.out hal))
        have d0 : wr.cell? ⟨D, 0, none⟩ = some (.slice (some ⟨C, 0, none⟩) n cc) := (HDD.out.cell 0).trans rfl
        have d1 : wr.cell? ⟨D, 1, none⟩ = some (.slice (some ⟨Gb, 0, none⟩) n n) := (HDD.out.cell 1).trans rfl
        have hdl := HDD.out.lt
        have hwr := HB.out.size
        have hcl := HNB.out.lt
        have hgl := HFB.out.lt
        have hkl : kb < wr.heap.size := by omega
        have a0 : (wr.alloc (.cells #[.int .i64 (rs k).frm, .slice ta (rs k).tn tc, .slice wa (rs k).wn wc'] 36 (0, 0))).cell? ⟨D, 0, none⟩ = some (.slice (some ⟨C, 0, none⟩) n cc) := ((HDD.out.alloc _).cell 0).trans rfl
        have a1 : (wr.alloc (.cells #[.int .i64 (rs k).frm, .slice ta (rs k).tn tc, .slice wa (rs k).wn wc'] 36 (0, 0))).cell? ⟨D, 1, none⟩ = some (.slice (some ⟨Gb, 0, none⟩) n n) := ((HDD.out.alloc _).cell 1).trans rfl
        have HXX : Hid (CB (wr.alloc (.cells #[.int .i64 (rs k).frm, .slice ta (rs k).tn tc, .slice wa (rs k).wn wc'] 36 (0, 0))) wr.heap.size #[.int .i64 (rs k).frm, .slice ta (rs k).tn tc, .slice wa (rs k).wn wc'] 36) := CB.new _ _
        clear r1 r2 r3 r4 r5 hX hrb
        cases hro : rokB n sg (rs k) with
        | false =>
          have HF : Hid (sdB n c m rs = false) := sdB_f (fun q => by
            have hn1 : sdn n c rs (k + 1) = none := by unfold sdn; rw [HSD.out]; simp [hro]
            rw [sdn_none hn1 (by omega)] at q
            have := q.2.2
            cases this)
          rw [hro] at HTK
          clear hro
          go_wp2_with (go_at_call 57; refine HTK.out.mono ?_; rintro e w2 ⟨rfl, b2⟩; have HB2 : Hid (Below w.heap.size w w2) := bel_on (bel_on HB.out hal) b2; clear b2)
          go_returns
          exact SdP.none HF.out HB2.out
        | true =>
          have hrok : ROk n sg (rs k) := by
            by_cases g : ROk n sg (rs k)
            · exact g
            · rw [rokB_f g] at hro; cases hro
          have htn : 0 < (rs k).tn := by
            rcases Nat.eq_zero_or_pos (rs k).wn with e | e
            · have := hrok.2.2.2.1.2.2; rw [e] at this; simp [sm] at this
            · rw [hrok.2.2.1]; exact e
          have HTA : Hid (∀ a, ta = some a → a.block < w.heap.size) := fun a ha => by
            obtain ⟨b1, o1, e, h1⟩ := HT.out.addr htn
            rw [e] at ha; cases ha; exact h1
          have HAM : Hid (∀ j, j < n → AmtP (sc j)) := sdn_amt HCP.out.2 HSD.out
          have HOK : Hid (ROk n sg (rs k)) := hrok
          have HHO : Hid (∀ w2 : World, Below (wr.alloc (.cells #[.int .i64 (rs k).frm, .slice ta (rs k).tn tc, .slice wa (rs k).wn wc'] 36 (0, 0))).heap.size (wr.alloc (.cells #[.int .i64 (rs k).frm, .slice ta (rs k).tn tc, .slice wa (rs k).wn wc'] 36 (0, 0))) w2 → Calls Try.prog 58 #[.agg #[.slice (some ⟨C, 0, none⟩) n cc, .slice (some ⟨Gb, 0, none⟩) n n], .agg #[.int .i64 (rs k).frm, .slice ta (rs k).tn tc, .slice wa (rs k).wn wc']] w2 fun e w' => e = .returned (.bool (hokB sc (rs k))) ∧ (Below w.heap.size w2 w' ∧ Kep w2 C Gb w') ∧ (hokB sc (rs k) = true → NB w' C n cx (hdn sc (rs k) (rs k).tn) ∧ FB w' Gb n (updB sg (rs k).frm.toNat))) := fun w2 b2 => by
            have bb : Below wr.heap.size wr w2 := hal.trans (b2.mono (by simp))
            have bw := bel_on HB.out bb
            exact handOn_any C n cx cc Gb n sc sg ta tc wa wc' (rs k) w2 w.heap.size (by omega) hn2 HOK.out HAM.out (HNB.out.on bb) (HFB.out.on bb) hC hGb HTA.out (HT.out.below bw) (HW.out.below bw)
          rw [hro] at HTK
          have HRO : Hid (rokB n sg (rs k) = true) := hro
          clear hro hrok htn
          cases hho : hokB sc (rs k) with
          | false =>
            have HF : Hid (sdB n c m rs = false) := sdB_f (fun q => by
              have hn1 : sdn n c rs (k + 1) = none := by unfold sdn; rw [HSD.out]; simp [hho]
              rw [sdn_none hn1 (by omega)] at q
              have := q.2.2
              cases this)
            rw [hho] at HHO
            clear hho
            go_wp2_with (first
              | (go_at_call 57; refine HTK.out.mono ?_; rintro e w2 ⟨rfl, b2⟩; have HB2 : Hid (Below w.heap.size w w2) := bel_on (bel_on HB.out hal) b2; have c0 := ((HDD.out.alloc _).below b2 (by simp; omega)); have c1 := HXX.out.below b2 HXX.out.lt; have f0 := (c0.cell 0).trans rfl; have f1 := (c0.cell 1).trans rfl; have g0 := (c1.cell 0).trans rfl; have g1 := (c1.cell 1).trans rfl; have g2 := (c1.cell 2).trans rfl; have Hb2 : Hid (Below (wr.alloc (.cells #[.int .i64 (rs k).frm, .slice ta (rs k).tn tc, .slice wa (rs k).wn wc'] 36 (0, 0))).heap.size (wr.alloc (.cells #[.int .i64 (rs k).frm, .slice ta (rs k).tn tc, .slice wa (rs k).wn wc'] 36 (0, 0))) w2) := b2; clear b2 c0 c1)
              | (go_at_call 58; refine (HHO.out _ Hb2.out).mono ?_; rintro e w3 ⟨rfl, ⟨b3, _⟩, _⟩; have HB3 : Hid (Below w.heap.size w w3) := HB2.out.trans b3; clear b3))
            go_returns
            exact SdP.none HF.out HB3.out
          | true =>
            have HSN : Hid (sdn n c rs (k + 1) = some (hdn sc (rs k) (rs k).tn, updB sg (rs k).frm.toNat)) := by
              show _ = _
              unfold sdn; rw [HSD.out]; simp [hho, HRO.out]
            rw [hho] at HHO
            clear hho
            go_wp2_with (first
              | (go_at_call 57; refine HTK.out.mono ?_; rintro e w2 ⟨rfl, b2⟩; have HB2 : Hid (Below w.heap.size w w2) := bel_on (bel_on HB.out hal) b2; have c0 := ((HDD.out.alloc _).below b2 (by simp; omega)); have c1 := HXX.out.below b2 HXX.out.lt; have f0 := (c0.cell 0).trans rfl; have f1 := (c0.cell 1).trans rfl; have g0 := (c1.cell 0).trans rfl; have g1 := (c1.cell 1).trans rfl; have g2 := (c1.cell 2).trans rfl; have HC0 : Hid (CB w2 D #[.slice (some ⟨C, 0, none⟩) n cc, .slice (some ⟨Gb, 0, none⟩) n n] 79) := c0; have Hb2 : Hid (Below (wr.alloc (.cells #[.int .i64 (rs k).frm, .slice ta (rs k).tn tc, .slice wa (rs k).wn wc'] 36 (0, 0))).heap.size (wr.alloc (.cells #[.int .i64 (rs k).frm, .slice ta (rs k).tn tc, .slice wa (rs k).wn wc'] 36 (0, 0))) w2) := b2; clear b2 c0 c1)
              | (go_at_call 58; refine (HHO.out _ Hb2.out).mono ?_; rintro e w3 ⟨rfl, ⟨b3, k3⟩, p3⟩; have HB3 : Hid (Below w.heap.size w w3) := HB2.out.trans b3; have HP3 : Hid (NB w3 C n cx (hdn sc (rs k) (rs k).tn) ∧ FB w3 Gb n (updB sg (rs k).frm.toNat)) := p3 trivial; have HC3 : Hid (CB w3 D #[.slice (some ⟨C, 0, none⟩) n cc, .slice (some ⟨Gb, 0, none⟩) n n] 79) := CB.keep HC0.out (k3 D HC0.out.lt hDC hDG); clear b3 k3 p3))
            go_roundw
            case rel => exact ⟨k + 1, (hdn sc (rs k) (rs k).tn, updB sg (rs k).frm.toNat), by omega, by go_num, HSN.out, HP3.out.1, HP3.out.2, HC3.out, HB3.out⟩
            case measure => simp [intOf]; omega
      · obtain rfl : k = m := by omega
        have lkk : ¬ (k : Int) < (k : Int) := by omega
        have d0 : wr.cell? ⟨D, 0, none⟩ = some (.slice (some ⟨C, 0, none⟩) n cc) := (HDD.out.cell 0).trans rfl
        have HF : Hid (SdP n c k rs w (.returned (.tuple #[.slice (some ⟨C, 0, none⟩) n cc, .bool true])) wr) := by
          have hB1 : sdB n c k rs = true := sdB_t ⟨HCP.out, h40, by rw [HSD.out]; rfl⟩
          have hM1 : sdM n c k rs = n := by unfold sdM; rw [hB1]; rfl
          have hV1 : sdV n c k rs = sc := by unfold sdV; rw [HSD.out]
          unfold SdP
          rw [hM1, hB1, hV1]
          exact ⟨_, _, rfl, HOwn.out wr sc HNB.out, HB.out⟩
        go_wp2
        go_returns
        exact HF.out
end Go.Proofs.Ytjlniinahfgakaa
