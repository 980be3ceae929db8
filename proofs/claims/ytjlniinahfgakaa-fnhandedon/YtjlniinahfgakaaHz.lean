/- The model's StepDown, whole. -/
import Derived.Test.YtjlniinahfgakaaHy
import Derived.Deep.Cut
import Derived.BigQuiet
namespace Go.Proofs.Ytjlniinahfgakaa
open Go.ChangeShapes Go.WideShapes Go.ChangeAt Go.RowKit
set_option linter.unusedVariables false
set_option linter.unusedSimpArgs false

set_option maxRecDepth 20000 in
set_option maxHeartbeats 8000000 in
theorem specStep_any (ca : Option Addr) (n ccap : Nat) (c : Nat → Int) (ra : Option Addr) (m rcap : Nat) (rs : Nat → R3) (w : World) (hn : (n : Int) ≤ 1048576) (hm : (m : Int) ≤ 1048576) (hrs : ∀ j, j < m → ((rs j).tn : Int) ≤ 1048576 ∧ ((rs j).wn : Int) ≤ 1048576) (HC : IR w ca n c) (HR : RU w ra m rs) :
    Calls Try.prog 18 #[.slice ca n ccap, .slice ra m rcap] w (SdP n c m rs w) := by
  have HCo : Hid (IR w ca n c) := HC
  have HRu : Hid (RU w ra m rs) := HR
  have HRs : Hid (∀ j, j < m → ((rs j).tn : Int) ≤ 1048576 ∧ ((rs j).wn : Int) ≤ 1048576) := hrs
  have HY1 : Hid (Below w.heap.size w (w.alloc (.cells #[] 3 (0, 0)))) := (Below.refl _ _).alloc (Nat.le_refl _) _
  have HAC : Hid (∀ v, costB n c = v → Calls Try.prog 59 #[.slice ca n ccap] (w.alloc (.cells #[] 3 (0, 0))) fun e w' => e = .returned (.bool v) ∧ w' = (w.alloc (.cells #[] 3 (0, 0)))) := fun v h => h ▸ l7Costs_any ca n ccap c _ hn (HC.below HY1.out)
  clear HC HR hrs
  by_cases hc : CostP n c
  case neg =>
    have hb := costB_f hc
    have HF : Hid (sdB n c m rs = false) := sdB_f (fun q => hc q.1)
    clear hc
    go_enter Try.func18, Try.ntmps18
    go_wp2_with (go_at_call 59; refine (HAC.out _ hb).mono ?_; rintro e w' ⟨rfl, ew⟩; replace ew := ew.symm; subst ew)
    go_returns
    exact sdP_none2 HF.out (CB.new _ _) HY1.out
  have hb := costB_t hc
  by_cases h40 : m ≤ 40
  case neg =>
    have HF : Hid (sdB n c m rs = false) := sdB_f (fun q => h40 q.2.1)
    have l1 : (m : Int) > 40 := by omega
    clear hc
    go_enter Try.func18, Try.ntmps18
    go_wp2_with (go_at_call 59; refine (HAC.out _ hb).mono ?_; rintro e w' ⟨rfl, ew⟩; replace ew := ew.symm; subst ew)
    go_returns
    exact sdP_none2 HF.out (CB.new _ _) HY1.out
  have l1 : ¬ (m : Int) > 40 := by omega
  have hn1 : 1 ≤ n := hc.1.1
  have hn2 : n ≤ 200 := hc.1.2
  have HCP : Hid (CostP n c) := hc
  obtain ⟨kca, oca, rfl, _⟩ := HCo.out.addr (by omega)
  have HF0 : Hid (IR ((w.alloc (.cells #[] 3 (0, 0))).alloc (.cells #[] 3 (0, 0))) (some ⟨kca, oca, none⟩) n c) := (HCo.out.alloc _).alloc _
  obtain ⟨i0, hi, hz0, hz1, hz2⟩ := info3
  have HS0 : Hid ((w.alloc (.cells #[] 3 (0, 0))).heap.size = w.heap.size + 1) := by show _ = _; simp
  clear hc
  go_enter Try.func18, Try.ntmps18
  go_wp2_with (first
    | (go_at_call 59; refine (HAC.out _ hb).mono ?_; rintro e w' ⟨rfl, ew⟩; replace ew := ew.symm; subst ew)
    | (at_builtin; go_loud (refine wpList_append_own_at _ rfl _ _ 24 rfl (w.heap.size + 1) 3 i0 (.int .i64 0) 1 8 Try.underlying24 hi hz0 hz1 hz2 rfl (by decide) (.slice (some ⟨w.heap.size + 1, 0, none⟩) 0 0) 0 [] rfl (by have := none_own (w.alloc (.cells #[] 3 (0, 0))); rw [HS0.out] at this; exact this) ⟨kca, oca, none⟩ n ccap (intL c n) rfl (by rw [intL_len]; omega) (cells_I HF0.out) (one_I c n) (by unfold maxLen; omega) (by omega) (by simp) ?_; intro v' w3 hown hgrow _ _; rw [Nat.zero_add, List.nil_append] at hown; obtain ⟨C, cc, cx, rfl, hC, hNB, hOwn⟩ := row_NB hown (by omega); have HW3 : Hid (NB w3 C n cx c ∧ CB w3 w.heap.size #[] 3 ∧ Below w.heap.size w w3) := (by have hb1 : Below (w.heap.size + 1) (w.alloc (.cells #[] 3 (0, 0))) w3 := below_app2 hgrow; exact ⟨hNB, (CB.new _ _).below hb1 (by omega), HY1.out.trans (hb1.mono (by omega))⟩); have HOwn : Hid (∀ (w' : World) (o' : Nat → Int), NB w' C n cx o' → w'.ownsRow w.heap.size 3 1 (.slice (some ⟨C, 0, none⟩) n cc) n (intL o' n)) := fun w' o' q => row_lower (hOwn w' o' q) (by omega); clear hown hgrow hNB hOwn; try simp only [Nat.zero_add])))
  go_loopw [8, 9] (fun u v wr => ∃ (k : Nat) (s : (Nat → Int) × (Nat → Bool)) (ga : Option Addr) (gc : Nat), k ≤ m ∧ v = .int .i64 (k : Int) ∧ u = .slice ga k gc ∧ Hid (sdn n c rs k = some s) ∧ Hid (SI w C n cx s.1 ga k gc (frs rs) wr)) (fun _ v _ => m - (intOf v).toNat)
  case atStart =>
    refine ⟨0, (c, fun _ => false), _, _, Nat.zero_le _, rfl, rfl, rfl, ?_⟩
    have hk : Below w3.heap.size w3 (w3.alloc (.cells #[] 3 (0, 0))) := (Below.refl _ _).alloc (Nat.le_refl _) _
    have hlt := HW3.out.2.1.lt
    exact ⟨HW3.out.1.on hk, row_lower (none_own w3) (by omega), fun g hg => by have := HW3.out.1.lt; simp [Value.ownBlock] at hg; omega, HW3.out.2.1.below hk hlt, bel_on HW3.out.2.2 hk⟩
  case round =>
    clear HW3
    obtain ⟨k, ⟨sc, sg⟩, ga, gc, hk, rfl, rfl, HSD, HSI⟩ := hrel
    by_cases hlt : k < m
    case neg =>
      obtain rfl : k = m := by omega
      have lkk : ¬ (k : Int) < (k : Int) := by omega
      go_wp2
      go_returns
      exact sdP_some HCP.out h40 HSD.out (HOwn.out _ _ HSI.out.1) HSI.out.2.2.2.2
    have hlt2 : (k : Int) < (m : Int) := by omega
    obtain ⟨kb, off, rfl, hkb, hru⟩ : ∃ kb off, ra = some ⟨kb, off, none⟩ ∧ kb < w.heap.size ∧ RuAt w kb (off + k * 3) (rs k) := by
      rcases HRu.out with h | ⟨kb, off, e, hkb, hc⟩
      · omega
      · exact ⟨kb, off, e, hkb, hc k hlt⟩
    obtain ⟨ta, tc, wa, wc', r1, r2, r3, r4, r5, r6⟩ := hru
    have HB : Hid (Below w.heap.size w wr) := HSI.out.2.2.2.2
    have e1 : wr.cell? ⟨kb, off + k * 3, none⟩ = some (.int .i64 (rs k).frm) := by rw [World.cell?_of_block (w := w) (HB.out.block kb hkb)]; exact r1
    have e2 : wr.cell? ⟨kb, off + k * 3 + 1, none⟩ = some (.slice ta (rs k).tn tc) := by rw [World.cell?_of_block (w := w) (HB.out.block kb hkb)]; exact r2
    have e3 : wr.cell? ⟨kb, off + k * 3 + 2, none⟩ = some (.slice wa (rs k).wn wc') := by rw [World.cell?_of_block (w := w) (HB.out.block kb hkb)]; exact r3
    have HT : Hid (IR w ta (rs k).tn (rs k).to) := r4
    have HW : Hid (IR w wa (rs k).wn (rs k).wt) := r5
    have hrb := HRs.out k hlt
    have HJ0 := HSI.out.new #[.int .i64 (rs k).frm, .slice ta (rs k).tn tc, .slice wa (rs k).wn wc']
    have HJ : Hid (SJ w C n cx sc ga k gc (frs rs) wr.heap.size #[.int .i64 (rs k).frm, .slice ta (rs k).tn tc, .slice wa (rs k).wn wc'] (wr.alloc (.cells #[.int .i64 (rs k).frm, .slice ta (rs k).tn tc, .slice wa (rs k).wn wc'] 36 (0, 0)))) := HJ0
    have hRC : wr.heap.size ≠ C := by have := HSI.out.1.lt; omega
    have hCR : C ≠ wr.heap.size := fun q => hRC q.symm
    have HAM : Hid (∀ j, j < n → AmtP (sc j)) := sdn_amt HCP.out.2 HSD.out
    have HGV : Hid (∀ x : Int, 0 ≤ x → (sg x.toNat = true ↔ HasP k (frs rs) x)) := (sdn_gave HSD.out).2
    have HST : Hid (¬ (ROk n sg (rs k) ∧ HOk sc (rs k)) → sdB n c m rs = false) := fun q => sdn_stop HSD.out hlt q
    have HNX : Hid (ROk n sg (rs k) → HOk sc (rs k) → sdn n c rs (k + 1) = some (hdn sc (rs k) (rs k).tn, updB sg (rs k).frm.toNat)) := fun q1 q2 => sdn_step HSD.out q1 q2
    have hFR : frs rs k = (rs k).frm := rfl
    have HFR : Hid (frs rs k = (rs k).frm) := hFR
    obtain ⟨b1, b2⟩ := hrb
    go_upto_region 10 with fail
    generalize wr.alloc (.cells #[.int .i64 (rs k).frm, .slice ta (rs k).tn tc, .slice wa (rs k).wn wc'] 36 (0, 0)) = W at *
    generalize wr.heap.size = R at *
    have a0 : W.cell? ⟨R, 0, none⟩ = some (.int .i64 (rs k).frm) := (HJ.out.2.cell 0).trans rfl
    have a1 : W.cell? ⟨R, 1, none⟩ = some (.slice ta (rs k).tn tc) := (HJ.out.2.cell 1).trans rfl
    have a2 : W.cell? ⟨R, 2, none⟩ = some (.slice wa (rs k).wn wc') := (HJ.out.2.cell 2).trans rfl
    clear HJ0 r1 r2 r3 r4 r5 e1 e2 e3 HSI HB HSD hFR
    clear wr
    obtain ⟨f, hf⟩ : ∃ f, (rs k).frm = f := ⟨_, rfl⟩
    obtain ⟨t, ht⟩ : ∃ t, (rs k).tn = t := ⟨_, rfl⟩
    obtain ⟨t2, ht2⟩ : ∃ t, (rs k).wn = t := ⟨_, rfl⟩
    have Hf : Hid ((rs k).frm = f) := hf
    have Ht : Hid ((rs k).tn = t) := ht
    have Ht2 : Hid ((rs k).wn = t2) := ht2
    rw [hf, ht, ht2] at HJ
    rw [hf] at a0
    rw [ht] at a1 HT b1
    rw [ht2] at a2 HW b2
    rw [ht] at r6
    rw [hf] at HFR
    clear hf ht ht2
    have HIR : Hid (IR W ga k (frs rs)) := row_IR HJ.out.1.2.1 (fun j hj => intL_get hj)
    have hk40 : (k : Int) ≤ 1048576 := by omega
    have hnn : (n : Int) ≤ 200 := by omega
    by_cases hp : 0 ≤ f ∧ f ≤ (n : Int) - 1
    case neg =>
      have d1 : inB f 0 ((n : Int) - 1) = false := inB_f hp
      have HF : Hid (sdB n c m rs = false) := HST.out (fun q => hp (by have := q.1.1; rw [Hf.out] at this; omega))
      clear hp
      go_wp2_with (go_at_call 60; refine (l1In_eq _ d1).mono ?_; rintro e w' ⟨rfl, ew⟩; replace ew := ew.symm; subst ew)
      go_returns
      exact HJ.out.none HF.out
    have d1 : inB f 0 ((n : Int) - 1) = true := inB_t hp.1 hp.2
    obtain ⟨i, hfi⟩ : ∃ i : Nat, f = (i : Int) := ⟨f.toNat, by omega⟩
    subst hfi
    have hin : i < n := by omega
    clear hp
    by_cases hh : HasP k (frs rs) (i : Int)
    case pos =>
      have d2 : hasB k (frs rs) (i : Int) = true := hasB_t hh
      have HF : Hid (sdB n c m rs = false) := HST.out (fun q => by
        have h1 := q.1.2.1
        rw [Hf.out] at h1
        rw [(HGV.out (i : Int) (by omega)).2 hh] at h1
        cases h1)
      clear hh
      go_wp2_with (first | (go_at_call 60; refine (l1In_eq _ d1).mono ?_; rintro e w' ⟨rfl, ew⟩; replace ew := ew.symm; subst ew) | (go_at_call 61; refine (l7Has_eq _ hk40 HIR.out d2).mono ?_; rintro e w' ⟨rfl, ew⟩; replace ew := ew.symm; subst ew))
      go_returns
      exact HJ.out.none HF.out
    have d2 : hasB k (frs rs) (i : Int) = false := hasB_f hh
    have HNH : Hid (sg i = false) := by
      show _ = _
      cases h : sg i with
      | false => rfl
      | true => exact absurd ((HGV.out (i : Int) (by omega)).1 (by simpa using h)) hh
    clear hh
    by_cases hlen : t = t2
    case neg =>
      have HF : Hid (sdB n c m rs = false) := HST.out (fun q => hlen (by have := q.1.2.2.1; rw [Ht.out, Ht2.out] at this; exact this))
      have x1 : ((t : Int) == (t2 : Int)) = false := by simp; omega
      have x2 : ((t : Int) != (t2 : Int)) = true := by simp [bne, x1]
      have x5 : (t == t2) = false := by simpa using hlen
      have x6 : decide (t = t2) = false := decide_eq_false hlen
      go_wp2_with (first | (go_at_call 60; refine (l1In_eq _ d1).mono ?_; rintro e w' ⟨rfl, ew⟩; replace ew := ew.symm; subst ew) | (go_at_call 61; refine (l7Has_eq _ hk40 HIR.out d2).mono ?_; rintro e w' ⟨rfl, ew⟩; replace ew := ew.symm; subst ew))
      go_returns
      exact HJ.out.none HF.out
    subst hlen
    by_cases h200 : t ≤ 200
    case neg =>
      have HF : Hid (sdB n c m rs = false) := HST.out (fun q => h200 (by have := q.1.2.2.2.1.1; rw [Ht2.out] at this; exact this))
      have x1 : (t : Int) > 200 := by omega
      go_wp2_with (first | (go_at_call 60; refine (l1In_eq _ d1).mono ?_; rintro e w' ⟨rfl, ew⟩; replace ew := ew.symm; subst ew) | (go_at_call 61; refine (l7Has_eq _ hk40 HIR.out d2).mono ?_; rintro e w' ⟨rfl, ew⟩; replace ew := ew.symm; subst ew))
      go_returns
      exact HJ.out.none HF.out
    have x1 : ¬ (t : Int) > 200 := by omega
    have hgs := HJ.out.1.2.2.2.2.size
    go_wp2_with (first
      | (go_at_call 60; refine (l1In_eq _ d1).mono ?_; rintro e w' ⟨rfl, ew⟩; replace ew := ew.symm; subst ew)
      | (go_at_call 61; refine (l7Has_eq _ hk40 HIR.out d2).mono ?_; rintro e w' ⟨rfl, ew⟩; replace ew := ew.symm; subst ew)
      | (at_builtin; go_loud (refine wpList_append_own_at _ rfl _ _ 24 rfl (w.heap.size + 1) 3 i0 (.int .i64 0) 1 8 Try.underlying24 hi hz0 hz1 hz2 rfl (by decide) (.slice ga k gc) k (intL (frs rs) k) rfl (row_below HJ.out.1.2.1 ((Below.refl _ _).alloc (Nat.le_refl _) _)) ⟨W.heap.size, 0, none⟩ 1 1 [.int .i64 (i : Int)] rfl rfl (cell_one_at rfl) (fun x hx => by simp at hx; subst hx; rfl) (by unfold maxLen; omega) (by omega) (by simp; have := HJ.out.1.2.2.2.1.lt; omega) ?_; intro u' w4 hown hgrow _ hloc; obtain ⟨ga', gc', rfl⟩ := row_form hown; have HJ4 : Hid (SJ w C n cx sc ga' (k + 1) gc' (frs rs) R #[.int .i64 (i : Int), .slice ta t tc, .slice wa t wc'] w4) := HJ.out.app (by rw [intL_succ, HFR.out]; exact hown) hgrow hloc; clear hown hgrow hloc)))
    clear HJ HIR a0 a1 a2 d2
    go_loopw [11] (fun v wr => ∃ (j : Nat), j ≤ t ∧ v = .int .i64 (j : Int) ∧ Hid (SJ w C n cx sc ga' (k + 1) gc' (frs rs) R #[.int .i64 (i : Int), .slice ta t tc, .slice wa t wc'] wr) ∧ Hid (∀ l, l < j → TOk n sg (rs k) l)) (fun v _ => t - (intOf v).toNat)
    case atStart => exact ⟨0, Nat.zero_le _, rfl, HJ4, fun l hl => by omega⟩
    case round =>
      clear HJ4
      clear w4
      obtain ⟨j, hjt, rfl, HJ, HTk⟩ := hrel
      have a0 : wr.cell? ⟨R, 0, none⟩ = some (.int .i64 (i : Int)) := (HJ.out.2.cell 0).trans rfl
      have a1 : wr.cell? ⟨R, 1, none⟩ = some (.slice ta t tc) := (HJ.out.2.cell 1).trans rfl
      have a2 : wr.cell? ⟨R, 2, none⟩ = some (.slice wa t wc') := (HJ.out.2.cell 2).trans rfl
      by_cases hj : j < t
      · have hj2 : (j : Int) < (t : Int) := by omega
        obtain ⟨tb, to, rfl, htb⟩ := HT.out.addr (by omega)
        have HTr : Hid (IR wr (some ⟨tb, to, none⟩) t (rs k).to) := HT.out.below HJ.out.1.2.2.2.2
        have c1 := HTr.out.cell hj
        have HTt : Hid (IR wr (some ⟨tb, to, none⟩) j (rs k).to) := HTr.out.take (by omega)
        have HGr : Hid (IR wr ga' (k + 1) (frs rs)) := row_IR HJ.out.1.2.1 (fun j hj => intL_get hj)
        have q1 : ((k + 1 : Nat) : Int) ≤ 1048576 := by omega
        have q2 : (j : Int) ≤ 1048576 := by omega
        have q3 : (j : Int) ≤ (tc : Int) := by omega
        have q4 : j ≤ tc := by omega
        obtain ⟨y, hy⟩ : ∃ y, (rs k).to j = y := ⟨_, rfl⟩
        rw [hy] at c1
        have HY : Hid ((rs k).to j = y) := hy
        have HNO : Hid (¬ TOk n sg (rs k) j → sdB n c m rs = false) := fun q => HST.out (fun q2 => q (q2.1.2.2.2.2 j (by rw [Ht.out]; exact hj)))
        clear hy
        by_cases hpy : 0 ≤ y ∧ y ≤ (n : Int) - 1
        case neg =>
          have d3 : inB y 0 ((n : Int) - 1) = false := inB_f hpy
          have HF : Hid (sdB n c m rs = false) := HNO.out (fun q => hpy (by have := q.1; rw [HY.out] at this; omega))
          clear hpy
          go_wp2
          go_quiet (first | (go_at_call 60; exact Calls.quiet_of_same (l1In_eq _ d3)))
          go_wp2
          go_returns
          exact (HJ.out.drewN _).none HF.out
        have d3 : inB y 0 ((n : Int) - 1) = true := inB_t hpy.1 hpy.2
        obtain ⟨hy1, hy2⟩ := hpy
        by_cases hh : HasP (k + 1) (frs rs) y
        case pos =>
          have d4 : hasB (k + 1) (frs rs) y = true := hasB_t hh
          have H4 : Hid (∀ q, Calls Try.prog 61 #[.slice ga' (k + 1) gc', .int .i64 y] (wr.drewN q) fun e w' => e = .returned (.bool true) ∧ w' = wr.drewN q) := fun q => l7Has_eq _ q1 (HGr.out.drewN _) d4
          have HF : Hid (sdB n c m rs = false) := HNO.out (fun q => by
            obtain ⟨l, hl1, hl2⟩ := hh
            have g1 := q.2.1
            have g2 := q.2.2.1
            rw [HY.out] at g1 g2
            by_cases e : l = k
            · subst e; exact g2 (by rw [← hl2]; rfl)
            · rw [(HGV.out y hy1).2 ⟨l, by omega, hl2⟩] at g1; cases g1)
          clear hh
          go_wp2
          go_quiet (first | (go_at_call 60; exact Calls.quiet_of_same (l1In_eq _ d3)) | (go_at_call_of 61 gc'; exact Calls.quiet_of_same (H4.out _)))
          go_wp2
          go_returns
          exact (HJ.out.drewN _).none HF.out
        have d4 : hasB (k + 1) (frs rs) y = false := hasB_f hh
        have H4 : Hid (∀ q, Calls Try.prog 61 #[.slice ga' (k + 1) gc', .int .i64 y] (wr.drewN q) fun e w' => e = .returned (.bool false) ∧ w' = wr.drewN q) := fun q => l7Has_eq _ q1 (HGr.out.drewN _) d4
        have HH1 : Hid (sg y.toNat = false ∧ y ≠ (rs k).frm) := by
          constructor
          · cases h : sg y.toNat with
            | false => rfl
            | true =>
              obtain ⟨l, hl1, hl2⟩ := (HGV.out y hy1).1 h
              exact absurd ⟨l, by omega, hl2⟩ hh
          · exact fun q => hh ⟨k, by omega, by rw [q]; rfl⟩
        clear hh
        by_cases hh : HasP j (rs k).to y
        case pos =>
          have d5 : hasB j (rs k).to y = true := hasB_t hh
          have H5 : Hid (∀ q, Calls Try.prog 61 #[.slice (some ⟨tb, to, none⟩) j tc, .int .i64 y] (wr.drewN q) fun e w' => e = .returned (.bool true) ∧ w' = wr.drewN q) := fun q => l7Has_eq _ q2 (HTt.out.drewN _) d5
          have HF : Hid (sdB n c m rs = false) := HNO.out (fun q => by
            obtain ⟨l, hl1, hl2⟩ := hh
            exact q.2.2.2 l hl1 (by rw [hl2, HY.out]))
          clear hh
          go_wp2
          go_quiet (first | (go_at_call 60; exact Calls.quiet_of_same (l1In_eq _ d3)) | (go_at_call_of 61 gc'; exact Calls.quiet_of_same (H4.out _)) | (go_at_call_of 61 tc; exact Calls.quiet_of_same (H5.out _)))
          go_wp2
          go_returns
          exact (HJ.out.drewN _).none HF.out
        have d5 : hasB j (rs k).to y = false := hasB_f hh
        have H5 : Hid (∀ q, Calls Try.prog 61 #[.slice (some ⟨tb, to, none⟩) j tc, .int .i64 y] (wr.drewN q) fun e w' => e = .returned (.bool false) ∧ w' = wr.drewN q) := fun q => l7Has_eq _ q2 (HTt.out.drewN _) d5
        have HT2 : Hid (∀ l, l < j + 1 → TOk n sg (rs k) l) := fun l hl => by
          by_cases e : l = j
          · subst e
            unfold TOk
            rw [HY.out]
            exact ⟨⟨hy1, by omega⟩, HH1.out.1, HH1.out.2, fun x hx q => hh ⟨x, hx, q⟩⟩
          · exact HTk.out l (by omega)
        clear hh
        go_wp2
        go_quiet (first | (go_at_call 60; exact Calls.quiet_of_same (l1In_eq _ d3)) | (go_at_call_of 61 gc'; exact Calls.quiet_of_same (H4.out _)) | (go_at_call_of 61 tc; exact Calls.quiet_of_same (H5.out _)))
        go_wp2
        go_roundw
        case rel => exact ⟨j + 1, by omega, by go_num, HJ.out.drewN _, HT2⟩
        case measure => simp [intOf]; omega
      obtain rfl : j = t := by omega
      have lkk : ¬ (j : Int) < (j : Int) := by omega
      have HTA : Hid (∀ l, l < j → TOk n sg (rs k) l) := HTk
      clear HTk
      have hCi := HJ.out.1.1.cell hin
      have hAi := HAM.out i hin
      have hin2 : (i : Int) < (n : Int) := by omega
      obtain ⟨x, hx⟩ : ∃ x, sc i = x := ⟨_, rfl⟩
      have Hx : Hid (sc i = x) := hx
      have HRS : Hid (rsh sc (rs k) = shV x j (rs k).wt) := by
        show _ = _
        unfold rsh; rw [Hf.out, Ht2.out]; simp [hx]
      rw [hx] at hCi hAi
      clear hx
      have HJd : Hid (SJ w C n cx sc ga' (k + 1) gc' (frs rs) R #[.int .i64 (i : Int), .slice ta j tc, .slice wa j wc'] wr.drew) := HJ.out.drew
      have HIRd : Hid (IR wr.drew wa j (rs k).wt) := HW.out.below HJd.out.1.2.2.2.2
      obtain ⟨M, hM⟩ : ∃ M, shM x j (rs k).wt = M := ⟨_, rfl⟩
      have HSh : Hid (Calls Try.prog 12 #[.int .i64 x, .slice wa j wc'] wr.drew (NewI M (intL (rsh sc (rs k)) M) wr.drew)) := by
        have := specShares_any x wa j wc' (rs k).wt wr.drew (by omega) HIRd.out
        rw [hM] at this
        rw [HRS.out]; exact this
      have HM : Hid (shM x j (rs k).wt = M) := hM
      have hMl : M ≤ 200 := by rw [← hM]; exact shM_le _ _ _
      have HX : Hid (-100000000000 ≤ x ∧ x ≤ 100000000000) := hAi
      clear hM hAi
      go_wp2
      go_region_held3 (fun w' => w'.cell? ⟨C, i, none⟩ = some (.int .i64 x) ∧ w'.cell? ⟨R, 0, none⟩ = some (.int .i64 (i : Int)) ∧ w'.cell? ⟨R, 2, none⟩ = some (.slice wa j wc') ∧ SJ w C n cx sc ga' (k + 1) gc' (frs rs) R #[.int .i64 (i : Int), .slice ta j tc, .slice wa j wc'] w')
        (refine ⟨?_, ?_, ?_, ?_⟩ <;> first | assumption | exact HJd.out | (simp [*]; done))
        (first | (go_at_call 12; refine HSh.out.mono ?_; rintro e w2 ⟨adg, capg, rfl, o2, b2⟩; have p0 : w2.cell? ⟨C, i, none⟩ = some (.int .i64 x) := keep_cell' b2 (by simp [*]); have p1 : w2.cell? ⟨R, 0, none⟩ = some (.int .i64 (i : Int)) := keep_cell' b2 (by simp [*]); have p2 : w2.cell? ⟨R, 2, none⟩ = some (.slice wa j wc') := keep_cell' b2 (by simp [*]); have p3 : SJ w C n cx sc ga' (k + 1) gc' (frs rs) R #[.int .i64 (i : Int), .slice ta j tc, .slice wa j wc'] w2 := HJd.out.on b2; have HO2 : Hid (w2.ownsRow wr.heap.size 3 1 (.slice adg M capg) M (intL (rsh sc (rs k)) M)) := o2))
      have HJ2 : Hid (SJ w C n cx sc ga' (k + 1) gc' (frs rs) R #[.int .i64 (i : Int), .slice ta j tc, .slice wa j wc'] w2) := p3
      have hCw : C < wr.heap.size := HJ.out.1.1.lt
      have hRw : R < wr.heap.size := HJ.out.2.lt
      clear p0 p1 p2 p3 o2 b2 HSh HJd HIRd a0 a1 a2 hCi HJ
      have a0 : w2.cell? ⟨R, 0, none⟩ = some (.int .i64 (i : Int)) := (HJ2.out.2.cell 0).trans rfl
      have a1 : w2.cell? ⟨R, 1, none⟩ = some (.slice ta j tc) := (HJ2.out.2.cell 1).trans rfl
      have y1 := HJ2.out.1.1.fr i
      by_cases hW : WOk j (rs k).wt
      case neg =>
        have HF : Hid (sdB n c m rs = false) := HST.out (fun q => hW (by have := q.1.2.2.2.1; rw [Ht2.out] at this; exact this))
        have hM0 : M = 0 := by rw [← HM.out]; exact shM_no (fun q => hW q.2)
        subst hM0
        clear hW
        go_wp2
        go_returns
        exact HJ2.out.none HF.out
      have hsok : ShOk x j (rs k).wt := ⟨HX.out, hW⟩
      have hMj : M = j := by rw [← HM.out]; exact shM_ok hsok
      subst hMj
      have hM0 : 0 < M := by
        have h5 := hW.2.2
        rcases Nat.eq_zero_or_pos M with e | e
        · subst e; simp [sm] at h5
        · exact e
      have hM1 : ((M : Int) == 0) = false := by simp; omega
      have HRb : Hid (∀ l, l < M → -200000000000 ≤ rsh sc (rs k) l ∧ rsh sc (rs k) l ≤ 200000000000) := fun l hl => by rw [HRS.out]; exact shV_bd hsok hl
      have HOK : Hid (ROk n sg (rs k)) := ⟨by rw [Hf.out]; omega, by rw [Hf.out]; simpa using HNH.out, by rw [Ht.out, Ht2.out], by rw [Ht2.out]; exact hW, fun l hl => HTA.out l (by rw [Ht.out] at hl; exact hl)⟩
      clear hsok hW HM HX HRS Hx
      obtain ⟨g, gcap, eg, hgl, hgb, _⟩ := row_get HO2.out (j := 0) hM0
      simp only [Value.slice.injEq] at eg
      obtain ⟨rfl, _, rfl⟩ := eg
      have HS2 : Hid (IR w2 (some ⟨g, 0, none⟩) M (rsh sc (rs k))) := row_IR HO2.out (fun j hj => intL_get hj)
      have n9 : g ≠ C := by omega
      have n10 : C ≠ g := by omega
      have hCs : w.heap.size < C := by omega
      obtain ⟨tb, to, rfl, htb⟩ := HT.out.addr hM0
      have n1 : tb ≠ C := by omega
      have n2 : C ≠ tb := by omega
      have HW3 : Hid (SJ w C n cx (hdn sc (rs k) 0) ga' (k + 1) gc' (frs rs) R #[.int .i64 (i : Int), .slice (some ⟨tb, to, none⟩) M tc, .slice wa M wc'] (w2.setCell ⟨C, i, none⟩ (.int .i64 0)) ∧ IR (w2.setCell ⟨C, i, none⟩ (.int .i64 0)) (some ⟨g, 0, none⟩) M (rsh sc (rs k))) := by
        refine ⟨?_, HS2.out.other _ n9⟩
        have := HJ2.out.set hCs hRC hin 0
        unfold hdn; rw [Hf.out]; exact this
      clear HO2 hgl hgb
      go_wp2
      go_loopw [13] (fun v wr => ∃ (l : Nat), l ≤ M ∧ v = .int .i64 (l : Int) ∧ Hid (SJ w C n cx (hdn sc (rs k) l) ga' (k + 1) gc' (frs rs) R #[.int .i64 (i : Int), .slice (some ⟨tb, to, none⟩) M tc, .slice wa M wc'] wr ∧ IR wr (some ⟨g, 0, none⟩) M (rsh sc (rs k))) ∧ Hid (∀ j, j < l → AmtP (hdn sc (rs k) j ((rs k).to j).toNat + rsh sc (rs k) j))) (fun v _ => M - (intOf v).toNat)
      case atStart => exact ⟨0, Nat.zero_le _, rfl, HW3, fun j hj => by omega⟩
      case round =>
        clear HW3 a0 a1 y1 HS2 HJ2
        rename_i wrr
        obtain ⟨l, hl, rfl, HJ3, HA⟩ := hrel
        have a1 : wr.cell? ⟨R, 1, none⟩ = some (.slice (some ⟨tb, to, none⟩) M tc) := (HJ3.out.1.2.cell 1).trans rfl
        by_cases hlM : l < M
        · have hl2 : (l : Int) < (M : Int) := by omega
          have z1 := (HT.out.below HJ3.out.1.1.2.2.2.2).cell hlM
          have hty := HTA.out l hlM
          obtain ⟨q, hq⟩ : ∃ q : Nat, (rs k).to l = (q : Int) := ⟨((rs k).to l).toNat, by have := hty.1; omega⟩
          have hqn : q < n := by have := hty.1; omega
          rw [hq] at z1
          have Hq2 : Hid (((rs k).to l).toNat = q) := by show _ = _; omega
          have hqn2 : (q : Int) < (n : Int) := by omega
          have z2 := HJ3.out.1.1.1.cell hqn
          have z3 := HJ3.out.1.1.1.fr q
          have z4 := HJ3.out.2.cell hlM
          rw [Nat.zero_add] at z4
          have hvb := hdn_amt HAM.out l HA.out q hqn
          have hsb := HRb.out l hlM
          obtain ⟨v, hv⟩ : ∃ v, hdn sc (rs k) l q = v := ⟨_, rfl⟩
          obtain ⟨s, hs⟩ : ∃ s, rsh sc (rs k) l = s := ⟨_, rfl⟩
          rw [hv] at z2 hvb
          rw [hs] at z4 hsb
          obtain ⟨v1, v2⟩ := hvb
          obtain ⟨s1, s2⟩ := hsb
          have HN : Hid (SJ w C n cx (hdn sc (rs k) (l + 1)) ga' (k + 1) gc' (frs rs) R #[.int .i64 (i : Int), .slice (some ⟨tb, to, none⟩) M tc, .slice wa M wc'] (wr.setCell ⟨C, q, none⟩ (.int .i64 (v + s))).drew ∧ IR (wr.setCell ⟨C, q, none⟩ (.int .i64 (v + s))).drew (some ⟨g, 0, none⟩) M (rsh sc (rs k))) := by
            refine ⟨?_, HJ3.out.2.other _ n9⟩
            have := (HJ3.out.1.set hCs hRC hqn (v + s)).drew
            unfold hdn; rw [Hq2.out, hv, hs]; exact this
          have HVT : Hid (hdn sc (rs k) l ((rs k).to l).toNat + rsh sc (rs k) l = v + s) := by show _ = _; rw [Hq2.out, hv, hs]
          clear hv hs hq hty HJ3
          by_cases ham : AmtP (v + s)
          · have hb3 := inB_t ham.1 ham.2
            have HA2 : Hid (∀ j, j < l + 1 → AmtP (hdn sc (rs k) j ((rs k).to j).toNat + rsh sc (rs k) j)) := fun j hj => by
              by_cases e : j = l
              · subst e; rw [HVT.out]; exact ham
              · exact HA.out j (by omega)
            clear ham
            go_wp2
            go_region
            go_wp2_with (go_at_call 44; refine (l1Amount_eq _ hb3).mono ?_; rintro e w' ⟨rfl, ew⟩; replace ew := ew.symm; subst ew)
            go_roundw
            case rel => exact ⟨l + 1, by omega, by go_num, HN, HA2⟩
            case measure => simp [intOf]; omega
          · have hb3 := inB_f ham
            have HF : Hid (sdB n c m rs = false) := HST.out (fun q2 => ham (by have := q2.2 l (by rw [Ht.out]; exact hlM); rw [HVT.out] at this; exact this))
            clear ham
            go_wp2
            go_region
            go_wp2_with (go_at_call 44; refine (l1Amount_eq _ hb3).mono ?_; rintro e w' ⟨rfl, ew⟩; replace ew := ew.symm; subst ew)
            go_returns
            exact HN.out.1.none HF.out
        · obtain rfl : l = M := by omega
          have lkk : ¬ (l : Int) < (l : Int) := by omega
          have HSN : Hid (sdn n c rs (k + 1) = some (hdn sc (rs k) l, updB sg (rs k).frm.toNat)) := by
            have := HNX.out HOK.out (fun j hj => HA.out j (by rw [Ht.out] at hj; exact hj))
            rw [Ht.out] at this; exact this
          go_wp2
          go_roundw
          case rel => exact ⟨k + 1, (hdn sc (rs k) l, updB sg (rs k).frm.toNat), ga', gc', by omega, by go_num, rfl, HSN, HJ3.out.1.si⟩
          case measure => simp [intOf]; omega
end Go.Proofs.Ytjlniinahfgakaa
