/- The draw for StepDown, whole. -/
import Derived.Test.YtjlniinahfgakaaHi
import Derived.Deep.Cut
import Derived.Deep.RegionWith
namespace Go.Proofs.Ytjlniinahfgakaa
open Go.ChangeShapes Go.WideShapes Go.ChangeAt Go.RowKit
set_option linter.unusedVariables false
set_option linter.unusedSimpArgs false

set_option maxRecDepth 20000 in
set_option maxHeartbeats 8000000 in
theorem drawStep_any (a0 : Option Addr) (len0 cap0 : Nat) (w : World) (hl : (len0 : Int) ≤ 1048576) (hr : ByteRow w w.heap.size a0 len0) :
    Calls Try.prog 16 #[.slice a0 len0 cap0] w (SdD w) := by
  have HN : Hid (Calls Try.prog 36 #[.slice a0 len0 cap0] w fun e w' => e = .returned (.pointer (some ⟨w.heap.size, 0, none⟩)) ∧ Cursor w' w.heap.size ∧ Below w.heap.size w w') := new_any a0 len0 cap0 w (by omega) hr
  obtain ⟨b, hb⟩ : ∃ b, w.heap.size = b := ⟨_, rfl⟩
  rw [hb] at HN
  have HBB : Hid (w.heap.size = b) := hb
  obtain ⟨i3, hi3, hz30, hz31, hz32⟩ := info3
  obtain ⟨i6, hi6, hz60, hz61, hz62⟩ := info36
  clear hr hb
  have tok1 : True := trivial
  go_enter Try.func16, Try.ntmps16
  go_wp2_with (first
    | (go_at_call 36; refine HN.out.mono ?_; rintro e w1 ⟨rfl, c1, b1⟩; have M1 : Hid (Moved b w1 w1) := Moved.refl c1; have HB1 : Hid (Below w.heap.size w w1) := (HBB.out ▸ b1); clear c1 b1)
    | (go_at_call 38; refine (size_any _ _ _ _ _ hl (by omega)).mono ?_; rintro e wq ⟨s, rfl, s0, s1, ew⟩; replace ew := ew.symm; subst ew)
    | (go_at_call 37; clear tok1; refine (below_any b _ _ M1.out.1).mono ?_; rintro e w2 ⟨x, rfl, x0, x1, x2, m2⟩; have hx : x ≤ 6 := (by have := x1 (by omega); omega); have M2 : Hid (Moved b w1 w2) := M1.out.trans m2; obtain ⟨n, hn⟩ : ∃ n : Nat, 2 + x = (n : Int) := ⟨(2 + x).toNat, (by omega)⟩; have HNX : Hid (2 + x = (n : Int)) := hn; have hn8 : n ≤ 8 := (by omega); have hn2 : 2 ≤ n := (by omega); clear m2 x1 x2 hn)
    | (go_at_call 54; refine (costs_at HNX.out M2.out.1 (by omega)).mono ?_; rintro e a ⟨ca, cc, c, rfl, d3⟩; have HD3 : Hid (DR w2 b (.slice ca n cc) n c a) := d3; clear d3)
    | (go_at_call 37; refine (below_any b _ _ (HD3.out.cur.alloc _)).mono ?_; rintro e w4 ⟨r0, rfl, r00, r01, r02, m4⟩; have hr0 : r0 ≤ 1 + x := (by have := r01 (by omega); omega); have HQ4 : Hid (DQ a b (.slice (some ⟨a.heap.size, 0, none⟩) 0 0) 0 (fun _ => 0) (fun _ _ => 0) (fun _ _ => 0) (fun _ => 0) (fun _ => 0) (fun _ => 0) (fun _ => 0) (fun _ => 0) w4) := (DQ.mk (HD3.out.cur.alloc _) ((Turns.refl _ _).alloc _) HD3.out.cur.lt (made_R a) (fun j hj => by omega) (fun j hj => by omega) (fun j hj => by omega) (fun i j hi hj => by omega) (fun j hj => by omega)).moved m4; clear m4 r01 r02))
  have HCO : Hid (IR a ca n c ∧ Below w.heap.size w a ∧ w.heap.size ≤ b) := ⟨HD3.out.ir, by have e := HBB.out; subst e; exact HB1.out.trans ((M2.out.2.trans HD3.out.trn).below (Nat.le_refl _) HB1.out.size), by rw [HBB.out]; exact Nat.le_refl _⟩
  have HCB : Hid (∀ q, Value.ownBlock (.slice ca n cc) = some q → q < a.heap.size ∧ q ≠ b) := fun q hq => ⟨(HD3.out.row.lt q hq).2, by have := (HD3.out.row.lt q hq).1; have := HD3.out.lo; omega⟩
  have HCI : Hid (∀ W, Turns b a W → IR W ca n c) := fun W t => row_IR (row_block HD3.out.row (fun g hg => t.block g (HD3.out.row.lt g hg).2 (by have h1 := (HD3.out.row.lt g hg).1; have h2 := HD3.out.lo; omega))) (fun j hj => intL_get hj)
  clear HN M1 M2 HD3
  go_loopw [7, 8] (fun u v wr => ∃ (kk : Nat) (r : Int) (ra : Option Addr) (rc : Nat) (f : Nat → Int) (z y : Nat → Nat → Int) (N bt ct bw cw : Nat → Nat), v = .int .i64 r ∧ u = .slice ra kk rc ∧ 0 ≤ r ∧ r ≤ 10 ∧ r + (kk : Int) ≤ 1 + x ∧ Hid (DQ a b (.slice ra kk rc) kk f z y N bt ct bw cw wr)) (fun _ v _ => (intOf v).toNat)
  case atStart => exact ⟨0, r0, _, _, _, _, _, _, _, _, _, _, rfl, rfl, r00, by omega, by omega, HQ4⟩
  case round =>
    clear HQ4
    obtain ⟨kk, r, ra, rc, f, z, y, N, bt, ct, bw, cw, rfl, rfl, hr1, hr2, hr3, HQ⟩ := hrel
    obtain ⟨v0, hv0⟩ : ∃ v0, v0 = wr := ⟨_, rfl⟩
    subst hv0
    by_cases hrp : 0 < r
    case neg =>
      obtain rfl : r = 0 := by omega
      have HFIN : Hid (∀ (W : World) (rs' : Nat → R3), Turns b a W → RU W ra kk rs' → (∀ j, j < kk → ((rs' j).tn : Int) ≤ 1048576 ∧ ((rs' j).wn : Int) ≤ 1048576) → SdD w (.returned (.tuple #[.slice ca n cc, .slice ra kk rc])) W) := fun W rs' t ru hb => ⟨ca, n, cc, c, ra, kk, rc, rs', rfl, ⟨by omega, by omega, hb⟩, HCI.out W t, ru, HCO.out.2.1.trans (t.below HCO.out.2.2 HCO.out.2.1.size)⟩
      have HP : Hid (∀ j, j < kk → 1 ≤ N j ∧ N j ≤ 100) := HQ.out.pos
      have HF0 : Hid (∀ W, DQ a b (.slice ra kk rc) kk f z y N bt ct bw cw W → SdD w (.returned (.tuple #[.slice ca n cc, .slice ra kk rc])) W) := fun W q => HFIN.out W _ q.trn q.ru (fun j hj => by have h1 := (HP.out j hj).2; show ((N j : Nat) : Int) ≤ 1048576 ∧ ((N j : Nat) : Int) ≤ 1048576; omega)
      have HBD : Hid (∀ (r : R3) (j0 : Nat), r.tn ≤ 200 → r.wn ≤ 200 → ∀ j, j < kk → ((ifk j0 r (dqR f z y N) j).tn : Int) ≤ 1048576 ∧ ((ifk j0 r (dqR f z y N) j).wn : Int) ≤ 1048576) := fun r j0 h1 h2 j hj => by
        by_cases e : j = j0
        · subst e; rw [ifk_eq]; omega
        · rw [ifk_ne _ _ e]; have h3 := (HP.out j hj).2; show ((N j : Nat) : Int) ≤ 1048576 ∧ ((N j : Nat) : Int) ≤ 1048576; omega
      by_cases hk0 : kk = 0
      · subst hk0
        go_wp2_with (first
          | (go_at_call 39; refine (once_any b _ _ HQ.out.cur).mono ?_; rintro e W1 ⟨yb, rfl, m1⟩; have HQ1 := HQ.out.moved m1; have HQ1h : Hid (SdD w (.returned (.tuple #[.slice ca n cc, .slice ra 0 rc])) W1) := HF0.out _ HQ1; clear m1 HQ1; cases yb))
        all_goals
          go_returns
          exact HQ1h.out
      have hk1 : (0 : Int) < (kk : Int) := by omega
      have tok2 : True := trivial
      have tok3 : True := trivial
      go_wp2_with (first
        | (go_at_call 39; refine (once_any b _ _ HQ.out.cur).mono ?_; rintro e W1 ⟨yb, rfl, m1⟩; have HQ1 : Hid (DQ a b (.slice ra kk rc) kk f z y N bt ct bw cw W1) := HQ.out.moved m1; clear m1; cases yb)
        | (go_at_call 37; clear tok2; refine (below_any b _ _ HQ1.out.cur).mono ?_; rintro e W2 ⟨jx, rfl, j00, j01, j02, m2⟩; have hjk := j01 (by omega); obtain ⟨j0, rfl⟩ : ∃ j0 : Nat, jx = (j0 : Int) := ⟨jx.toNat, (by omega)⟩; have HQ2 : Hid (DQ a b (.slice ra kk rc) kk f z y N bt ct bw cw W2) := HQ1.out.moved m2; clear m2 j01 j02)
        | (go_at_call 37; refine (below_any b _ _ HQ2.out.cur).mono ?_; rintro e W3 ⟨s5, rfl, s00, s01, s02, m3⟩; have hs5 := s01 (by omega); have HQ3 : Hid (DQ a b (.slice ra kk rc) kk f z y N bt ct bw cw W3) := HQ2.out.moved m3; obtain ⟨g, cs, rfl, hC, hsz, hag, hne, hcs⟩ := HQ3.out.block (by omega); have hj0 : j0 < kk := (by omega); obtain ⟨q1, q2, q3⟩ := hcs j0 hj0; have x0 := (hC.cell (j0 * 3)).trans q1; have x1 := (hC.cell (j0 * 3 + 1)).trans q2; have x2 := (hC.cell (j0 * 3 + 2)).trans q3; have f0 := hC.fr (j0 * 3); have f1 := hC.fr (j0 * 3 + 1); have f2 := hC.fr (j0 * 3 + 2); unfold tvs at x1 x2; have hN := HP.out j0 hj0; have hcap : N j0 ≤ ct j0 := own_cap (HQ3.out.t j0 hj0); have hN1 : (1 : Int) ≤ (N j0 : Int) := (by omega); have hN2 : (N j0 : Int) ≤ (ct j0 : Int) := (by omega); have hgl := hC.lt; have HCC : Hid (CB W3 g cs 36 ∧ kk * 3 ≤ cs.size ∧ (∀ j, j < kk → g ≠ bt j ∧ g ≠ bw j) ∧ ∀ j, j < kk → cs[j * 3]? = some (.int .i64 (f j)) ∧ cs[j * 3 + 1]? = some (tvs bt ct N j) ∧ cs[j * 3 + 2]? = some (tvs bw cw N j)) := ⟨hC, hsz, hne, hcs⟩; clear m3 s01 s02 hC hsz hne hcs q1 q2 q3; rcases (show s5 = 0 ∨ s5 = 1 ∨ s5 = 2 ∨ s5 = 3 ∨ s5 = 4 by omega) with rfl | rfl | rfl | rfl | rfl)
        | (go_at_call 40; refine (pick_any b _ [-1, 2 + x, 0, 2 + x - 1] 4 4 _ (HQ3.out.alloc _).cur (IntRow.made HQ3.out.cur.lt _ _ _ rfl) rfl (by decide) (by decide)).mono ?_; rintro e W4 ⟨p, rfl, hp, m4⟩; have HQ4 : Hid (DQ a b (.slice (some ⟨g, 0, none⟩) kk rc) kk f z y N bt ct bw cw W4) := (HQ3.out.alloc _).moved m4; obtain ⟨g', cs4, eg, hC4, _, _, _, hcs4⟩ := HQ4.out.block (by omega); cases eg; have w0 := (hC4.cell (j0 * 3)).trans (hcs4 j0 hj0).1; have wf0 := hC4.fr (j0 * 3); clear m4 hp hC4 hcs4)
        | (at_builtin; clear tok3; go_loud (refine wpList_append_own_at _ rfl _ _ 24 rfl a.heap.size 3 i3 (.int .i64 0) 1 8 Try.underlying24 hi3 hz30 hz31 hz32 rfl (by decide) (.slice (some ⟨bt j0, 0, none⟩) (N j0) (ct j0)) (N j0) (intL (z j0) (N j0)) rfl (row_below (HQ3.out.t j0 hj0) ((Below.refl _ _).alloc (Nat.le_refl _) _)) ⟨W3.heap.size, 0, none⟩ 1 1 [.int .i64 0] rfl rfl (cell_one_at rfl) (fun u hu => by simp at hu; subst hu; rfl) (by unfold maxLen; omega) (by omega) (by have h1 := HQ3.out.trn.size; simp; omega) ?_; intro v' W4 hown hgrow _ hloc; obtain ⟨ta', tc', rfl⟩ := row_form hown; have C4 : CB W4 g cs 36 := HCC.out.1.keep ((hgrow.block g (by simp; omega) (fun e => (HCC.out.2.2.1 j0 hj0).1 (Option.some.inj e))).trans (alloc_old W3 _ hgl)); have HC4 : Hid (CB W4 g cs 36) := C4; have y1 := (C4.cell (j0 * 3 + 1)).trans (HCC.out.2.2.2 j0 hj0).2.1; have y2 := (C4.cell (j0 * 3 + 2)).trans (HCC.out.2.2.2 j0 hj0).2.2; have yf1 := C4.fr (j0 * 3 + 1); have yf2 := C4.fr (j0 * 3 + 2); unfold tvs at y1 y2; have hgl4 := C4.lt; have HU5 : Hid ((W4.setCell ⟨g, j0 * 3 + 1, none⟩ (.slice ta' (N j0 + 1) tc')).ownsRow a.heap.size 3 1 (.slice (some ⟨bw j0, 0, none⟩) (N j0) (cw j0)) (N j0) (intL (y j0) (N j0))) := row_block (HQ3.out.u j0 hj0) (fun q hq => by have e : bw j0 = q := Option.some.inj hq; have h1 := ((HQ3.out.u j0 hj0).lt (bw j0) rfl).2; have h2 := HQ3.out.ne j0 hj0; have h3 := (HCC.out.2.2.1 j0 hj0).2; have h4 : q < (W3.alloc (.cells #[.int .i64 0] 3 (0, 0))).heap.size := (by rw [← e]; simp; omega); exact (heap_set (fun e2 => h3 (by rw [e, e2]))).trans ((hgrow.block q h4 (fun e2 => h2 (by rw [e]; exact (Option.some.inj e2).symm))).trans (alloc_old W3 _ (by rw [← e]; exact h1)))); have HA1 : Hid (W4.ownsRow a.heap.size 3 1 (.slice ta' (N j0 + 1) tc') (N j0 + 1) (intL (z j0) (N j0) ++ [.int .i64 0]) ∧ (W3.alloc (.cells #[.int .i64 0] 3 (0, 0))).grownBy W4 (some (bt j0)) ∧ ((Value.slice ta' (N j0 + 1) tc').ownBlock = some (bt j0) ∨ (Value.slice ta' (N j0 + 1) tc').ownBlock = some (W3.alloc (.cells #[.int .i64 0] 3 (0, 0))).heap.size)) := ⟨hown, hgrow, hloc⟩; have hs4 := hgrow.size; simp at hs4; clear hown hgrow hloc C4))
        | (at_builtin; go_loud (refine wpList_append_own_at _ rfl _ _ 24 rfl a.heap.size 3 i3 (.int .i64 0) 1 8 Try.underlying24 hi3 hz30 hz31 hz32 rfl (by decide) (.slice (some ⟨bw j0, 0, none⟩) (N j0) (cw j0)) (N j0) (intL (y j0) (N j0)) rfl (row_below HU5.out ((Below.refl _ _).alloc (Nat.le_refl _) _)) ⟨W4.heap.size, 0, none⟩ 1 1 [.int .i64 1] rfl rfl (cell_one_at (by simp [World.setCell])) (fun u hu => by simp at hu; subst hu; rfl) (by unfold maxLen; omega) (by omega) (by have h1 := HQ3.out.trn.size; simp [World.setCell]; omega) ?_; intro v' W6 hown2 hgrow2 _ _; obtain ⟨wa', wc', rfl⟩ := row_form hown2; have C6 : CB W6 g (cs.setIfInBounds (j0 * 3 + 1) (.slice ta' (N j0 + 1) tc')) 36 := (HC4.out.set (j0 * 3 + 1) (.slice ta' (N j0 + 1) tc')).keep ((hgrow2.block g (by simp [World.setCell]; omega) (fun e => (HCC.out.2.2.1 j0 hj0).2 (Option.some.inj e))).trans (alloc_old _ _ (by simp [World.setCell]; omega))); have z2 := (C6.cell (j0 * 3 + 2)).trans ((get_set_ne (by omega)).trans (HCC.out.2.2.2 j0 hj0).2.2); have zf2 := C6.fr (j0 * 3 + 2); unfold tvs at z2; have HM := HQ3.out.spoilMore hj0 HA1.out.1 HA1.out.2.1 HA1.out.2.2 hown2 hgrow2; have HMh : Hid (RU (W6.setCell ⟨g, j0 * 3 + 2, none⟩ (.slice wa' (N j0 + 1) wc')) (some ⟨g, 0, none⟩) kk (ifk j0 ⟨f j0, N j0 + 1, upd (z j0) (N j0) 0, N j0 + 1, upd (y j0) (N j0) 1⟩ (dqR f z y N)) ∧ Turns b a (W6.setCell ⟨g, j0 * 3 + 2, none⟩ (.slice wa' (N j0 + 1) wc'))) := HM; clear hown2 hgrow2 C6 HM)))
      · go_returns
        exact HF0.out _ HQ1.out
      · go_returns
        exact HFIN.out _ _ (HQ4.out.trn.set2 _ hag) (HQ4.out.spoilFrom hj0 p) (HBD.out _ _ (by show N j0 ≤ 200; omega) (by show N j0 ≤ 200; omega))
      · go_returns
        exact HFIN.out _ _ HMh.out.2 HMh.out.1 (HBD.out _ _ (by show N j0 + 1 ≤ 200; omega) (by show N j0 + 1 ≤ 200; omega))
      · go_returns
        first
          | exact HFIN.out _ _ (HQ3.out.trn.set2 _ hag) (HQ3.out.spoilCut0 hj0 (by omega) _ _) (HBD.out _ _ (by show N j0 - 1 ≤ 200; omega) (by show N j0 ≤ 200; omega))
          | exact HFIN.out _ _ (HQ3.out.trn.set2 _ hag) (HQ3.out.spoilCut hj0) (HBD.out _ _ (by show N j0 - 1 ≤ 200; omega) (by show N j0 ≤ 200; omega))
      · go_returns
        first
          | exact HFIN.out _ _ (HQ3.out.trn.set2 _ hag) (HQ3.out.spoilCut0 hj0 (by omega) _ _) (HBD.out _ _ (by show N j0 - 1 ≤ 200; omega) (by show N j0 ≤ 200; omega))
          | exact HFIN.out _ _ (HQ3.out.trn.set2 _ hag) (HQ3.out.spoilCut hj0) (HBD.out _ _ (by show N j0 - 1 ≤ 200; omega) (by show N j0 ≤ 200; omega))
      · have HQd : Hid (DQ a b (.slice (some ⟨g, 0, none⟩) kk rc) kk f z y N bt ct bw cw W3.drew) := HQ3.out.moved ⟨HQ3.out.cur.drew, (Turns.refl _ _).drew⟩
        have t0 := (row_IR (HQ3.out.t j0 hj0) (fun i hi => intL_get hi)).cell (j := 0) (by omega)
        rw [Nat.zero_add] at t0
        have tf : W3.frozen? ⟨bt j0, 0, none⟩ = false := (HQ3.out.t j0 hj0).frozenAt 0
        have hta := ((HQ3.out.t j0 hj0).lt (bt j0) rfl).1
        go_region_with (first
          | (go_at_call 40; refine (pick_any b _ [-1, 2 + x, IntKind.i64.wrap (2 + x - 1)] 3 3 _ (HQ3.out.alloc _).cur.drew ((IntRow.made HQ3.out.cur.lt _ _ _ rfl).turns (Turns.refl _ _).drew) rfl (by decide) (by decide)).mono ?_; rintro e W4 ⟨p, rfl, hp, m4⟩; have HQ4 : Hid (DQ a b (.slice (some ⟨g, 0, none⟩) kk rc) kk f z y N bt ct bw cw W4) := ((HQ3.out.alloc _).moved ⟨(HQ3.out.alloc _).cur.drew, (Turns.refl _ _).drew⟩).moved m4; obtain ⟨g', cs4, eg, hC4, _, _, _, hcs4⟩ := HQ4.out.block (by omega); cases eg; have w1 := (hC4.cell (j0 * 3 + 1)).trans (hcs4 j0 hj0).2.1; unfold tvs at w1; have t4 := (row_IR (HQ4.out.t j0 hj0) (fun i hi => intL_get hi)).cell (j := 0) (by omega); rw [Nat.zero_add] at t4; have tf4 : W4.frozen? ⟨bt j0, 0, none⟩ = false := (HQ4.out.t j0 hj0).frozenAt 0; clear m4 hp hC4 hcs4))
        all_goals
          go_wp2
          go_returns
          exact HFIN.out _ _ (HQ4.out.trn.set2 _ hta) (HQ4.out.spoilTo hj0 p) (HBD.out _ _ (by show N j0 ≤ 200; omega) (by show N j0 ≤ 200; omega))
      · go_returns
        exact HFIN.out _ _ (HQ3.out.spoilNone2 hj0 _ _ _ _ _ _).2 (HQ3.out.spoilNone2 hj0 _ _ _ _ _ _).1 (HBD.out ⟨f j0, 0, z j0, 0, y j0⟩ j0 (Nat.zero_le _) (Nat.zero_le _))
    have hk8 : (kk : Int) ≤ x := by omega
    have hk9 : kk ≤ 8 := by omega
    have HE0 : Hid (EQ v0 b (kk : Int) none 0 0 (fun _ => 0) (v0.alloc (.cells #[.int .i64 (kk : Int), .slice none 0 0, .slice none 0 0] 36 (0, 0)))) := EQ.new HQ.out.cur _
    have a0' : (v0.alloc (.cells #[.int .i64 (kk : Int), .slice none 0 0, .slice none 0 0] 36 (0, 0))).cell? ⟨v0.heap.size, 0, none⟩ = some (.int .i64 (kk : Int)) := (HE0.out.box.cell 0).trans rfl
    go_wp2
    go_loopw [10] (fun v X => ∃ (i : Int) (ta : Option Addr) (q tc : Nat) (zz : Nat → Int), v = .int .i64 i ∧ (kk : Int) + 1 ≤ i ∧ i ≤ 2 + x ∧ ((kk : Int) + 1 < i → 1 ≤ q) ∧ (q : Int) + (kk : Int) + 1 ≤ i ∧ Hid (EQ v0 b (kk : Int) ta q tc zz X)) (fun v _ => (2 + x - intOf v).toNat)
    case atStart => exact ⟨(kk : Int) + 1, _, _, _, _, rfl, Int.le_refl _, by omega, fun h => by omega, by omega, HE0⟩
    case round =>
      clear HE0 a0'
      obtain ⟨i, ta, q, tc, zz, rfl, hi1, hi2, hiq, hq1, HE⟩ := hrel
      have hq8 : q ≤ 8 := by omega
      have box1 : wr.cell? ⟨v0.heap.size, 1, none⟩ = some (.slice ta q tc) := (HE.out.box.cell 1).trans rfl
      by_cases hin : i < 2 + x
      · by_cases hq0 : q = 0
        · have hq0b : ((q : Int) == 0) = true := by simp [hq0]
          have Hq0 : Hid (q = 0) := hq0
          clear hq0
          go_wp2_with (first
            | (go_at_call 39; refine (once_any b _ _ HE.out.cur).mono ?_; rintro e X1 ⟨yb, rfl, m1⟩; have HE1 : Hid (EQ v0 b (kk : Int) ta q tc zz X1) := HE.out.moved m1; clear m1; have k1 : X1.cell? ⟨v0.heap.size, 1, none⟩ = some (.slice ta q tc) := (HE1.out.box.cell 1).trans rfl; have hs1 := HE1.out.box.lt; cases yb)
            | (at_builtin; go_loud (refine wpList_append_own_at _ rfl _ _ 24 rfl v0.heap.size 3 i3 (.int .i64 0) 1 8 Try.underlying24 hi3 hz30 hz31 hz32 rfl (by decide) (.slice ta q tc) q (intL zz q) rfl (row_below HE1.out.row ((Below.refl _ _).alloc (Nat.le_refl _) _)) ⟨X1.heap.size, 0, none⟩ 1 1 [.int .i64 i] rfl rfl (cell_one_at rfl) (fun u hu => by simp at hu; subst hu; rfl) (by unfold maxLen; omega) (by omega) (by simp; omega) ?_; intro v' X2 hown hgrow _ _; obtain ⟨ta', tc', rfl⟩ := row_form hown; have HE2 : Hid (EQ v0 b (kk : Int) ta' (q + 1) tc' (upd zz q i) (X2.setCell ⟨v0.heap.size, 1, none⟩ (.slice ta' (q + 1) tc'))) := HE1.out.app hown hgrow; have hbx := HE1.out.keepBox hgrow; have k2 : X2.cell? ⟨v0.heap.size, 1, none⟩ = some (.slice ta q tc) := (hbx.cell 1).trans rfl; have k3 := hbx.fr 1; clear hown hgrow hbx)))
          all_goals
            go_roundw
            case rel => exact ⟨i + 1, ta', q + 1, tc', _, rfl, by omega, by omega, fun _ => by omega, by omega, HE2⟩
            case measure => simp [intOf]; omega
        · have hq0b : ((q : Int) == 0) = false := by simp; omega
          go_wp2_with (first
            | (go_at_call 39; refine (once_any b _ _ HE.out.cur).mono ?_; rintro e X1 ⟨yb, rfl, m1⟩; have HE1 : Hid (EQ v0 b (kk : Int) ta q tc zz X1) := HE.out.moved m1; clear m1; have k1 : X1.cell? ⟨v0.heap.size, 1, none⟩ = some (.slice ta q tc) := (HE1.out.box.cell 1).trans rfl; have hs1 := HE1.out.box.lt; cases yb)
            | (at_builtin; go_loud (refine wpList_append_own_at _ rfl _ _ 24 rfl v0.heap.size 3 i3 (.int .i64 0) 1 8 Try.underlying24 hi3 hz30 hz31 hz32 rfl (by decide) (.slice ta q tc) q (intL zz q) rfl (row_below HE1.out.row ((Below.refl _ _).alloc (Nat.le_refl _) _)) ⟨X1.heap.size, 0, none⟩ 1 1 [.int .i64 i] rfl rfl (cell_one_at rfl) (fun u hu => by simp at hu; subst hu; rfl) (by unfold maxLen; omega) (by omega) (by simp; omega) ?_; intro v' X2 hown hgrow _ _; obtain ⟨ta', tc', rfl⟩ := row_form hown; have HE2 : Hid (EQ v0 b (kk : Int) ta' (q + 1) tc' (upd zz q i) (X2.setCell ⟨v0.heap.size, 1, none⟩ (.slice ta' (q + 1) tc'))) := HE1.out.app hown hgrow; have hbx := HE1.out.keepBox hgrow; have k2 : X2.cell? ⟨v0.heap.size, 1, none⟩ = some (.slice ta q tc) := (hbx.cell 1).trans rfl; have k3 := hbx.fr 1; clear hown hgrow hbx)))
          · go_roundw
            case rel => exact ⟨i + 1, ta', q + 1, tc', _, rfl, by omega, by omega, fun _ => by omega, by omega, HE2⟩
            case measure => simp [intOf]; omega
          · go_roundw
            case rel => exact ⟨i + 1, ta, q, tc, zz, rfl, by omega, by omega, fun _ => by omega, by omega, HE1⟩
            case measure => simp [intOf]; omega
      · have hq2 : 1 ≤ q := hiq (by omega)
        obtain ⟨t1, c1', et, _⟩ := row_get HE.out.row (j := 0) (by omega)
        simp only [Value.slice.injEq] at et
        obtain ⟨rfl, _, rfl⟩ := et
        go_wp2_with (first
          | (go_at_call 43; refine (weights_any b q _ HE.out.cur (by omega)).mono ?_; rintro e X1 ⟨adw, capw, zw, rfl, d1, hzw⟩; obtain ⟨gw, cw1, ew, _⟩ := row_get d1.row (j := 0) (by omega); simp only [Value.slice.injEq] at ew; obtain ⟨rfl, _, rfl⟩ := ew; have HF1 : Hid (FQ v0 b (kk : Int) t1 tc gw capw q zz zw (X1.setCell ⟨v0.heap.size, 2, none⟩ (.slice (some ⟨gw, 0, none⟩) q capw))) := HE.out.whole d1; have hbx := HE.out.box.keep (d1.trn.block _ HE.out.box.lt (by have := HE.out.lo; omega)); have k2 : X1.cell? ⟨v0.heap.size, 2, none⟩ = some (.slice none 0 0) := (hbx.cell 2).trans rfl; have k3 := hbx.fr 2; have hz0b := hzw 0 (by omega); clear d1 hzw hbx))
        generalize (X1.setCell ⟨v0.heap.size, 2, none⟩ (.slice (some ⟨gw, 0, none⟩) q capw)) = X2 at *
        clear k2 k3 box1
        have b2 : X2.cell? ⟨v0.heap.size, 2, none⟩ = some (.slice (some ⟨gw, 0, none⟩) q capw) := (HF1.out.box.cell 2).trans rfl
        have g0 := (row_IR HF1.out.r2 (fun j hj => intL_get hj)).cell (j := 0) (by omega)
        rw [Nat.zero_add] at g0
        have gf : X2.frozen? ⟨gw, 0, none⟩ = false := HF1.out.r2.frozenAt 0
        obtain ⟨zv, hzv⟩ : ∃ zv, zw 0 = zv := ⟨_, rfl⟩
        rw [hzv] at g0 hz0b
        obtain ⟨hz1b, hz2b⟩ := hz0b
        clear hzv
        have HFd : Hid (FQ v0 b (kk : Int) t1 tc gw capw q zz zw X2.drew) := HF1.out.drew
        have hq1i : (0 : Int) < (q : Int) := by omega
        have hgR : gw ≠ v0.heap.size := fun e => HF1.out.box.ne HF1.out.r2 (by decide) (by rw [← e]; rfl)
        have hRg : v0.heap.size ≠ gw := fun e => hgR e.symm
        go_region_with (first
          | (go_at_call 37; refine (below_any b _ _ HFd.out.cur).mono ?_; rintro e X3 ⟨x9, rfl, y0, y1, y2, m3⟩; have hx9 : x9 ≤ 8 := (by have := y1 (by omega); omega); have HF3 : Hid (FQ v0 b (kk : Int) t1 tc gw capw q zz zw X3) := HFd.out.moved m3; have b30 : X3.cell? ⟨v0.heap.size, 0, none⟩ = some (.int .i64 (kk : Int)) := (HF3.out.box.cell 0).trans rfl; have b31 : X3.cell? ⟨v0.heap.size, 1, none⟩ = some (.slice (some ⟨t1, 0, none⟩) q tc) := (HF3.out.box.cell 1).trans rfl; have b3 : X3.cell? ⟨v0.heap.size, 2, none⟩ = some (.slice (some ⟨gw, 0, none⟩) q capw) := (HF3.out.box.cell 2).trans rfl; have g3 : X3.cell? ⟨gw, 0, none⟩ = some (.int .i64 zv) := m3.2.cell (by show gw < X2.heap.size; exact (HF1.out.r2.lt gw rfl).2) (by have h1 := (HF1.out.r2.lt gw rfl).1; have h2 := HF1.out.lo; omega) ▸ g0; have f3 : X3.frozen? ⟨gw, 0, none⟩ = false := HF3.out.r2.frozenAt 0; clear m3 y1 y2))
        all_goals
          have HF4 : Hid (FQ v0 b (kk : Int) t1 tc gw capw q zz (upd zw 0 (zv + x9)) (X3.setCell ⟨gw, 0, none⟩ (.int .i64 (zv + x9)))) := HF3.out.set (by omega) _
          have HR4 : Hid ((X3.setCell ⟨gw, 0, none⟩ (.int .i64 (zv + x9))).ownsRow a.heap.size 36 3 (.slice ra kk rc) kk (tri f (tvs bt ct N) (tvs bw cw N) kk)) := row_block HQ.out.row (fun g hg => HF4.out.trn.block g (HQ.out.row.lt g hg).2 (by have h1 := (HQ.out.row.lt g hg).1; have h2 := HQ.out.lo; omega))
          have hs4 : a.heap.size ≤ X3.heap.size := by have h1 := HQ.out.trn.size; have h2 := HF3.out.trn.size; omega
          go_wp2_with (first
            | (at_builtin; go_loud (refine wpList_append_own_at _ rfl _ _ 30 rfl a.heap.size 36 i6 (.agg #[.int .i64 0, .slice none 0 0, .slice none 0 0]) 3 56 Try.underlying30 hi6 hz60 hz61 hz62 rfl (by decide) (.slice ra kk rc) kk (tri f (tvs bt ct N) (tvs bw cw N) kk) rfl (row_below HR4.out ((Below.refl _ _).alloc (Nat.le_refl _) _)) ⟨X3.heap.size, 0, none⟩ 1 1 [.int .i64 (kk : Int), .slice (some ⟨t1, 0, none⟩) q tc, .slice (some ⟨gw, 0, none⟩) q capw] rfl rfl (cell_three (by simp [World.setCell])) (fun u hu => by simp at hu; rcases hu with rfl | rfl | rfl <;> rfl) (by unfold maxLen; omega) (by omega) (by simp [World.setCell]; omega) ?_; intro v' X5 hown hgrow _ _; obtain ⟨ra', rc', rfl⟩ := row_form hown; have HQ5 := HQ.out.snoc HF4.out.cur HF4.out.trn HF4.out.r1 HF4.out.r2 HF4.out.ne ⟨hq2, by omega⟩ hown hgrow; clear hown hgrow)))
          go_roundw
          case rel => exact ⟨kk + 1, r - 1, ra', rc', _, _, _, _, _, _, _, _, rfl, rfl, by omega, by omega, by omega, HQ5⟩
          case measure => simp [intOf]; omega
end Go.Proofs.Ytjlniinahfgakaa
