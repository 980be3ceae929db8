/- The model's determinant, walked. -/
import Derived.Test.YtjlniinahfgakaaMk
import Derived.Deep.RegionHeld3
import Derived.Deep.Cut
namespace Go.Proofs.Ytjlniinahfgakaa
open Go Go.ChangeShapes Go.WideShapes Go.ChangeAt Go.RowKit
set_option linter.unusedVariables false
set_option linter.unusedSimpArgs false

theorem IR.takeN {w : World} {ad : Option Addr} {len : Nat} {z : Nat → Int} (H : IR w ad len z) {k : Nat} (h : k ≤ len) : IR w ad k z := by
  rcases H with h' | ⟨b, off, e, hb, hc⟩
  · exact .inl (by omega)
  · exact .inr ⟨b, off, e, hb, fun j hj => hc j (by omega)⟩
set_option maxRecDepth 20000 in
set_option maxHeartbeats 4000000 in
theorem l7Det_any : ∀ (n : Nat), n ≤ 3 → ∀ (ad : Option Addr) (cap : Nat) (g : Nat → Nat → Int) (w : World), (∀ i j, -100 ≤ g i j ∧ g i j ≤ 100) → SqR w ad n g →
    Calls Try.prog 90 #[.slice ad n cap] w fun e w' => e = .returned (.int .i64 (dt n g)) ∧ Below w.heap.size w w' := by
  intro n
  induction n with
  | zero =>
    intro _ ad cap g w hg H
    clear hg H
    go_enter Try.func90, Try.ntmps90
    go_wp2
    go_returns
    exact ⟨rfl, Below.refl _ _⟩
  | succ n ih =>
    intro hn ad cap g w hg H
    obtain ⟨b, off, rfl, hb⟩ := H.addr (by omega)
    have HDR : Hid (SqR w (some ⟨b, off, none⟩) (n + 1) g) := H
    have HG : Hid (∀ i j, -100 ≤ g i j ∧ g i j ≤ 100) := hg
    have HIH : Hid (∀ (ad : Option Addr) (cap : Nat) (g : Nat → Nat → Int) (w : World), (∀ i j, -100 ≤ g i j ∧ g i j ≤ 100) → SqR w ad n g → Calls Try.prog 90 #[.slice ad n cap] w fun e w' => e = .returned (.int .i64 (dt n g)) ∧ Below w.heap.size w w') := ih (by omega)
    have HDT : Hid (dt (n + 1) g = (dS n g (n + 1)).1) := rfl
    have HDB : Hid (dB n ≤ 90000) := by
      show dB n ≤ 90000
      have : n = 0 ∨ n = 1 ∨ n = 2 := by omega
      rcases this with rfl | rfl | rfl <;> decide
    clear H hg ih
    obtain ⟨N, hN⟩ : ∃ N, n + 1 = N := ⟨_, rfl⟩
    have HN : Hid (n + 1 = N) := hN
    rw [hN] at HDR HDT
    rw [hN] at hn ⊢
    have hN1 : 0 < N := by omega
    have hN0 : ((N : Int) == 0) = false := by simpa using (by omega : ¬ (N : Int) = 0)
    clear hN
    go_enter Try.func90, Try.ntmps90
    go_wp2
    go_loopw [3, 4, 5, 6, 7, 8] (fun v3 v4 v5 _ _ _ wr => ∃ (k : Nat), k ≤ N ∧ v5 = .int .i64 (k : Int) ∧ v3 = .int .i64 (dS n g k).1 ∧ v4 = .int .i64 (dS n g k).2 ∧ Hid (Below w.heap.size w wr)) (fun _ _ v5 _ _ _ _ => N - (intOf v5).toNat)
    case atStart => exact ⟨0, by omega, rfl, rfl, rfl, Below.refl _ _⟩
    case round =>
      obtain ⟨k, hk, rfl, rfl, rfl, HB⟩ := hrel
      by_cases hlt : k < N
      · have hlt2 : (k : Int) < (N : Int) := by omega
        have hnn := HN.out
        have hsb := dlS_bound (M := g 0) (D := fun k => dt n (mnr g k)) (o := fun _ => false) (B := dB n) (by have := dB_pos n; omega) (fun k => HG.out _ _) (fun k => dt_bound n _ (by omega) (mnr_b HG.out k)) k
        have hsb2 : ((dS n g k).2 = 1 ∨ (dS n g k).2 = -1) ∧ -(100 * dB n * (k : Int)) ≤ (dS n g k).1 ∧ (dS n g k).1 ≤ 100 * dB n * (k : Int) := hsb
        clear hsb
        obtain ⟨s1, h1⟩ : ∃ s1, (dS n g k).1 = s1 := ⟨_, rfl⟩
        obtain ⟨s2, h2⟩ : ∃ s2, (dS n g k).2 = s2 := ⟨_, rfl⟩
        rw [h1, h2] at hsb2
        rw [h1, h2]
        have hs3 : -1 ≤ s2 := by omega
        have hs4 : s2 ≤ 1 := by omega
        have hs5 : -27000000 ≤ s1 ∧ s1 ≤ 27000000 := by
          have e1 := HDB.out
          have e2 := hsb2.2
          have e3 := dB_pos n
          have e4 : 100 * dB n * (k : Int) ≤ 27000000 := by
            have : k = 0 ∨ k = 1 ∨ k = 2 := by omega
            rcases this with rfl | rfl | rfl <;> omega
          omega
        obtain ⟨hs6, hs7⟩ := hs5
        obtain ⟨D, hD⟩ : ∃ D, dt n (mnr g k) = D := ⟨_, rfl⟩
        obtain ⟨x, hx⟩ : ∃ x, g 0 k = x := ⟨_, rfl⟩
        have hbd := dt_bound n (mnr g k) (by omega) (mnr_b HG.out k)
        rw [hD] at hbd
        have hxb := HG.out 0 k
        rw [hx] at hxb
        have hml := mul_in (s := s2) (x := x) (d := D) (B := dB n) hsb2.1 hxb.1 hxb.2 (by have := dB_pos n; omega) hbd.1 hbd.2
        obtain ⟨⟨hm1, hm2⟩, hm3, hm4⟩ := hml
        have hdb2 := HDB.out
        have hm5 : -9000000 ≤ s2 * x * D := by omega
        have hm6 : s2 * x * D ≤ 9000000 := by omega
        have HST : Hid (dS n g (k + 1) = (s1 + s2 * x * D, -s2)) := by show _ = _; rw [dS_succ, h1, h2, hD, hx]
        have HD : Hid (dt n (mnr g k) = D) := hD
        have HX : Hid (g 0 k = x) := hx
        have HL0 : Hid (LW w.heap.size 0 (some ⟨wr.heap.size, 0, none⟩) 0 [] n (mnr g k) (wr.alloc (.cells #[] 24 (0, 0))) ∧ Below w.heap.size w (wr.alloc (.cells #[] 24 (0, 0)))) := ⟨LW.made HB.out.size _ rfl, HB.out.alloc HB.out.size _⟩
        clear h1 h2 hsb2 hD hx hbd hm3 hm4 hdb2 HB hnn
        go_wp2
        go_loopw [6, 7, 8] (fun v6 v7 _ wi => ∃ (q i : Nat) (cad : Option Addr) (ccap : Nat) (vs : List Value), i = q + 1 ∧ i ≤ N ∧ v7 = .int .i64 (i : Int) ∧ v6 = .slice cad q ccap ∧ Hid (LW w.heap.size q cad ccap vs n (mnr g k) wi ∧ Below w.heap.size w wi)) (fun _ v7 _ _ => N - (intOf v7).toNat)
        case atStart => exact ⟨0, 1, _, _, [], rfl, by omega, rfl, rfl, HL0⟩
        case round =>
          clear HL0
          obtain ⟨q, i, cad, ccap, vs, hq, hi, rfl, rfl, HW⟩ := hrel
          by_cases hil : i < N
          · have hil2 : (i : Int) < (N : Int) := by omega
            have HQ : Hid (i = q + 1 ∧ n + 1 = N ∧ k ≤ n) := ⟨hq, HN.out, by have := HN.out; omega⟩
            have hnq : q < 3 := by omega
            have hn3 : n < 3 := by have := HN.out; omega
            have hnk : k ≤ n := HQ.out.2.2
            clear hq
            obtain ⟨ka, oa, cp, _, hcp, r0⟩ := (HDR.out.below HW.out.2).get hil
            have HCI : Hid (∀ W, Below wr.heap.size wr W → W.cell? ⟨b, off + i, none⟩ = some (.slice (some ⟨ka, oa, none⟩) N cp) ∧ IR W (some ⟨ka, oa, none⟩) N (g i)) := fun W bw => by
              have hbr : b < wr.heap.size := Nat.lt_of_lt_of_le hb HW.out.2.size
              refine ⟨?_, r0.below bw⟩
              rw [World.cell?_of_block (w := wr) (bw.block b hbr)]; assumption
            have c0 := (HCI.out _ ((Below.refl wr.heap.size wr).alloc (Nat.le_refl _) (.cells #[] 3 (0, 0)))).1
            have HR0 : Hid (IR (wr.alloc (.cells #[] 3 (0, 0))) (some ⟨ka, oa, none⟩) k (g i)) := IR.takeN ((HCI.out _ ((Below.refl wr.heap.size wr).alloc (Nat.le_refl _) (.cells #[] 3 (0, 0)))).2) (by omega)
            have cu1 := cutTo ka oa N cp k (by omega)
            have cu2 := cutFrom ka oa N cp k n (by omega) HQ.out.2.1.symm
            have HCP : Hid (N ≤ cp) := hcp
            obtain ⟨i0, hi0, hz0, hz1, hz2⟩ := info3
            obtain ⟨j0, hj0, jz0, jz1, jz2⟩ := infoS
            have hws := HW.out.2.size
            clear r0 hcp
            go_wp2_with (first
              | (at_builtin; refine wpList_append_own_at _ rfl _ _ 24 rfl wr.heap.size 3 i0 (.int .i64 0) 1 8 Try.underlying24 hi0 hz0 hz1 hz2 rfl (by decide) (.slice (some ⟨wr.heap.size, 0, none⟩) 0 0) 0 [] rfl (none_own wr) ⟨ka, oa, none⟩ k cp (intL (g i) k) rfl (by rw [intL_len]; omega) (cells_I HR0.out) (one_I _ _) (by unfold maxLen; omega) (by omega) (by simp) ?_; intro v' w3 hown hgrow hnil _; rw [Nat.zero_add, List.nil_append] at hown; obtain ⟨g1, cp1, rfl, hg1, _, _⟩ := row_some hown (fun e => by have := (hnil.1 e).1; cases this); have HB3 : Hid (w3.ownsRow wr.heap.size 3 1 (.slice (some ⟨g1, 0, none⟩) k cp1) k (intL (g i) k) ∧ Below wr.heap.size wr w3) := ⟨hown, below_app hgrow⟩; have c3 := (HCI.out _ HB3.out.2).1; clear hown hgrow hnil; try simp only [Nat.zero_add])
              | (at_builtin; refine wpList_append_own_at _ rfl _ _ 24 rfl wr.heap.size 3 i0 (.int .i64 0) 1 8 Try.underlying24 hi0 hz0 hz1 hz2 rfl (by decide) (.slice (some ⟨g1, 0, none⟩) k cp1) k (intL (g i) k) rfl HB3.out.1 (restAt ka oa cp k) (n - k) (cp - (k + 1)) (intL (fun j => g i (j + (k + 1))) (n - k)) rfl (by rw [intL_len]; omega) (rest_cells (HCI.out _ HB3.out.2).2 HQ.out.2.1.symm HCP.out HQ.out.2.2) (one_I _ _) (by unfold maxLen; omega) (by omega) HB3.out.2.size ?_; intro v' w4 hown hgrow hnil _; rw [app_mnr _ _ _ HQ.out.2.2, show k + (n - k) = n by omega] at hown; obtain ⟨g2, cp2, rfl, hg2, _, hc2⟩ := row_some hown (fun e => by have := (hnil.1 e).1; cases this); have HB4 : Hid (w4.ownsRow wr.heap.size 3 1 (.slice (some ⟨g2, 0, none⟩) n cp2) n (intL (fun j => g i (if j < k then j else j + 1)) n) ∧ Below wr.heap.size wr w4 ∧ n ≤ cp2) := ⟨hown, Below.grown HB3.out.2 hgrow HB3.out.2.size (fun x hx => by simp [Value.ownBlock] at hx; omega), hc2⟩; clear hown hgrow hnil; try simp only [show k + (n - k) = n by omega])
              | (at_builtin; go_loud (refine wpList_append_own_at _ rfl _ _ 37 rfl w.heap.size 24 j0 (.slice none 0 0) 1 24 Try.underlying37 hj0 jz0 jz1 jz2 rfl (by decide) (.slice cad q ccap) q vs rfl (row_below (HW.out.1.below HB4.out.2.1).row ((Below.refl _ _).alloc (Nat.le_refl _) _)) ⟨w4.heap.size, 0, none⟩ 1 1 [.slice (some ⟨g2, 0, none⟩) n cp2] rfl rfl (cell_one_at rfl) (fun u hu => by simp at hu; subst hu; rfl) (by unfold maxLen; omega) (by omega) (by have := HB4.out.2.1.size; simp; omega) ?_; intro v' w5 hown hgrow _ _; obtain ⟨ad5, cap5, rfl⟩ := row_form hown; have HB5 : Hid (LW w.heap.size (q + 1) ad5 cap5 (vs ++ [.slice (some ⟨g2, 0, none⟩) n cp2]) n (mnr g k) w5 ∧ Below w.heap.size w w5) := ⟨(HW.out.1.below HB4.out.2.1).app HB4.out.2.2 (by have := row_lower HB4.out.1 (base' := w.heap.size) hws; unfold mnr; rw [← HQ.out.1]; exact this) hown hgrow, Below.grown ((bel_on HW.out.2 HB4.out.2.1).alloc (bel_on HW.out.2 HB4.out.2.1).size _) hgrow (by have := (bel_on HW.out.2 HB4.out.2.1).size; simp; omega) (fun x hx => ((HW.out.1.below HB4.out.2.1).row.lt x hx).1)⟩; clear hown hgrow)))
            go_roundw
            case rel => exact ⟨q + 1, i + 1, ad5, cap5, _, by have := HQ.out.1; omega, by omega, by go_num, rfl, HB5⟩
            case measure => simp [intOf]; omega
          · obtain rfl : i = N := by omega
            have lkk : ¬ (i : Int) < (i : Int) := by omega
            obtain rfl : q = n := by have := HN.out; omega
            clear hq
            have HWD : Hid (LW w.heap.size q cad ccap vs q (mnr g k) wr.drew ∧ Below w.heap.size w wr.drew) := ⟨HW.out.1.below (Below.refl _ _).drew, HW.out.2.drew⟩
            obtain ⟨ka, oa, cp, c1, _, r1⟩ := (HDR.out.below HWD.out.2).get hN1
            have x1 := r1.cell hlt
            rw [HX.out] at x1
            rw [Nat.add_zero] at c1
            have HIC : Hid (Calls Try.prog 90 #[.slice cad q ccap] wr.drew fun e w' => e = .returned (.int .i64 D) ∧ Below wr.drew.heap.size wr.drew w') := by
              have := HIH.out cad ccap (mnr g k) wr.drew (mnr_b HG.out k) HWD.out.1.dr
              rw [HD.out] at this; exact this
            have hbr : b < wr.drew.heap.size := Nat.lt_of_lt_of_le hb HWD.out.2.size
            have HX1 : Hid (∀ W, Below wr.drew.heap.size wr.drew W → W.cell? ⟨ka, oa + k, none⟩ = some (.int .i64 x)) := fun W bw => by
              have := (r1.below bw).cell hlt
              rw [HX.out] at this; exact this
            clear r1
            go_wp2
            go_region_with (go_at_call 90; go_loud (refine HIC.out.mono ?_; rintro e w2 ⟨rfl, b2⟩; have HB2 : Hid (Below w.heap.size w w2) := bel_on HWD.out.2 b2; have c2 : w2.cell? ⟨b, off, none⟩ = some (.slice (some ⟨ka, oa, none⟩) i cp) := (World.cell?_of_block (w := wr.drew) (b2.block b hbr)).trans c1; have x2 : w2.cell? ⟨ka, oa + k, none⟩ = some (.int .i64 x) := HX1.out w2 b2; clear b2))
            all_goals go_wp2
            all_goals refine ⟨⟨k + 1, by omega, by go_num, by rw [HST.out], by rw [HST.out], HB2⟩, ?_⟩
            all_goals (simp [intOf]; omega)
      · obtain rfl : k = N := by omega
        have lkk : ¬ (k : Int) < (k : Int) := by omega
        go_wp2
        go_returns
        refine ⟨?_, HB.out⟩
        rw [HDT.out]
        rfl
end Go.Proofs.Ytjlniinahfgakaa
