/- The model's Mutual. -/
import Derived.Test.YtjlniinahfgakaaMp
import Derived.BigRegion
namespace Go.Proofs.Ytjlniinahfgakaa
open Go Go.ChangeShapes Go.WideShapes Go.ChangeAt Go.RowKit
set_option linter.unusedVariables false
set_option linter.unusedSimpArgs false

theorem adC_upd (n : Nat) (h v : Nat → Int) (i K : Nat) (hi : i < n) : adC n (upd h i 0) v K = upd (adC n h v K) i 0 := by
  funext p
  unfold adC upd
  by_cases e : p = i
  · subst e; rw [if_neg (by omega)]; simp
  · simp [e]
set_option maxRecDepth 20000 in
set_option maxHeartbeats 8000000 in
theorem specMutual_any (ca : Option Addr) (N ccap0 : Nat) (c : Nat → Int) (sv : Int) (ad : Option Addr) (m cap : Nat) (ln : Nat → Nat) (z : Nat → Nat → Int) (w : World) (hN2 : (N : Int) ≤ 1048576) (hm2 : (m : Int) ≤ 1048576) (hll : ∀ j, j < m → (ln j : Int) ≤ 1048576) (hc : IR w ca N c) (hr : SR w ad m ln z) :
    Calls Try.prog 21 #[.slice ca N ccap0, .int .i64 sv, .slice ad m cap] w (MuP N c sv m ln z w) := by
  by_cases h1 : CostP N c ∧ ShS N sv m ln z ∧ dl (mF m z) 3 (oF false false false) ≠ 0
  case neg =>
    have HF : Hid (muB N c sv m ln z = false) := muB_f (fun q => h1 q.1)
    have HH : Hid (Calls Try.prog 64 #[.slice ca N ccap0, .int .i64 sv, .slice ad m cap] w (PaN w)) := l7Parts_no ca N ccap0 c sv ad m cap ln z w hN2 hm2 hll h1 hc hr
    clear h1 hc hr hll
    go_enter Try.func21, Try.ntmps21
    go_wp2_with (go_at_call 64; go_loud (refine HH.out.mono ?_; rintro e w1 ⟨b, rfl, b1⟩; have HB : Hid (Below w.heap.size w w1) := b1; clear b1))
    go_returns
    exact MuP.none rfl HF.out HB.out
  obtain rfl : (m : Int) = sv := h1.2.1.2.2.1
  have HH : Hid (Calls Try.prog 64 #[.slice ca N ccap0, .int .i64 (m : Int), .slice ad m cap] w (PaP m N z c w)) := l7Parts_ok ca N ccap0 c ad m cap ln z w h1.1 h1.2.1 h1.2.2 hc hr
  have H1 : Hid (CostP N c ∧ ShS N (m : Int) m ln z ∧ dl (mF m z) 3 (oF false false false) ≠ 0) := h1
  have hNb : N ≤ 200 := h1.1.1.2
  have hn3 : m ≤ 3 := by have := h1.2.1.1; omega
  have hn1 : 0 < m := by have := h1.2.1.1; omega
  have hnN : m < N := by have := h1.2.1.2.1; omega
  have hnN2 : (m : Int) < (N : Int) := by omega
  obtain ⟨kc, oc, rfl, hkc⟩ := hc.addr (by omega)
  have HC : Hid (IR w (some ⟨kc, oc, none⟩) N c) := hc
  obtain ⟨i0, hi0, hz0, hz1, hz2⟩ := info3
  clear h1 hc hr hll
  go_enter Try.func21, Try.ntmps21
  go_wp2_with (first | (go_at_call 64; go_loud (refine HH.out.mono ?_; rintro e w1 ⟨cad, ccap, rfl, s1, b1⟩; obtain ⟨pb, po, rfl, _⟩ := s1.addr hn1; have HB : Hid (Below w.heap.size w w1) := b1; have HS : Hid (SR w1 (some ⟨pb, po, none⟩) m (cmN m N z c) (cmV m N z c)) := s1; have HI1 : Hid (IR (w1.alloc (.cells #[] 3 (0, 0))) (some ⟨kc, oc, none⟩) N c) := (HC.out.below b1).alloc _; clear s1 b1)) | (at_builtin; go_loud (refine wpList_append_own_at _ rfl _ _ 24 rfl w1.heap.size 3 i0 (.int .i64 0) 1 8 Try.underlying24 hi0 hz0 hz1 hz2 rfl (by decide) (.slice (some ⟨w1.heap.size, 0, none⟩) 0 0) 0 [] rfl (none_own w1) ⟨kc, oc, none⟩ N ccap0 (intL c N) rfl (by rw [intL_len]; omega) (cells_I HI1.out) (one_I _ _) (by unfold maxLen; omega) (by omega) (by simp) ?_; intro v' w3 hown hgrow hnil _; rw [Nat.zero_add, List.nil_append] at hown; obtain ⟨C, cc, rfl, hC1, _, _⟩ := row_some hown (fun e => by have := (hnil.1 e).1; cases this); have HO0 : Hid (w3.ownsRow w1.heap.size 3 1 (.slice (some ⟨C, 0, none⟩) N cc) N (intL (hC m N z c 0) N) ∧ Below w1.heap.size w1 w3) := ⟨hown, below_app hgrow⟩; clear hown hgrow hnil; try simp only [Nat.zero_add])))
  go_loopw [11, 12] (fun v11 _ wr => ∃ (i : Nat), i ≤ m ∧ v11 = .int .i64 (i : Int) ∧ Hid (wr.ownsRow w1.heap.size 3 1 (.slice (some ⟨C, 0, none⟩) N cc) N (intL (hC m N z c i) N) ∧ Below w1.heap.size w1 wr)) (fun v11 _ _ => m - (intOf v11).toNat)
  case atStart => exact ⟨0, by omega, rfl, HO0⟩
  case round =>
    clear HO0
    obtain ⟨i, hi, rfl, HO⟩ := hrel
    by_cases hlt : i < m
    · have hlt2 : (i : Int) < (m : Int) := by omega
      have hiN2 : (i : Int) < (N : Int) := by omega
      obtain ⟨p1, p2, p3⟩ := row_putI HO.out.1 (j := i) (by omega) 0
      have HR0 : Hid ((wr.setCell ⟨C, i, none⟩ (.int .i64 0)).ownsRow w1.heap.size 3 1 (.slice (some ⟨C, 0, none⟩) N cc) N (intL (adC m (upd (hC m N z c i) i 0) (cmV m N z c i) 0) N) ∧ Below w1.heap.size w1 (wr.setCell ⟨C, i, none⟩ (.int .i64 0))) := ⟨by rw [adC_zero]; exact p3, HO.out.2.setCell hC1 _⟩
      obtain ⟨M, hM⟩ : ∃ M, cmN m N z c i = M := ⟨_, rfl⟩
      have hMN : M ≤ N - m := by rw [← hM]; exact cmN_le m N z c i
      have HM : Hid (cmN m N z c i = M) := hM
      clear p3 hM HO
      go_wp2
      go_loopw [12] (fun v12 wr => ∃ (k : Nat), k ≤ M ∧ v12 = .int .i64 (k : Int) ∧ Hid (wr.ownsRow w1.heap.size 3 1 (.slice (some ⟨C, 0, none⟩) N cc) N (intL (adC m (upd (hC m N z c i) i 0) (cmV m N z c i) k) N) ∧ Below w1.heap.size w1 wr)) (fun v12 _ => M - (intOf v12).toNat)
      case atStart => exact ⟨0, by omega, rfl, HR0⟩
      case round =>
        clear HR0 p1 p2
        obtain ⟨k, hk, rfl, HR⟩ := hrel
        obtain ⟨a, cp, c1, r1⟩ := HS.out.at HR.out.2 hlt
        rw [HM.out] at c1 r1
        by_cases hkl : k < M
        · have hkl2 : (k : Int) < (M : Int) := by omega
          have hnk : m + k < N := by omega
          have hnk2 : (m : Int) + (k : Int) < (N : Int) := by omega
          obtain ⟨ka, oa, rfl, _⟩ := r1.addr (by omega)
          have c1d : wr.drew.cell? ⟨pb, po + i, none⟩ = some (.slice (some ⟨ka, oa, none⟩) M cp) := c1
          have c2d : wr.drew.cell? ⟨ka, oa + k, none⟩ = some (.int .i64 (cmV m N z c i k)) := r1.cell hkl
          have HRD : Hid (wr.drew.ownsRow w1.heap.size 3 1 (.slice (some ⟨C, 0, none⟩) N cc) N (intL (adC m (upd (hC m N z c i) i 0) (cmV m N z c i) k) N) ∧ Below w1.heap.size w1 wr.drew) := ⟨row_below HR.out.1 (Below.refl _ _).drew, HR.out.2.drew⟩
          obtain ⟨x, hx⟩ : ∃ x, hC m N z c i (m + k) = x := ⟨_, rfl⟩
          obtain ⟨y, hy⟩ : ∃ y, cmV m N z c i k = y := ⟨_, rfl⟩
          have hxb := hC_bd (n := m) (N := N) (z := z) (c := c) (by omega) (fun j hj => H1.out.1.2 j hj) i (m + k) hnk
          have hyb := cmV_bd (n := m) (N := N) (z := z) (c := c) (i := i) (k := k) (by rw [HM.out]; exact hkl)
          have hax : adC m (upd (hC m N z c i) i 0) (cmV m N z c i) k (m + k) = x := by rw [adC_at]; unfold upd; rw [if_neg (by omega)]; exact hx
          obtain ⟨q1, q2, q3⟩ := row_putI HRD.out.1 hnk (x + y)
          rw [hax] at q1
          rw [hx] at hxb
          rw [hy] at hyb c2d
          obtain ⟨hx1, hx2⟩ := hxb
          obtain ⟨hy1, hy2⟩ := hyb
          have hx3 : -1000000000000 ≤ x := by omega
          have hx4 : x ≤ 1000000000000 := by omega
          have HR2 : Hid ((wr.drew.setCell ⟨C, m + k, none⟩ (.int .i64 (x + y))).ownsRow w1.heap.size 3 1 (.slice (some ⟨C, 0, none⟩) N cc) N (intL (adC m (upd (hC m N z c i) i 0) (cmV m N z c i) (k + 1)) N) ∧ Below w1.heap.size w1 (wr.drew.setCell ⟨C, m + k, none⟩ (.int .i64 (x + y)))) := by
            refine ⟨?_, HRD.out.2.setCell hC1 _⟩
            rw [adC_succ, show upd (hC m N z c i) i 0 (m + k) = x by (unfold upd; rw [if_neg (by omega)]; exact hx), hy]
            exact q3
          clear q3 hx hy hax hx1 hx2 r1
          go_wp2
          go_region
          all_goals go_wp2
          all_goals refine ⟨⟨k + 1, by omega, by go_num, HR2⟩, ?_⟩
          all_goals (simp [intOf]; omega)
        · obtain rfl : M = k := by omega
          have lkk : ¬ (M : Int) < (M : Int) := by omega
          have HO2 : Hid (wr.ownsRow w1.heap.size 3 1 (.slice (some ⟨C, 0, none⟩) N cc) N (intL (hC m N z c (i + 1)) N) ∧ Below w1.heap.size w1 wr) := by
            refine ⟨?_, HR.out.2⟩
            have := HR.out.1
            rw [adC_upd m _ _ i M hlt, ← HM.out] at this
            exact this
          go_wp2
          go_roundw
          case rel => exact ⟨i + 1, by omega, by go_num, HO2⟩
          case measure => simp [intOf]; omega
    · obtain rfl : m = i := by omega
      have lkk : ¬ (m : Int) < (m : Int) := by omega
      have HIR : Hid (IR wr (some ⟨C, 0, none⟩) N (hC m N z c m)) := row_IR HO.out.1 (fun j hj => intL_get hj)
      have HAC : Hid (∀ v, costB N (hC m N z c m) = v → Calls Try.prog 59 #[.slice (some ⟨C, 0, none⟩) N cc] wr fun e w' => e = .returned (.bool v) ∧ w' = wr) := fun v h => h ▸ l7Costs_any _ N cc _ _ hN2 HIR.out
      cases hb : costB N (hC m N z c m) with
      | false =>
        have HF : Hid (muB N c (m : Int) m ln z = false) := muB_f (fun q => by have := costB_t q.2; rw [hb] at this; cases this)
        go_wp2_with (go_at_call 59; refine (HAC.out _ hb).mono ?_; rintro e w' ⟨rfl, ew⟩; replace ew := ew.symm; subst ew)
        go_returns
        exact MuP.none rfl HF.out (bel_on HB.out HO.out.2)
      | true =>
        have HF : Hid (muB N c (m : Int) m ln z = true) := muB_t ⟨H1.out, costB_iff.1 hb⟩
        have HX : Hid (MuP N c (m : Int) m ln z w (.returned (.tuple #[.slice (some ⟨C, 0, none⟩) N cc, .bool true])) wr) := by
          have e : muM N c (m : Int) m ln z = N := by unfold muM; rw [HF.out]; rfl
          unfold MuP
          rw [e, HF.out]
          exact ⟨_, _, rfl, row_lower HO.out.1 HB.out.size, bel_on HB.out HO.out.2⟩
        go_wp2_with (go_at_call 59; refine (HAC.out _ hb).mono ?_; rintro e w' ⟨rfl, ew⟩; replace ew := ew.symm; subst ew)
        go_returns
        exact HX.out
end Go.Proofs.Ytjlniinahfgakaa
