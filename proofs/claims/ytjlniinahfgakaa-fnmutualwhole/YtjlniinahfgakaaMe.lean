/- The model's l7Ends. -/
import Derived.Test.YtjlniinahfgakaaMo
namespace Go.Proofs.Ytjlniinahfgakaa
open Go Go.ChangeShapes Go.WideShapes Go.ChangeAt Go.RowKit
set_option linter.unusedVariables false
set_option linter.unusedSimpArgs false

def EnP (n N s : Nat) (z : Nat → Nat → Int) (w : World) (e : Ending) (w' : World) : Prop :=
  ∃ ad cap, e = .returned (.tuple #[.slice ad (N - n) cap, .int .i64 (dl (mF n z) 3 (oF false false false))]) ∧ w'.ownsRow w.heap.size 3 1 (.slice ad (N - n) cap) (N - n) (intL (wtF n z s) (N - n)) ∧ Below w.heap.size w w'
set_option maxRecDepth 20000 in
set_option maxHeartbeats 8000000 in
theorem l7Ends_any (ad : Option Addr) (n cap N s : Nat) (ln : Nat → Nat) (z : Nat → Nat → Int) (w : World) (hn : n ≤ 3) (hs : s < n) (hnN : n < N) (hN : N ≤ 200) (hl : ∀ i, i < n → ln i = N) (hz : ∀ i j, i < n → j < N → 0 ≤ z i j ∧ z i j ≤ 100) (H : SR w ad n ln z) :
    Calls Try.prog 83 #[.int .i64 (N : Int), .int .i64 (n : Int), .slice ad n cap, .int .i64 (s : Int)] w (EnP n N s z w) := by
  obtain ⟨b0, off, rfl, hb0⟩ := H.addr (by omega)
  have HCI : Hid (∀ W, Below w.heap.size w W → ∀ a, a < n → ∃ ka oa cp, W.cell? ⟨b0, off + a, none⟩ = some (.slice (some ⟨ka, oa, none⟩) N cp) ∧ ∀ j, j < N → W.cell? ⟨ka, oa + j, none⟩ = some (.int .i64 (z a j))) := fun W bw a ha => by
    obtain ⟨x, cp, h1, h2⟩ := H.at bw ha
    rw [hl a ha] at h1 h2
    obtain ⟨ka, oa, rfl, _⟩ := h2.addr (by omega)
    exact ⟨ka, oa, cp, h1, fun j hj => h2.cell hj⟩
  have HZ : Hid (∀ i j, i < n → j < N → 0 ≤ z i j ∧ z i j ≤ 100) := hz
  obtain ⟨i0, hi0, hz0, hz1, hz2⟩ := info3
  obtain ⟨j0, hj0, jz0, jz1, jz2⟩ := infoS
  have HL0 : Hid (LW w.heap.size 0 (some ⟨w.heap.size, 0, none⟩) 0 [] n (mF n z) (w.alloc (.cells #[] 24 (0, 0))) ∧ Below w.heap.size w (w.alloc (.cells #[] 24 (0, 0)))) := ⟨LW.made (Nat.le_refl _) _ rfl, (Below.refl _ _).alloc (Nat.le_refl _) _⟩
  have hs2 : (s : Int) < (n : Int) := by omega
  have hnN2 : (n : Int) < (N : Int) := by omega
  clear H hl hz
  go_enter Try.func83, Try.ntmps83
  go_wp2
  go_loopw [10, 11, 12, 13] (fun v10 v11 _ _ wr => ∃ (a : Nat) (cad : Option Addr) (ccap : Nat) (vs : List Value), a ≤ n ∧ v11 = .int .i64 (a : Int) ∧ v10 = .slice cad a ccap ∧ Hid (LW w.heap.size a cad ccap vs n (mF n z) wr ∧ Below w.heap.size w wr)) (fun _ v11 _ _ _ => n - (intOf v11).toNat)
  case atStart => exact ⟨0, _, _, [], by omega, rfl, rfl, HL0⟩
  case round =>
    clear HL0
    obtain ⟨a, cad, ccap, vs, ha, rfl, rfl, HW⟩ := hrel
    rename World => W1
    by_cases hlt : a < n
    · have hlt2 : (a : Int) < (n : Int) := by omega
      have HR0 : Hid ((W1.alloc (.cells #[] 3 (0, 0))).ownsRow W1.heap.size 3 1 (.slice (some ⟨W1.heap.size, 0, none⟩) 0 0) 0 (intL (mF n z a) 0) ∧ Below W1.heap.size W1 (W1.alloc (.cells #[] 3 (0, 0)))) := ⟨none_own W1, (Below.refl _ _).alloc (Nat.le_refl _) _⟩
      go_wp2
      go_loopw [12, 13] (fun v12 v13 wr => ∃ (q rg rcap : Nat), q ≤ n ∧ v13 = .int .i64 (q : Int) ∧ v12 = .slice (some ⟨rg, 0, none⟩) q rcap ∧ Hid (wr.ownsRow W1.heap.size 3 1 (.slice (some ⟨rg, 0, none⟩) q rcap) q (intL (mF n z a) q) ∧ Below W1.heap.size W1 wr)) (fun _ v13 _ => n - (intOf v13).toNat)
      case atStart => exact ⟨0, _, _, by omega, rfl, rfl, HR0⟩
      case round =>
        clear HR0
        obtain ⟨q, rg, rcap, hq, rfl, rfl, HR⟩ := hrel
        by_cases hql : q < n
        · have hql2 : (q : Int) < (n : Int) := by omega
          have hqN2 : (q : Int) < (N : Int) := by omega
          obtain ⟨ka, oa, cp, c1, cj⟩ := HCI.out wr (bel_on HW.out.2 HR.out.2) a hlt
          have c2 := cj q (by omega)
          obtain ⟨hzb1, hzb2⟩ := HZ.out a q hlt (by omega)
          obtain ⟨x, hx⟩ : ∃ x, z a q = x := ⟨_, rfl⟩
          have HX : Hid (z a q = x) := hx
          rw [hx] at c2 hzb1 hzb2
          clear cj hx
          by_cases he : a = q
          · subst he
            have HY : Hid (mF n z a a = 100) := by show _ = _; unfold mF; rw [if_pos hlt, if_pos rfl]
            clear c1 c2 HX hzb1 hzb2
            go_wp2_with (first | (at_builtin; go_loud (refine wpList_append_own_at _ rfl _ _ 24 rfl W1.heap.size 3 i0 (.int .i64 0) 1 8 Try.underlying24 hi0 hz0 hz1 hz2 rfl (by decide) (.slice (some ⟨rg, 0, none⟩) a rcap) a (intL (mF n z a) a) rfl (row_below HR.out.1 ((Below.refl _ _).alloc (Nat.le_refl _) _)) ⟨wr.heap.size, 0, none⟩ 1 1 [.int .i64 (100)] rfl rfl (cell_one_at rfl) (fun u hu => by simp at hu; subst hu; rfl) (by unfold maxLen; omega) (by omega) (by have := HR.out.2.size; simp; omega) ?_; intro v' w5 hown hgrow hnil _; rw [show [Value.int .i64 (100)] = [Value.int .i64 (mF n z a a)] by rw [HY.out], ← intL_succ] at hown; obtain ⟨g5, cp5, rfl, hg5, _, _⟩ := row_some hown (fun e => by have := (hnil.1 e).1; cases this); have HR5 : Hid (w5.ownsRow W1.heap.size 3 1 (.slice (some ⟨g5, 0, none⟩) (a + 1) cp5) (a + 1) (intL (mF n z a) (a + 1)) ∧ Below W1.heap.size W1 w5) := ⟨hown, Below.grown (HR.out.2.alloc HR.out.2.size _) hgrow (by have := HR.out.2.size; simp; omega) (fun x hx => (HR.out.1.lt x hx).1)⟩; clear hown hgrow hnil)))
            go_roundw
            case rel => exact ⟨a + 1, g5, cp5, by omega, by go_num, rfl, HR5⟩
            case measure => simp [intOf]; omega
          · have hne : ((a : Int) == (q : Int)) = false := by simpa using (by omega : ¬ (a : Int) = (q : Int))
            have HY : Hid (mF n z a q = -x) := by show _ = _; unfold mF; rw [if_pos hlt, if_neg (fun e => he e.symm), if_pos hql, HX.out]
            go_wp2_with (first | (at_builtin; go_loud (refine wpList_append_own_at _ rfl _ _ 24 rfl W1.heap.size 3 i0 (.int .i64 0) 1 8 Try.underlying24 hi0 hz0 hz1 hz2 rfl (by decide) (.slice (some ⟨rg, 0, none⟩) q rcap) q (intL (mF n z a) q) rfl (row_below HR.out.1 ((Below.refl _ _).alloc (Nat.le_refl _) _)) ⟨wr.heap.size, 0, none⟩ 1 1 [.int .i64 (-x)] rfl rfl (cell_one_at rfl) (fun u hu => by simp at hu; subst hu; rfl) (by unfold maxLen; omega) (by omega) (by have := HR.out.2.size; simp; omega) ?_; intro v' w5 hown hgrow hnil _; rw [show [Value.int .i64 (-x)] = [Value.int .i64 (mF n z a q)] by rw [HY.out], ← intL_succ] at hown; obtain ⟨g5, cp5, rfl, hg5, _, _⟩ := row_some hown (fun e => by have := (hnil.1 e).1; cases this); have HR5 : Hid (w5.ownsRow W1.heap.size 3 1 (.slice (some ⟨g5, 0, none⟩) (q + 1) cp5) (q + 1) (intL (mF n z a) (q + 1)) ∧ Below W1.heap.size W1 w5) := ⟨hown, Below.grown (HR.out.2.alloc HR.out.2.size _) hgrow (by have := HR.out.2.size; simp; omega) (fun x hx => (HR.out.1.lt x hx).1)⟩; clear hown hgrow hnil)))
            go_roundw
            case rel => exact ⟨q + 1, g5, cp5, by omega, by go_num, rfl, HR5⟩
            case measure => simp [intOf]; omega
        · obtain rfl : n = q := by omega
          have lkk : ¬ (n : Int) < (n : Int) := by omega
          have hrc : n ≤ rcap := by
            obtain ⟨_, _, eq, _, _, h⟩ := row_some HR.out.1 (by simp)
            simp only [Value.slice.injEq] at eq
            omega
          have hws := HW.out.2.size
          go_wp2_with (first | (at_builtin; go_loud (refine wpList_append_own_at _ rfl _ _ 37 rfl w.heap.size 24 j0 (.slice none 0 0) 1 24 Try.underlying37 hj0 jz0 jz1 jz2 rfl (by decide) (.slice cad a ccap) a (vs) rfl (row_below (HW.out.1.below HR.out.2).row ((Below.refl _ _).alloc (Nat.le_refl _) _)) ⟨wr.heap.size, 0, none⟩ 1 1 [.slice (some ⟨rg, 0, none⟩) n rcap] rfl rfl (cell_one_at rfl) (fun u hu => by simp at hu; subst hu; rfl) (by unfold maxLen; omega) (by omega) (by have := (bel_on HW.out.2 HR.out.2).size; simp; omega) ?_; intro v' w6 hown hgrow _ _; obtain ⟨ad6, cap6, rfl⟩ := row_form hown; have HW6 : Hid (LW w.heap.size (a + 1) ad6 cap6 (vs ++ [.slice (some ⟨rg, 0, none⟩) n rcap]) n (mF n z) w6 ∧ Below w.heap.size w w6) := ⟨(HW.out.1.below HR.out.2).app hrc (row_lower HR.out.1 hws) hown hgrow, Below.grown ((bel_on HW.out.2 HR.out.2).alloc (bel_on HW.out.2 HR.out.2).size _) hgrow (by have := (bel_on HW.out.2 HR.out.2).size; simp; omega) (fun x hx => ((HW.out.1.below HR.out.2).row.lt x hx).1)⟩; clear hown hgrow)))
          go_roundw
          case rel => exact ⟨a + 1, ad6, cap6, _, by omega, by go_num, rfl, HW6⟩
          case measure => simp [intOf]; omega
    · obtain rfl : n = a := by omega
      have lkk : ¬ (n : Int) < (n : Int) := by omega
      have HDM : Hid (SqR W1 cad n (mF n z) ∧ Below w.heap.size w W1) := ⟨HW.out.1.dr, HW.out.2⟩
      obtain ⟨mb, mo, rfl, hmb⟩ := HDM.out.1.addr (by omega)
      have HO0 : Hid ((W1.alloc (.cells #[] 3 (0, 0))).ownsRow W1.heap.size 3 1 (.slice (some ⟨W1.heap.size, 0, none⟩) 0 0) 0 (intL (wtF n z s) 0) ∧ Below W1.heap.size W1 (W1.alloc (.cells #[] 3 (0, 0)))) := ⟨none_own W1, (Below.refl _ _).alloc (Nat.le_refl _) _⟩
      clear HW
      go_wp2
      go_loopw [14, 15, 16, 17, 18] (fun v14 v15 _ _ _ wr => ∃ (k p : Nat) (oad : Option Addr) (ocap : Nat), p = n + k ∧ p ≤ N ∧ v15 = .int .i64 (p : Int) ∧ v14 = .slice oad k ocap ∧ Hid (wr.ownsRow W1.heap.size 3 1 (.slice oad k ocap) k (intL (wtF n z s) k) ∧ Below W1.heap.size W1 wr)) (fun _ v15 _ _ _ _ => N - (intOf v15).toNat)
      case atStart => exact ⟨0, n, _, _, rfl, by omega, rfl, rfl, HO0⟩
      case round =>
        clear HO0
        obtain ⟨k, p, oad, ocap, hp, hpN, rfl, rfl, HO⟩ := hrel
        rename World => W3
        have HP : Hid (p = n + k) := hp
        have hk200 : k ≤ 200 := by omega
        clear hp
        by_cases hpl : p < N
        · have hpl2 : (p : Int) < (N : Int) := by omega
          have HV0 : Hid (LW W3.heap.size 0 (some ⟨W3.heap.size, 0, none⟩) 0 [] n (pC (mF n z) s (cF n z p)) (W3.alloc (.cells #[] 24 (0, 0))) ∧ Below W3.heap.size W3 (W3.alloc (.cells #[] 24 (0, 0)))) := ⟨LW.made (Nat.le_refl _) _ rfl, (Below.refl _ _).alloc (Nat.le_refl _) _⟩
          go_wp2
          go_loopw [16, 17, 18] (fun v16 v17 _ wr => ∃ (a : Nat) (pad : Option Addr) (pcap : Nat) (us : List Value), a ≤ n ∧ v17 = .int .i64 (a : Int) ∧ v16 = .slice pad a pcap ∧ Hid (LW W3.heap.size a pad pcap us n (pC (mF n z) s (cF n z p)) wr ∧ Below W3.heap.size W3 wr)) (fun _ v17 _ _ => n - (intOf v17).toNat)
          case atStart => exact ⟨0, _, _, [], by omega, rfl, rfl, HV0⟩
          case round =>
            clear HV0
            obtain ⟨a, pad, pcap, us, ha, rfl, rfl, HV⟩ := hrel
            by_cases hal : a < n
            · have hal2 : (a : Int) < (n : Int) := by omega
              obtain ⟨ra, ro, rc, m1, _, mr⟩ := (HDM.out.1.below ((bel_on HO.out.2 HV.out.2).alloc (bel_on HO.out.2 HV.out.2).size (.cells #[] 3 (0, 0)))).get hal
              have HMR : Hid (IR (wr.alloc (.cells #[] 3 (0, 0))) (some ⟨ra, ro, none⟩) n (mF n z a)) := mr
              have HPC : Hid (∀ j, j < n → (pC (mF n z) s (cF n z p)) a j = upd (mF n z a) s (z a p) j) := fun j _ => by
                unfold pC upd cF
                by_cases e : j = s
                · simp [e, hal]
                · simp [e]
              have hvs := HV.out.2.size
              clear mr
              go_wp2_with (first | (at_builtin; refine wpList_append_own_at _ rfl _ _ 24 rfl wr.heap.size 3 i0 (.int .i64 0) 1 8 Try.underlying24 hi0 hz0 hz1 hz2 rfl (by decide) (.slice (some ⟨wr.heap.size, 0, none⟩) 0 0) 0 [] rfl (none_own wr) ⟨ra, ro, none⟩ n rc (intL (mF n z a) n) rfl (by rw [intL_len]; omega) (cells_I HMR.out) (one_I _ _) (by unfold maxLen; omega) (by omega) (by simp) ?_; intro v' w3 hown hgrow hnil _; rw [Nat.zero_add, List.nil_append] at hown; obtain ⟨g3, cp3, rfl, hg3, _, hc3⟩ := row_some hown (fun e => by have := (hnil.1 e).1; cases this); obtain ⟨p1, p2, p3⟩ := row_putI hown hs (z a p); have HB3 : Hid ((w3.setCell ⟨g3, s, none⟩ (.int .i64 (z a p))).ownsRow wr.heap.size 3 1 (.slice (some ⟨g3, 0, none⟩) n cp3) n (intL (upd (mF n z a) s (z a p)) n) ∧ Below wr.heap.size wr (w3.setCell ⟨g3, s, none⟩ (.int .i64 (z a p))) ∧ n ≤ cp3) := ⟨p3, (below_app hgrow).setCell hg3 _, hc3⟩; obtain ⟨ka, oa, cp, c1, cj⟩ := HCI.out w3 (bel_on (bel_on (bel_on HDM.out.2 HO.out.2) HV.out.2) (below_app hgrow)) a hal; have c2 := cj p hpl; clear cj hown hgrow hnil p3; try simp only [Nat.zero_add]) | (at_builtin; go_loud (refine wpList_append_own_at _ rfl _ _ 37 rfl W3.heap.size 24 j0 (.slice none 0 0) 1 24 Try.underlying37 hj0 jz0 jz1 jz2 rfl (by decide) (.slice pad a pcap) a us rfl (row_below (HV.out.1.below HB3.out.2.1).row ((Below.refl _ _).alloc (Nat.le_refl _) _)) ⟨w3.heap.size, 0, none⟩ 1 1 [.slice (some ⟨g3, 0, none⟩) n cp3] rfl rfl (cell_one_at (by simp [World.setCell])) (fun u hu => by simp at hu; subst hu; rfl) (by unfold maxLen; omega) (by omega) (by have h1 := HB3.out.2.1.size; have h2 := HV.out.2.size; simp at h1 ⊢; omega) ?_; intro v' w6 hown hgrow _ _; obtain ⟨ad6, cap6, rfl⟩ := row_form hown; have HV6 : Hid (LW W3.heap.size (a + 1) ad6 cap6 (us ++ [.slice (some ⟨g3, 0, none⟩) n cp3]) n (pC (mF n z) s (cF n z p)) w6 ∧ Below W3.heap.size W3 w6) := ⟨(HV.out.1.below HB3.out.2.1).app HB3.out.2.2 (by rw [intL_congr (HPC.out)]; exact row_lower HB3.out.1 hvs) hown hgrow, Below.grown ((bel_on HV.out.2 HB3.out.2.1).alloc (bel_on HV.out.2 HB3.out.2.1).size _) hgrow (by have := (bel_on HV.out.2 HB3.out.2.1).size; simp at this ⊢; omega) (fun x hx => ((HV.out.1.below HB3.out.2.1).row.lt x hx).1)⟩; clear hown hgrow)))
              go_roundw
              case rel => exact ⟨a + 1, ad6, cap6, _, by omega, by go_num, rfl, HV6⟩
              case measure => simp [intOf]; omega
            · obtain rfl : n = a := by omega
              have HC : Hid (Calls Try.prog 90 #[.slice pad n pcap] wr fun e w' => e = .returned (.int .i64 (wtF n z s k)) ∧ Below wr.heap.size wr w') := by
                have := l7Det_any n hn pad pcap (pC (mF n z) s (cF n z p)) wr (pC_bd HZ.out (by omega) hpl) HV.out.1.dr
                rw [HP.out, wtF_det z k hs hn] at this; exact this
              go_wp2_with (first | (go_at_call 90; refine HC.out.mono ?_; rintro e w4 ⟨rfl, b4⟩; have HB4 : Hid (Below W3.heap.size W3 w4) := bel_on HV.out.2 b4; clear b4) | (at_builtin; go_loud (refine wpList_append_own_at _ rfl _ _ 24 rfl W1.heap.size 3 i0 (.int .i64 0) 1 8 Try.underlying24 hi0 hz0 hz1 hz2 rfl (by decide) (.slice oad k ocap) k (intL (wtF n z s) k) rfl (row_below (row_below HO.out.1 HB4.out) ((Below.refl _ _).alloc (Nat.le_refl _) _)) ⟨w4.heap.size, 0, none⟩ 1 1 [.int .i64 (wtF n z s k)] rfl rfl (cell_one_at rfl) (fun u hu => by simp at hu; subst hu; rfl) (by unfold maxLen; omega) (by omega) (by have h1 := HB4.out.size; have h2 := HO.out.2.size; simp; omega) ?_; intro v' w5 hown hgrow _ _; rw [← intL_succ] at hown; obtain ⟨ad5, cap5, rfl⟩ := row_form hown; have HO5 : Hid (w5.ownsRow W1.heap.size 3 1 (.slice ad5 (k + 1) cap5) (k + 1) (intL (wtF n z s) (k + 1)) ∧ Below W1.heap.size W1 w5) := ⟨hown, Below.grown ((bel_on HO.out.2 HB4.out).alloc (bel_on HO.out.2 HB4.out).size _) hgrow (by have := (bel_on HO.out.2 HB4.out).size; simp; omega) (fun x hx => (HO.out.1.lt x hx).1)⟩; clear hown hgrow)))
              go_roundw
              case rel => exact ⟨k + 1, p + 1, ad5, cap5, by have := HP.out; omega, by omega, by go_num, rfl, HO5⟩
              case measure => simp [intOf]; omega
        · obtain rfl : N = p := by omega
          have lkk2 : ¬ (N : Int) < (N : Int) := by omega
          have HC : Hid (Calls Try.prog 90 #[.slice (some ⟨mb, mo, none⟩) n ccap] W3 fun e w' => e = .returned (.int .i64 (dl (mF n z) 3 (oF false false false))) ∧ Below W3.heap.size W3 w') := by
            have := l7Det_any n hn (some ⟨mb, mo, none⟩) ccap (mF n z) W3 (mF_bd (fun i j h1 h2 => HZ.out i j h1 (by omega))) (HDM.out.1.below HO.out.2)
            rw [mF_det z (by omega) hn] at this; exact this
          go_wp2_with (go_at_call 90; refine HC.out.mono ?_; rintro e w4 ⟨rfl, b4⟩; have HB4 : Hid (Below W3.heap.size W3 w4) := b4; clear b4)
          go_returns
          have ek : N - n = k := by have := HP.out; omega
          unfold EnP
          rw [ek]
          exact ⟨oad, ocap, rfl, row_lower (row_below HO.out.1 HB4.out) HDM.out.2.size, bel_on (bel_on HDM.out.2 HO.out.2) HB4.out⟩
end Go.Proofs.Ytjlniinahfgakaa
