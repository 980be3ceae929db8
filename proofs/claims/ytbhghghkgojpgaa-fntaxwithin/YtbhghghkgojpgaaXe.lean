/- l10DrawCodes, walked. -/
import Derived.Test.YtbhghghkgojpgaaXc
namespace Go.Proofs.Ytbhghghkgojpgaa
open Go Go.ChangeShapes Go.WideShapes Go.ChangeAt Go.RowKit
set_option linter.unusedVariables false
set_option linter.unusedSimpArgs false

set_option maxRecDepth 20000 in
set_option maxHeartbeats 8000000 in
theorem drawCodes_any (B b : Nat) (ra : Option Addr) (n rc : Nat) (c : Nat → T5) (w : World) (hc : Cursor w b) (hB : B ≤ b) (hn : (n : Int) ≤ 1000) (hr : TR w ra n c) (hra : ∀ q off, ra = some ⟨q, off, none⟩ → q ≠ b ∧ q < w.heap.size) :
    Calls Try.prog 39 #[.pointer (some ⟨b, 0, none⟩), .slice ra n rc] w fun e w' => ∃ sa m sc z, e = .returned (.slice sa m sc) ∧ m ≤ 8 ∧ CW B b w w.heap.size sa m sc z ra n c w' := by
  obtain ⟨i0, hi, hz0, hz1, hz2⟩ := info9
  have hb := hc.lt
  have hsz9 : ∀ {sa : Option Addr} {m sc : Nat} {z : Nat → ByteArray} (W : World), CW B b w w.heap.size sa m sc z ra n c W → w.heap.size ≤ W.heap.size := fun W h => h.bel.size
  have HC0 : Hid (CW B b w w.heap.size (some ⟨w.heap.size, 0, none⟩) 0 0 (fun _ => ByteArray.empty) ra n c (w.alloc (.cells #[] 9 (0, 0)))) := hid ⟨hc.alloc _, (Below.refl _ _).alloc (by omega) _, ⟨rfl, .inr ⟨w.heap.size, 0, #[], rfl, Nat.le_refl _, CB.new _ _, Nat.le_refl _, Nat.zero_le _, rfl, rfl⟩⟩, TR.alloc hr _, hb, hB, by omega, hra⟩
  clear hc hr hra
  go_enter Try.func39, Try.ntmps39
  go_wp2
  go_loopw [5, 6] (fun v i wr => ∃ (j m sc : Nat) (sa : Option Addr) (z : Nat → ByteArray), j ≤ n ∧ m ≤ 7 ∧ i = .int .i64 (j : Int) ∧ v = .slice sa m sc ∧ Hid (CW B b w w.heap.size sa m sc z ra n c wr)) (fun _ i _ => n - (intOf i).toNat)
  case atStart => exact ⟨0, 0, 0, _, _, Nat.zero_le _, by omega, rfl, rfl, HC0⟩
  case round =>
    obtain ⟨j, m, sc, sa, z, hj, hm, rfl, rfl, HW⟩ := hrel
    obtain ⟨wo, rfl⟩ : ∃ x, x = wr := ⟨wr, rfl⟩
    have hm2 : (m : Int) ≤ 7 := by omega
    by_cases hjn : j < n
    · have hjn2 : (j : Int) < (n : Int) := by omega
      by_cases hm7 : (m : Int) < 7
      · have e7 : decide ((m : Int) < 7) = true := decide_eq_true hm7
        obtain ⟨rb, roff, rfl, hrb⟩ := HW.out.tr.addr (by omega)
        go_wp2_with (first | (go_at_call 40; refine (once_any b _ _ HW.out.cur).mono ?_; rintro e w1 ⟨xo, rfl, m1⟩; have H1 : Hid (CW B b w w.heap.size sa m sc z (some ⟨rb, roff, none⟩) n c w1) := HW.out.moved m1; obtain ⟨c0, _, _, _, _⟩ := H1.out.tr.cell hjn; obtain ⟨s2, hs2⟩ : ∃ y, (c j).code = y := ⟨_, rfl⟩; rw [hs2] at c0; clear m1 hs2; cases xo) | (go_at_call 57; refine (l10Has_any _ _ _ z s2 _ (by omega) (row_STR H1.out.own)).mono ?_; rintro e w2 ⟨rfl, ew⟩; replace ew := ew.symm; subst ew; obtain ⟨v, hv⟩ : ∃ v, hasS m z s2 = v := ⟨_, rfl⟩; rw [hv]; clear hv; cases v) | (at_builtin; go_loud (refine wpList_append_own_at _ rfl _ _ 25 rfl w.heap.size 9 i0 (.string ByteArray.empty) 1 16 Try.underlying25 hi hz0 hz1 hz2 rfl (by decide) (.slice sa m sc) m (flS z m) rfl (arow_keep H1.out.own ((Below.refl _ _).alloc (Nat.le_refl _) _)) ⟨w1.heap.size, 0, none⟩ 1 1 [.string s2] rfl rfl (acells_at rfl) (fun u hu => by simp at hu; subst hu; rfl) (by unfold maxLen; omega) (by omega) (by have := H1.out.cur.lt; have := H1.out.bel.size; have := hsz9 _ H1.out; (try simp); omega) ?_); intro v9 w9 hown hgrow hnil hat; obtain ⟨s9, sc9, rfl⟩ := arow_form hown; have C9 : Hid (CW B b w w.heap.size s9 (m + 1) sc9 (sAdd z m s2) (some ⟨rb, roff, none⟩) n c w9) := hid (H1.out.grow hgrow (by rw [flS_add]; exact hown)); clear hown hgrow hnil hat))
        all_goals go_roundw
        all_goals try (case measure => simp [intOf]; omega)
        all_goals first
          | exact ⟨j + 1, m + 1, sc9, s9, _, by omega, by omega, by go_num, rfl, C9⟩
          | exact ⟨j + 1, m, sc, sa, z, by omega, by omega, by go_num, rfl, H1⟩
      · have e7 : decide ((m : Int) < 7) = false := decide_eq_false hm7
        go_wp2_with (first | (go_at_call 40; refine (once_any b _ _ HW.out.cur).mono ?_; rintro e w5 ⟨xo, rfl, m5⟩; have H5 : Hid (CW B b w w.heap.size sa m sc z ra n c w5) := HW.out.moved m5; clear m5; cases xo) | (go_at_call 75; refine (pickS_any b w5.heap.size 2 _ _ (H5.out.cur.alloc _) (CB.new _ _) (by have := H5.out.cur.lt; omega) (by omega) (fun j hj => by rcases (by omega : j = 0 ∨ j = 1) with rfl | rfl <;> exact ⟨_, rfl, by decide⟩)).mono ?_; rintro e w6 ⟨⟨t, rfl, ht⟩, m6⟩; have H6 : Hid (CW B b w w.heap.size sa m sc z ra n c w6) := H5.out.moved (turns_new m6); clear m6) | (at_builtin; go_loud (refine wpList_append_own_at _ rfl _ _ 25 rfl w.heap.size 9 i0 (.string ByteArray.empty) 1 16 Try.underlying25 hi hz0 hz1 hz2 rfl (by decide) (.slice sa m sc) m (flS z m) rfl (arow_keep H6.out.own ((Below.refl _ _).alloc (Nat.le_refl _) _)) ⟨w6.heap.size, 0, none⟩ 1 1 [.string t] rfl rfl (acells_at rfl) (fun u hu => by simp at hu; subst hu; rfl) (by unfold maxLen; omega) (by omega) (by have := H6.out.cur.lt; have := H6.out.bel.size; have := hsz9 _ H6.out; (try simp); omega) ?_); intro v9 w9 hown hgrow hnil hat; obtain ⟨s9, sc9, rfl⟩ := arow_form hown; have C9 : Hid (CW B b w w.heap.size s9 (m + 1) sc9 (sAdd z m t) ra n c w9) := hid (H6.out.grow hgrow (by rw [flS_add]; exact hown)); clear hown hgrow hnil hat))
        · go_returns
          exact ⟨sa, m, sc, z, rfl, by omega, H5.out⟩
        · go_returns
          exact ⟨s9, m + 1, sc9, _, rfl, by omega, C9.out⟩
    · obtain rfl : j = n := by omega
      have lkk : ¬ (j : Int) < (j : Int) := by omega
      go_wp2_with (first | (go_at_call 40; refine (once_any b _ _ HW.out.cur).mono ?_; rintro e w5 ⟨xo, rfl, m5⟩; have H5 : Hid (CW B b w w.heap.size sa m sc z ra j c w5) := HW.out.moved m5; clear m5; cases xo) | (go_at_call 75; refine (pickS_any b w5.heap.size 2 _ _ (H5.out.cur.alloc _) (CB.new _ _) (by have := H5.out.cur.lt; omega) (by omega) (fun j hj => by rcases (by omega : j = 0 ∨ j = 1) with rfl | rfl <;> exact ⟨_, rfl, by decide⟩)).mono ?_; rintro e w6 ⟨⟨t, rfl, ht⟩, m6⟩; have H6 : Hid (CW B b w w.heap.size sa m sc z ra j c w6) := H5.out.moved (turns_new m6); clear m6) | (at_builtin; go_loud (refine wpList_append_own_at _ rfl _ _ 25 rfl w.heap.size 9 i0 (.string ByteArray.empty) 1 16 Try.underlying25 hi hz0 hz1 hz2 rfl (by decide) (.slice sa m sc) m (flS z m) rfl (arow_keep H6.out.own ((Below.refl _ _).alloc (Nat.le_refl _) _)) ⟨w6.heap.size, 0, none⟩ 1 1 [.string t] rfl rfl (acells_at rfl) (fun u hu => by simp at hu; subst hu; rfl) (by unfold maxLen; omega) (by omega) (by have := H6.out.cur.lt; have := H6.out.bel.size; have := hsz9 _ H6.out; (try simp); omega) ?_); intro v9 w9 hown hgrow hnil hat; obtain ⟨s9, sc9, rfl⟩ := arow_form hown; have C9 : Hid (CW B b w w.heap.size s9 (m + 1) sc9 (sAdd z m t) ra j c w9) := hid (H6.out.grow hgrow (by rw [flS_add]; exact hown)); clear hown hgrow hnil hat))
      · go_returns
        exact ⟨sa, m, sc, z, rfl, by omega, H5.out⟩
      · go_returns
        exact ⟨s9, m + 1, sc9, _, rfl, by omega, C9.out⟩
end Go.Proofs.Ytbhghghkgojpgaa
