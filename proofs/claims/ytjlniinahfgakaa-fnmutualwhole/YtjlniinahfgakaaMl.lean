/- The model's test of shares. -/
import Derived.Test.YtjlniinahfgakaaMn
namespace Go.Proofs.Ytjlniinahfgakaa
open Go Go.ChangeShapes Go.WideShapes Go.ChangeAt Go.RowKit
set_option linter.unusedVariables false
set_option linter.unusedSimpArgs false

set_option maxRecDepth 20000 in
set_option maxHeartbeats 4000000 in
theorem l7Shares_eq (N : Nat) (sv : Int) (ad : Option Addr) (m cap : Nat) (ln : Nat → Nat) (z : Nat → Nat → Int) {v : Bool} (w : World) (hN : N ≤ 200) (hm : (m : Int) ≤ 1048576) (hl : ∀ j, j < m → (ln j : Int) ≤ 1048576) (hr : SR w ad m ln z) (hv : shsB N sv m ln z = v) :
    Calls Try.prog 82 #[.int .i64 (N : Int), .int .i64 sv, .slice ad m cap] w fun e w' => e = .returned (.bool v) ∧ w' = w := by
  subst hv
  have HR : Hid (SR w ad m ln z) := hr
  have HL : Hid (∀ j, j < m → (ln j : Int) ≤ 1048576) := hl
  clear hr hl
  cases h1 : inB sv 1 3 with
  | false =>
    have HF : Hid (shsB N sv m ln z = false) := shsB_f (fun q => by rw [inB_t q.1.1 q.1.2] at h1; cases h1)
    go_enter Try.func82, Try.ntmps82
    go_wp2_with (go_at_call 60; refine (l1In_any _ _ _ _).mono ?_; rintro e w' ⟨rfl, ew⟩; replace ew := ew.symm; subst ew; rw [h1])
    go_returns
    exact ⟨ret_bool HF.out.symm, rfl⟩
  | true =>
    have h1b := inB_iff.1 h1
    by_cases h3 : (N : Int) ≤ sv
    · have HF : Hid (shsB N sv m ln z = false) := shsB_f (fun q => by have := q.2.1; omega)
      have d3 : decide ((N : Int) ≤ sv) = true := decide_eq_true h3
      go_enter Try.func82, Try.ntmps82
      go_wp2_with (go_at_call 60; refine (l1In_any _ _ _ _).mono ?_; rintro e w' ⟨rfl, ew⟩; replace ew := ew.symm; subst ew; rw [h1])
      go_returns
      exact ⟨ret_bool HF.out.symm, rfl⟩
    have d3 : decide ((N : Int) ≤ sv) = false := decide_eq_false h3
    by_cases h4 : (m : Int) = sv
    · subst h4
      go_enter Try.func82, Try.ntmps82
      go_wp2_with (go_at_call 60; refine (l1In_any _ _ _ _).mono ?_; rintro e w' ⟨rfl, ew⟩; replace ew := ew.symm; subst ew; rw [h1])
      clear d3
      go_loop [7, 8, 9] (fun i _ _ => ∃ (j : Nat), j ≤ m ∧ i = .int .i64 (j : Int) ∧ Hid (∀ q, q < j → ShL N q (ln q) (z q))) (fun i _ _ => m - (intOf i).toNat)
      case atStart => exact ⟨0, by omega, rfl, fun q hq => by omega⟩
      case round =>
        obtain ⟨j, hj, rfl, HK⟩ := hrel
        by_cases hlt : j < m
        · have hlt2 : (j : Int) < (m : Int) := by omega
          obtain ⟨kb, off, a, cp, rfl, hkb, c1, r1⟩ := HR.out.get hlt
          have HR1 : Hid (IR w a (ln j) (z j)) := r1
          have hll := HL.out j hlt
          have hjN : j < N := by omega
          have hjN2 : (j : Int) < (N : Int) := by omega
          clear r1
          by_cases hne : ln j = N
          · rw [hne] at c1 HR1 hll
            obtain ⟨ka, oa, rfl, _⟩ := HR1.out.addr (by omega)
            have HNE : Hid (ln j = N) := hne
            clear hne
            go_wp2
            go_loop [8, 9] (fun s i => ∃ (k : Nat), k ≤ N ∧ i = .int .i64 (k : Int) ∧ s = .int .i64 (sm (z j) k) ∧ Hid (∀ q, q < k → hunB (z j q) = true)) (fun _ i => N - (intOf i).toNat)
            case atStart => exact ⟨0, by omega, rfl, rfl, fun q hq => by omega⟩
            case round =>
              obtain ⟨k, hk, rfl, rfl, HJ⟩ := hrel
              by_cases hltk : k < N
              · have hltk2 : (k : Int) < (N : Int) := by omega
                have cx := HR1.out.cell hltk
                have hsb := sm_hun (z := z j) (n := k) (fun q hq => HJ.out q hq)
                obtain ⟨x, hx⟩ : ∃ x, z j k = x := ⟨_, rfl⟩
                obtain ⟨s, hs⟩ : ∃ s, sm (z j) k = s := ⟨_, rfl⟩
                have HX : Hid (z j k = x ∧ sm (z j) (k + 1) = s + x) := ⟨hx, by rw [sm_succ, hs, hx]⟩
                rw [hx] at cx
                rw [hs] at hsb ⊢
                obtain ⟨hs1, hs2⟩ := hsb
                have hs3 : s ≤ 20000 := by omega
                clear hx hs hs2
                cases hb : inB x 0 100 with
                | false =>
                  have HF : Hid (shsB N (m : Int) m ln z = false) := shsB_f (fun q => by
                    have := hunB_iff.1 ((q.2.2.2 j hlt).2.2.1 k hltk)
                    rw [HX.out.1] at this
                    rw [inB_t this.1 this.2] at hb; cases hb)
                  go_wp2_with (go_at_call 60; refine (l1In_any _ _ _ _).mono ?_; rintro e w' ⟨rfl, ew⟩; replace ew := ew.symm; subst ew; rw [hb])
                  go_returns
                  exact ⟨ret_bool HF.out.symm, rfl⟩
                | true =>
                  have hxb := inB_iff.1 hb
                  obtain ⟨hx1, hx2⟩ := hxb
                  have HN : Hid (∀ q, q < k + 1 → hunB (z j q) = true) := fun q hq => by
                    by_cases e : q = k
                    · subst e; rw [HX.out.1]; exact hunB_iff.2 ⟨hx1, hx2⟩
                    · exact HJ.out q (by omega)
                  go_wp2_with (go_at_call 60; refine (l1In_any _ _ _ _).mono ?_; rintro e w' ⟨rfl, ew⟩; replace ew := ew.symm; subst ew; rw [hb])
                  go_round
                  case rel => exact ⟨k + 1, by omega, by go_num, by rw [HX.out.2], HN⟩
                  case measure => simp [intOf]; omega
              · obtain rfl : k = N := by omega
                have lkk : ¬ (k : Int) < (k : Int) := by omega
                have cj := HR1.out.cell hjN
                obtain ⟨s, hs⟩ : ∃ s, sm (z j) k = s := ⟨_, rfl⟩
                obtain ⟨y, hy⟩ : ∃ y, z j j = y := ⟨_, rfl⟩
                have HS : Hid (sm (z j) k = s ∧ z j j = y) := ⟨hs, hy⟩
                rw [hy] at cj
                rw [hs]
                clear hs hy
                by_cases h100 : s = 100
                · subst h100
                  by_cases h0 : y = 0
                  · subst h0
                    have HN : Hid (∀ q, q < j + 1 → ShL k q (ln q) (z q)) := fun q hq => by
                      by_cases e : q = j
                      · subst e; exact ⟨HNE.out, HS.out.2, HJ.out, HS.out.1⟩
                      · exact HK.out q (by omega)
                    go_wp2
                    go_round
                    case rel => exact ⟨j + 1, by omega, by go_num, HN⟩
                    case measure => simp [intOf]; omega
                  · have HF : Hid (shsB k (m : Int) m ln z = false) := shsB_f (fun q => h0 (by rw [← HS.out.2]; exact (q.2.2.2 j hlt).2.1))
                    have h00 : (y == 0) = false := by simpa using h0
                    go_wp2
                    go_returns
                    exact ⟨ret_bool HF.out.symm, rfl⟩
                · have HF : Hid (shsB k (m : Int) m ln z = false) := shsB_f (fun q => h100 (by rw [← HS.out.1]; exact (q.2.2.2 j hlt).2.2.2))
                  have h00 : (s == 100) = false := by simpa using h100
                  go_wp2
                  go_returns
                  exact ⟨ret_bool HF.out.symm, rfl⟩
          · have HF : Hid (shsB N (m : Int) m ln z = false) := shsB_f (fun q => hne (q.2.2.2 j hlt).1)
            have hne2 : ((ln j : Int) == (N : Int)) = false := by simpa using (by omega : ¬ (ln j : Int) = (N : Int))
            go_wp2
            go_returns
            exact ⟨ret_bool HF.out.symm, rfl⟩
        · obtain rfl : j = m := by omega
          have lkk : ¬ (j : Int) < (j : Int) := by omega
          have HF : Hid (shsB N (j : Int) j ln z = true) := shsB_t ⟨h1b, by omega, rfl, HK.out⟩
          go_wp2
          go_returns
          exact ⟨ret_bool HF.out.symm, rfl⟩
    · have HF : Hid (shsB N sv m ln z = false) := shsB_f (fun q => h4 q.2.2.1)
      have h40 : ((m : Int) == sv) = false := by simpa using h4
      go_enter Try.func82, Try.ntmps82
      go_wp2_with (go_at_call 60; refine (l1In_any _ _ _ _).mono ?_; rintro e w' ⟨rfl, ew⟩; replace ew := ew.symm; subst ew; rw [h1])
      go_returns
      exact ⟨ret_bool HF.out.symm, rfl⟩
end Go.Proofs.Ytjlniinahfgakaa
