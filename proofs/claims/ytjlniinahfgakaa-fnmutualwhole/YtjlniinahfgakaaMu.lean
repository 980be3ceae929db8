/- Lists of shares: both tests. -/
import Derived.Test.YtjlniinahfgakaaMv
namespace Go.Proofs.Ytjlniinahfgakaa
open Go Go.ChangeShapes Go.WideShapes Go.ChangeAt Go.RowKit
set_option linter.unusedVariables false
set_option linter.unusedSimpArgs false

def hunB (x : Int) : Bool := decide (0 ≤ x ∧ x ≤ 100)
theorem hunB_iff {x : Int} : hunB x = true ↔ 0 ≤ x ∧ x ≤ 100 := by unfold hunB; simp
theorem isHundredth_any (x : Int) (w : World) : Calls Try.prog 93 #[.int .i64 x] w fun e w' => e = .returned (.bool (hunB x)) ∧ w' = w := by
  go_enter Try.func93, Try.ntmps93
  go_wp2
  all_goals go_returns
  all_goals exact ⟨ret_bool (by unfold hunB; rw [Bool.eq_iff_iff]; simp; try omega), rfl⟩
theorem sm_hun {z : Nat → Int} : ∀ {n : Nat}, (∀ j, j < n → hunB (z j) = true) → 0 ≤ sm z n ∧ sm z n ≤ 100 * (n : Int)
  | 0, _ => by simp [sm]
  | n + 1, h => by
    have ih := sm_hun (z := z) (n := n) (fun j hj => h j (by omega))
    have h1 := hunB_iff.1 (h n (by omega))
    rw [sm_succ]
    omega
/-- What a service gives, in hundredths. -/
def ShL (N s n : Nat) (z : Nat → Int) : Prop := n = N ∧ z s = 0 ∧ (∀ j, j < N → hunB (z j) = true) ∧ sm z N = 100
open Classical in
noncomputable def shlB (N s n : Nat) (z : Nat → Int) : Bool := decide (ShL N s n z)
open Classical in
theorem shlB_t {N s n : Nat} {z : Nat → Int} (h : ShL N s n z) : shlB N s n z = true := decide_eq_true h
open Classical in
theorem shlB_f {N s n : Nat} {z : Nat → Int} (h : ¬ ShL N s n z) : shlB N s n z = false := decide_eq_false h
open Classical in
theorem shlB_iff {N s n : Nat} {z : Nat → Int} : shlB N s n z = true ↔ ShL N s n z := by unfold shlB; simp
def ShS (N : Nat) (sv : Int) (m : Nat) (ln : Nat → Nat) (z : Nat → Nat → Int) : Prop := (1 ≤ sv ∧ sv ≤ 3) ∧ sv < (N : Int) ∧ (m : Int) = sv ∧ ∀ i, i < m → ShL N i (ln i) (z i)
open Classical in
noncomputable def shsB (N : Nat) (sv : Int) (m : Nat) (ln : Nat → Nat) (z : Nat → Nat → Int) : Bool := decide (ShS N sv m ln z)
open Classical in
theorem shsB_t {N : Nat} {sv : Int} {m : Nat} {ln : Nat → Nat} {z : Nat → Nat → Int} (h : ShS N sv m ln z) : shsB N sv m ln z = true := decide_eq_true h
open Classical in
theorem shsB_f {N : Nat} {sv : Int} {m : Nat} {ln : Nat → Nat} {z : Nat → Nat → Int} (h : ¬ ShS N sv m ln z) : shsB N sv m ln z = false := decide_eq_false h
open Classical in
theorem shsB_iff {N : Nat} {sv : Int} {m : Nat} {ln : Nat → Nat} {z : Nat → Nat → Int} : shsB N sv m ln z = true ↔ ShS N sv m ln z := by unfold shsB; simp

set_option maxRecDepth 20000 in
set_option maxHeartbeats 2000000 in
theorem isShareList_eq (a : Option Addr) (n cp s N : Nat) (z : Nat → Int) {v : Bool} (w : World) (hn : (n : Int) ≤ 1048576) (hsN : s < N) (hN : N ≤ 200) (hr : IR w a n z) (hv : shlB N s n z = v) :
    Calls Try.prog 86 #[.slice a n cp, .int .i64 (s : Int), .int .i64 (N : Int)] w fun e w' => e = .returned (.bool v) ∧ w' = w := by
  subst hv
  have HR : Hid (IR w a n z) := hr
  clear hr
  by_cases hne : n = N
  · subst hne
    obtain ⟨k, off, rfl, _⟩ := HR.out.addr (by omega)
    have cs := HR.out.cell hsN
    obtain ⟨x, hx⟩ : ∃ x, z s = x := ⟨_, rfl⟩
    rw [hx] at cs
    have hs2 : (s : Int) < (n : Int) := by omega
    have HX : Hid (z s = x) := hx
    clear hx
    by_cases h0 : x = 0
    · subst h0
      go_enter Try.func86, Try.ntmps86
      go_wp2
      clear cs
      go_loop [8, 22] (fun _ i => ∃ (j : Nat), j ≤ n ∧ i = .int .i64 (j : Int) ∧ Hid (∀ q, q < j → hunB (z q) = true)) (fun _ i => n - (intOf i).toNat)
      case atStart => exact ⟨0, by omega, rfl, fun q hq => by omega⟩
      case round =>
        obtain ⟨j, hj, rfl, HK⟩ := hrel
        by_cases hlt : j < n
        · have hlt2 : (j : Int) < (n : Int) := by omega
          have c1 := HR.out.cell hlt
          obtain ⟨y, hy⟩ : ∃ y, z j = y := ⟨_, rfl⟩
          have HY : Hid (z j = y) := hy
          rw [hy] at c1
          clear hy
          cases hb : hunB y with
          | false =>
            have HF : Hid (shlB n s n z = false) := shlB_f (fun q => by have := q.2.2.1 j hlt; rw [HY.out, hb] at this; cases this)
            go_wp2_with (go_at_call 93; refine (isHundredth_any _ _).mono ?_; rintro e w3 ⟨rfl, ew⟩; replace ew := ew.symm; subst ew; rw [hb])
            go_returns
            exact ⟨ret_bool HF.out.symm, rfl⟩
          | true =>
            have HN : Hid (∀ q, q < j + 1 → hunB (z q) = true) := fun q hq => by
              by_cases e : q = j
              · subst e; rw [HY.out]; exact hb
              · exact HK.out q (by omega)
            go_wp2_with (go_at_call 93; refine (isHundredth_any _ _).mono ?_; rintro e w3 ⟨rfl, ew⟩; replace ew := ew.symm; subst ew; rw [hb])
            go_round
            case rel => exact ⟨j + 1, by omega, by go_num, HN⟩
            case measure => simp [intOf]; omega
        · obtain rfl : j = n := by omega
          have lkk : ¬ (j : Int) < (j : Int) := by omega
          have HSM : Hid (SmB z j) := fun k hk => by have := sm_hun (z := z) (n := k) (fun q hq => HK.out q (by omega)); omega
          obtain ⟨S, hS⟩ : ∃ S, sm z j = S := ⟨_, rfl⟩
          have HS : Hid (sm z j = S) := hS
          clear hS
          by_cases h100 : S = 100
          · have HF : Hid (shlB j s j z = true) := shlB_t ⟨rfl, HX.out, HK.out, by rw [HS.out]; exact h100⟩
            subst h100
            go_wp2_with (go_at_call 49; refine (sum_any _ _ _ z _ hn HR.out HSM.out).mono ?_; rintro e w3 ⟨rfl, ew⟩; replace ew := ew.symm; subst ew; rw [HS.out])
            go_returns
            exact ⟨ret_bool HF.out.symm, rfl⟩
          · have HF : Hid (shlB j s j z = false) := shlB_f (fun q => h100 (by rw [← HS.out]; exact q.2.2.2))
            have hx0 : (S == 100) = false := by simpa using h100
            go_wp2_with (go_at_call 49; refine (sum_any _ _ _ z _ hn HR.out HSM.out).mono ?_; rintro e w3 ⟨rfl, ew⟩; replace ew := ew.symm; subst ew; rw [HS.out])
            go_returns
            exact ⟨ret_bool HF.out.symm, rfl⟩
    · have HF : Hid (shlB n s n z = false) := shlB_f (fun q => h0 (by rw [← HX.out]; exact q.2.1))
      have hx0 : (x == 0) = false := by simpa using h0
      go_enter Try.func86, Try.ntmps86
      go_wp2
      go_returns
      exact ⟨ret_bool HF.out.symm, rfl⟩
  · have HF : Hid (shlB N s n z = false) := shlB_f (fun q => hne q.1)
    have hne2 : ((n : Int) == (N : Int)) = false := by simpa using (by omega : ¬ (n : Int) = (N : Int))
    go_enter Try.func86, Try.ntmps86
    go_wp2
    go_returns
    exact ⟨ret_bool HF.out.symm, rfl⟩

set_option maxRecDepth 20000 in
set_option maxHeartbeats 2000000 in
theorem areShareLists_eq (ad : Option Addr) (m cap N : Nat) (sv : Int) (ln : Nat → Nat) (z : Nat → Nat → Int) {v : Bool} (w : World) (hm : (m : Int) ≤ 1048576) (hN : N ≤ 200) (hl : ∀ j, j < m → (ln j : Int) ≤ 1048576) (hr : SR w ad m ln z) (hv : shsB N sv m ln z = v) :
    Calls Try.prog 78 #[.slice ad m cap, .int .i64 sv, .int .i64 (N : Int)] w fun e w' => e = .returned (.bool v) ∧ w' = w := by
  subst hv
  have HR : Hid (SR w ad m ln z) := hr
  have HL : Hid (∀ j, j < m → (ln j : Int) ≤ 1048576) := hl
  clear hr hl
  by_cases h1 : sv < 1
  · have HF : Hid (shsB N sv m ln z = false) := shsB_f (fun q => by have := q.1; omega)
    have d1 : decide (sv < 1) = true := decide_eq_true h1
    go_enter Try.func78, Try.ntmps78
    go_wp2
    go_returns
    exact ⟨ret_bool HF.out.symm, rfl⟩
  have d1 : decide (sv < 1) = false := decide_eq_false h1
  by_cases h2 : 3 < sv
  · have HF : Hid (shsB N sv m ln z = false) := shsB_f (fun q => by have := q.1; omega)
    have d2 : decide (3 < sv) = true := decide_eq_true h2
    go_enter Try.func78, Try.ntmps78
    go_wp2
    go_returns
    exact ⟨ret_bool HF.out.symm, rfl⟩
  have d2 : decide (3 < sv) = false := decide_eq_false h2
  by_cases h3 : (N : Int) ≤ sv
  · have HF : Hid (shsB N sv m ln z = false) := shsB_f (fun q => by have := q.2.1; omega)
    have d3 : decide ((N : Int) ≤ sv) = true := decide_eq_true h3
    go_enter Try.func78, Try.ntmps78
    go_wp2
    go_returns
    exact ⟨ret_bool HF.out.symm, rfl⟩
  have d3 : decide ((N : Int) ≤ sv) = false := decide_eq_false h3
  by_cases h4 : (m : Int) = sv
  · subst h4
    go_enter Try.func78, Try.ntmps78
    go_wp2
    clear d1 d2 d3
    go_loop [7, 8, 28] (fun _ _ i => ∃ (j : Nat), j ≤ m ∧ i = .int .i64 (j : Int) ∧ Hid (∀ q, q < j → ShL N q (ln q) (z q))) (fun _ _ i => m - (intOf i).toNat)
    case atStart => exact ⟨0, by omega, rfl, fun q hq => by omega⟩
    case round =>
      obtain ⟨j, hj, rfl, HK⟩ := hrel
      by_cases hlt : j < m
      · have hlt2 : (j : Int) < (m : Int) := by omega
        obtain ⟨kb, off, a, cp, rfl, hkb, c1, r1⟩ := HR.out.get hlt
        have HR1 : Hid (IR w a (ln j) (z j)) := r1
        have hll := HL.out j hlt
        have hjN : j < N := by omega
        clear r1
        cases hb : shlB N j (ln j) (z j) with
        | false =>
          have HF : Hid (shsB N (m : Int) m ln z = false) := shsB_f (fun q => by have := shlB_t (q.2.2.2 j hlt); rw [hb] at this; cases this)
          go_wp2_with (go_at_call 86; refine (isShareList_eq _ _ _ j N (z j) _ hll hjN hN HR1.out hb).mono ?_; rintro e w3 ⟨rfl, ew⟩; replace ew := ew.symm; subst ew)
          go_returns
          exact ⟨ret_bool HF.out.symm, rfl⟩
        | true =>
          have HN : Hid (∀ q, q < j + 1 → ShL N q (ln q) (z q)) := fun q hq => by
            by_cases e : q = j
            · subst e; exact shlB_iff.1 hb
            · exact HK.out q (by omega)
          go_wp2_with (go_at_call 86; refine (isShareList_eq _ _ _ j N (z j) _ hll hjN hN HR1.out hb).mono ?_; rintro e w3 ⟨rfl, ew⟩; replace ew := ew.symm; subst ew)
          go_round
          case rel => exact ⟨j + 1, by omega, by go_num, HN⟩
          case measure => simp [intOf]; omega
      · obtain rfl : j = m := by omega
        have lkk : ¬ (j : Int) < (j : Int) := by omega
        have HF : Hid (shsB N (j : Int) j ln z = true) := shsB_t ⟨⟨by omega, by omega⟩, by omega, rfl, HK.out⟩
        go_wp2
        go_returns
        exact ⟨ret_bool HF.out.symm, rfl⟩
  · have HF : Hid (shsB N sv m ln z = false) := shsB_f (fun q => h4 q.2.2.1)
    have h40 : ((m : Int) == sv) = false := by simpa using h4
    go_enter Try.func78, Try.ntmps78
    go_wp2
    go_returns
    exact ⟨ret_bool HF.out.symm, rfl⟩
end Go.Proofs.Ytjlniinahfgakaa
