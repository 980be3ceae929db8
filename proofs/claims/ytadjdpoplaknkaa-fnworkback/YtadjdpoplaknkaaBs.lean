/- The contract of the library's binary search over ascending whole numbers. -/
import Derived.Test.YtadjdpoplaknkaaCm
namespace Go.Proofs.Ytadjdpoplaknkaa
open Go.ChangeShapes Go.WideShapes Go.ChangeAt Go.RowKit
set_option linter.unusedVariables false
set_option linter.unusedSimpArgs false

theorem cmpNaN_any (a : Int) (w : World) : Calls Try.prog 59 #[.int .i64 a] w fun e w' => e = .returned (.bool false) ∧ w' = w := by
  go_enter Try.func59, Try.ntmps59
  go_wp2
  go_returns
  exact ⟨ret_bool (by simp), rfl⟩

theorem slNaN_any (a : Int) (w : World) : Calls Try.prog 58 #[.int .i64 a] w fun e w' => e = .returned (.bool false) ∧ w' = w := by
  go_enter Try.func58, Try.ntmps58
  go_wp2
  go_returns
  exact ⟨ret_bool (by simp), rfl⟩

theorem less_any (a b : Int) (w : World) : Calls Try.prog 57 #[.int .i64 a, .int .i64 b] w fun e w' => e = .returned (.bool (decide (a < b))) ∧ w' = w := by
  go_enter Try.func57, Try.ntmps57
  go_wp2_with (go_at_call 59; refine (cmpNaN_any _ _).mono ?_; rintro e w' ⟨rfl, rfl⟩)
  go_returns
  exact ⟨ret_bool (by simp), rfl⟩

open Classical in
noncomputable def memB (len : Nat) (z : Nat → Int) (d : Int) : Bool := decide (∃ j, j < len ∧ z j = d)
open Classical in
theorem memB_t {len : Nat} {z : Nat → Int} {d : Int} (h : ∃ j, j < len ∧ z j = d) : memB len z d = true := by unfold memB; exact decide_eq_true h
open Classical in
theorem memB_f {len : Nat} {z : Nat → Int} {d : Int} (h : ¬ ∃ j, j < len ∧ z j = d) : memB len z d = false := by unfold memB; exact decide_eq_false h

theorem Asc.lt {len : Nat} {z : Nat → Int} (h : Asc len z) {a : Nat} : ∀ {b : Nat}, a < b → b < len → z a < z b
  | 0, h1, _ => by omega
  | b + 1, h1, h2 => by
    have hs := (h (b + 1) h2).2 (by omega)
    simp only [Nat.add_sub_cancel] at hs
    by_cases e : a = b
    · subst e; exact hs
    · have := h.lt (a := a) (b := b) (by omega) (by omega); omega

set_option maxHeartbeats 1000000 in
theorem bsearch_any (ad : Option Addr) (len cap : Nat) (z : Nat → Int) (d : Int) (w : World) (h : (len : Int) ≤ 1048576) (hr : IR w ad len z) (hA : Asc len z) :
    Calls Try.prog 55 #[.slice ad len cap, .int .i64 d] w fun e w' => (∃ i : Int, e = .returned (.tuple #[.int .i64 i, .bool (memB len z d)])) ∧ w' = w := by
  have HR : Hid (IR w ad len z) := hr
  have HA : Hid (Asc len z) := hA
  clear hr hA
  go_enter Try.func55, Try.ntmps55
  go_wp2
  go_loop [7, 8] (fun u v => ∃ i j : Nat, u = .int .i64 (i : Int) ∧ v = .int .i64 (j : Int) ∧ i ≤ j ∧ j ≤ len ∧ Hid ((∀ p, p < i → z p < d) ∧ (∀ p, j ≤ p → p < len → d ≤ z p))) (fun u v => (intOf v).toNat - (intOf u).toNat)
  case atStart => exact ⟨0, len, rfl, rfl, Nat.zero_le _, Nat.le_refl _, fun p hp => by omega, fun p h1 h2 => by omega⟩
  case round =>
    obtain ⟨i, j, rfl, rfl, hij, hj, HP⟩ := hrel
    by_cases hlt : i < j
    · obtain ⟨m, hm⟩ : ∃ m : Nat, (i + j) / 2 = m := ⟨_, rfl⟩
      have em : ((i : Int) + (j : Int)) / 2 = (m : Int) := by omega
      have m1 : i ≤ m := by omega
      have m2 : m < j := by omega
      have m3 : m < len := by omega
      obtain ⟨kb, off, rfl, _⟩ := HR.out.addr (by omega)
      have c1 := HR.out.cell m3
      clear hm
      by_cases hz : z m < d
      · have HP2 : Hid ((∀ p, p < m + 1 → z p < d) ∧ (∀ p, j ≤ p → p < len → d ≤ z p)) := ⟨fun p hp => by
          by_cases e : p = m
          · subst e; exact hz
          · have := HA.out.lt (a := p) (b := m) (by omega) m3; omega, HP.out.2⟩
        go_wp2_with (go_at_call 57; refine (less_any _ _ _).mono ?_; rintro e w' ⟨rfl, rfl⟩)
        go_round
        case rel => exact ⟨m + 1, j, by go_num, rfl, by omega, hj, HP2⟩
        case measure => simp [intOf]; omega
      · have HP2 : Hid ((∀ p, p < i → z p < d) ∧ (∀ p, m ≤ p → p < len → d ≤ z p)) := ⟨HP.out.1, fun p h1 h2 => by
          by_cases e : p = m
          · subst e; omega
          · have := HA.out.lt (a := m) (b := p) (by omega) h2; omega⟩
        go_wp2_with (go_at_call 57; refine (less_any _ _ _).mono ?_; rintro e w' ⟨rfl, rfl⟩)
        go_round
        case rel => exact ⟨i, m, rfl, by go_num, by omega, by omega, HP2⟩
        case measure => simp [intOf]; omega
    · obtain rfl : i = j := by omega
      by_cases hl : i < len
      · obtain ⟨kb, off, rfl, _⟩ := HR.out.addr (by omega)
        have c1 := HR.out.cell hl
        by_cases hz : z i = d
        · have HF : Hid (memB len z d = true) := memB_t ⟨i, hl, hz⟩
          have ez : (z i == d) = true := by simpa using hz
          clear hz
          go_wp2_with (go_at_call 58; refine (slNaN_any _ _).mono ?_; rintro e w' ⟨rfl, rfl⟩)
          go_returns
          exact ⟨⟨(i : Int), by rw [HF.out]; simp⟩, rfl⟩
        · have HF : Hid (memB len z d = false) := memB_f fun ⟨p, h1, h2⟩ => by
            rcases Nat.lt_trichotomy p i with g | g | g
            · have := HP.out.1 p g; omega
            · subst g; exact hz h2
            · have := HA.out.lt g h1; have := HP.out.2 i (Nat.le_refl _) hl; omega
          have ez : (z i == d) = false := by simpa using hz
          clear hz
          go_wp2_with (go_at_call 58; refine (slNaN_any _ _).mono ?_; rintro e w' ⟨rfl, rfl⟩)
          go_returns
          exact ⟨⟨(i : Int), by rw [HF.out]; simp⟩, rfl⟩
      · have HF : Hid (memB len z d = false) := memB_f fun ⟨p, h1, h2⟩ => by
          have := HP.out.1 p (by omega); omega
        go_wp2
        go_returns
        exact ⟨⟨(i : Int), by rw [HF.out]; simp⟩, rfl⟩

end Go.Proofs.Ytadjdpoplaknkaa
