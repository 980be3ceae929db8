/- Contracts of the model's division by a mode: it answers 'dv'. Conditions: the numbers lie within what the callers have tested. -/
import Derived.Test.YtmbdeafpfdeigaaMd
import Derived.Test.YtmbdeafpfdeigaaDv
namespace Go.Proofs.Ytmbdeafpfdeigaa
open Go.ChangeShapes Go.WideShapes Go.ChangeAt Go.RowKit
set_option linter.unusedVariables false
set_option linter.unusedSimpArgs false

theorem ret_Lda {k : IntKind} {a b : Int} (h : a = b) : Ending.returned (.int k a) = .returned (.int k b) := by rw [h]

set_option maxHeartbeats 2000000 in
theorem l1Div_1 (p q : Int) (w : World) (h0 : -1000000000000000000 ≤ p) (h1 : p ≤ 1000000000000000000) (hq : 1 ≤ q) (hq1 : q ≤ 10000000000) :
    Calls Try.prog 135 #[.int .i64 p, .int .i64 q, .int .i64 1] w fun e w' => e = .returned (.int .i64 (dv p q 1)) ∧ w' = w := by
  obtain ⟨c0, c1, cp, cn⟩ := cut_facts p q hq
  have HD : Hid (dv p q 1 = rnd (p.tdiv q) (cr p q) q (decide (p < 0)) 1) := rfl
  obtain ⟨d, hd⟩ : ∃ d, p.tdiv q = d := ⟨_, rfl⟩
  obtain ⟨r, hr⟩ : ∃ r, cr p q = r := ⟨_, rfl⟩
  rw [hd, hr] at HD cp cn
  rw [hr] at c0 c1
  by_cases h : p < 0
  · obtain ⟨n1, n2, n3, n4⟩ := cn h
    have HP : Hid (decide (p < 0) = true) := decide_eq_true h
    clear cp cn n4
    by_cases hz : r = 0
    · subst hz
      go_enter Try.func135, Try.ntmps135
      go_wp2
      go_returns
      exact ⟨ret_Lda (by rw [HD.out, HP.out]; simp [rnd, fur, *] <;> omega), rfl⟩
    · have hb : (r == 0) = false := by simpa using hz
      go_enter Try.func135, Try.ntmps135
      go_wp2
      go_returns
      exact ⟨ret_Lda (by rw [HD.out, HP.out]; simp [rnd, fur, *] <;> omega), rfl⟩
  · obtain ⟨n1, n2, n3, n4, n5⟩ := cp (by omega)
    have HP : Hid (decide (p < 0) = false) := decide_eq_false h
    have hp : 0 ≤ p := by omega
    clear cp cn n5 hd
    by_cases hz : r = 0
    · subst hz
      go_enter Try.func135, Try.ntmps135
      go_wp2
      go_returns
      exact ⟨ret_Lda (by rw [HD.out, HP.out]; simp [rnd, fur, *] <;> omega), rfl⟩
    · have hb : (r == 0) = false := by simpa using hz
      go_enter Try.func135, Try.ntmps135
      go_wp2
      go_returns
      exact ⟨ret_Lda (by rw [HD.out, HP.out]; simp [rnd, fur, *] <;> omega), rfl⟩

set_option maxHeartbeats 2000000 in
theorem l1Div_2 (p q : Int) (w : World) (h0 : -1000000000000000000 ≤ p) (h1 : p ≤ 1000000000000000000) (hq : 1 ≤ q) (hq1 : q ≤ 10000000000) :
    Calls Try.prog 135 #[.int .i64 p, .int .i64 q, .int .i64 2] w fun e w' => e = .returned (.int .i64 (dv p q 2)) ∧ w' = w := by
  obtain ⟨c0, c1, cp, cn⟩ := cut_facts p q hq
  have HD : Hid (dv p q 2 = rnd (p.tdiv q) (cr p q) q (decide (p < 0)) 2) := rfl
  obtain ⟨d, hd⟩ : ∃ d, p.tdiv q = d := ⟨_, rfl⟩
  obtain ⟨r, hr⟩ : ∃ r, cr p q = r := ⟨_, rfl⟩
  rw [hd, hr] at HD cp cn
  rw [hr] at c0 c1
  by_cases h : p < 0
  · obtain ⟨n1, n2, n3, n4⟩ := cn h
    have HP : Hid (decide (p < 0) = true) := decide_eq_true h
    clear cp cn n4
    by_cases hz : r = 0
    · subst hz
      go_enter Try.func135, Try.ntmps135
      go_wp2
      go_returns
      exact ⟨ret_Lda (by rw [HD.out, HP.out]; simp [rnd, fur, *] <;> omega), rfl⟩
    · have hb : (r == 0) = false := by simpa using hz
      go_enter Try.func135, Try.ntmps135
      go_wp2
      go_returns
      exact ⟨ret_Lda (by rw [HD.out, HP.out]; simp [rnd, fur, *] <;> omega), rfl⟩
  · obtain ⟨n1, n2, n3, n4, n5⟩ := cp (by omega)
    have HP : Hid (decide (p < 0) = false) := decide_eq_false h
    have hp : 0 ≤ p := by omega
    clear cp cn n5 hd
    by_cases hz : r = 0
    · subst hz
      go_enter Try.func135, Try.ntmps135
      go_wp2
      go_returns
      exact ⟨ret_Lda (by rw [HD.out, HP.out]; simp [rnd, fur, *] <;> omega), rfl⟩
    · have hb : (r == 0) = false := by simpa using hz
      go_enter Try.func135, Try.ntmps135
      go_wp2
      go_returns
      exact ⟨ret_Lda (by rw [HD.out, HP.out]; simp [rnd, fur, *] <;> omega), rfl⟩

set_option maxHeartbeats 2000000 in
theorem l1Div_3 (p q : Int) (w : World) (h0 : -1000000000000000000 ≤ p) (h1 : p ≤ 1000000000000000000) (hq : 1 ≤ q) (hq1 : q ≤ 10000000000) :
    Calls Try.prog 135 #[.int .i64 p, .int .i64 q, .int .i64 3] w fun e w' => e = .returned (.int .i64 (dv p q 3)) ∧ w' = w := by
  obtain ⟨c0, c1, cp, cn⟩ := cut_facts p q hq
  have HD : Hid (dv p q 3 = rnd (p.tdiv q) (cr p q) q (decide (p < 0)) 3) := rfl
  obtain ⟨d, hd⟩ : ∃ d, p.tdiv q = d := ⟨_, rfl⟩
  obtain ⟨r, hr⟩ : ∃ r, cr p q = r := ⟨_, rfl⟩
  rw [hd, hr] at HD cp cn
  rw [hr] at c0 c1
  by_cases h : p < 0
  · obtain ⟨n1, n2, n3, n4⟩ := cn h
    have HP : Hid (decide (p < 0) = true) := decide_eq_true h
    clear cp cn n4
    by_cases hz : r = 0
    · subst hz
      go_enter Try.func135, Try.ntmps135
      go_wp2
      go_returns
      exact ⟨ret_Lda (by rw [HD.out, HP.out]; simp [rnd, fur, *] <;> omega), rfl⟩
    · have hb : (r == 0) = false := by simpa using hz
      rcases Int.lt_trichotomy q (2 * r) with g | g | g
      · go_enter Try.func135, Try.ntmps135
        go_wp2
        go_returns
        exact ⟨ret_Lda (by rw [HD.out, HP.out]; simp [rnd, fur, *] <;> omega), rfl⟩
      · have g1 : ¬ q < 2 * r := by omega
        have g2 : ¬ 2 * r < q := by omega
        have G : Hid (q = 2 * r) := g
        clear g
        go_enter Try.func135, Try.ntmps135
        go_wp2
        go_returns
        exact ⟨ret_Lda (by rw [HD.out, HP.out]; simp [rnd, fur, G.out, hz] <;> omega), rfl⟩
      · go_enter Try.func135, Try.ntmps135
        go_wp2
        go_returns
        exact ⟨ret_Lda (by rw [HD.out, HP.out]; simp [rnd, fur, *] <;> omega), rfl⟩
  · obtain ⟨n1, n2, n3, n4, n5⟩ := cp (by omega)
    have HP : Hid (decide (p < 0) = false) := decide_eq_false h
    have hp : 0 ≤ p := by omega
    clear cp cn n5 hd
    by_cases hz : r = 0
    · subst hz
      go_enter Try.func135, Try.ntmps135
      go_wp2
      go_returns
      exact ⟨ret_Lda (by rw [HD.out, HP.out]; simp [rnd, fur, *] <;> omega), rfl⟩
    · have hb : (r == 0) = false := by simpa using hz
      rcases Int.lt_trichotomy q (2 * r) with g | g | g
      · go_enter Try.func135, Try.ntmps135
        go_wp2
        go_returns
        exact ⟨ret_Lda (by rw [HD.out, HP.out]; simp [rnd, fur, *] <;> omega), rfl⟩
      · have g1 : ¬ q < 2 * r := by omega
        have g2 : ¬ 2 * r < q := by omega
        have G : Hid (q = 2 * r) := g
        clear g
        go_enter Try.func135, Try.ntmps135
        go_wp2
        go_returns
        exact ⟨ret_Lda (by rw [HD.out, HP.out]; simp [rnd, fur, G.out, hz] <;> omega), rfl⟩
      · go_enter Try.func135, Try.ntmps135
        go_wp2
        go_returns
        exact ⟨ret_Lda (by rw [HD.out, HP.out]; simp [rnd, fur, *] <;> omega), rfl⟩

end Go.Proofs.Ytmbdeafpfdeigaa
