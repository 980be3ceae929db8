/- Contracts of the model's division by a mode: it answers 'dv'. Conditions: the numbers lie within what the callers have tested. -/
import Derived.Test.YtmbdeafpfdeigaaMd
import Derived.Test.YtmbdeafpfdeigaaDv
namespace Go.Proofs.Ytmbdeafpfdeigaa
open Go.ChangeShapes Go.WideShapes Go.ChangeAt Go.RowKit
set_option linter.unusedVariables false
set_option linter.unusedSimpArgs false

theorem ret_Ldb {k : IntKind} {a b : Int} (h : a = b) : Ending.returned (.int k a) = .returned (.int k b) := by rw [h]

set_option maxHeartbeats 2000000 in
theorem l1Div_4 (p q : Int) (w : World) (h0 : -1000000000000000000 ≤ p) (h1 : p ≤ 1000000000000000000) (hq : 1 ≤ q) (hq1 : q ≤ 10000000000) :
    Calls Try.prog 135 #[.int .i64 p, .int .i64 q, .int .i64 4] w fun e w' => e = .returned (.int .i64 (dv p q 4)) ∧ w' = w := by
  obtain ⟨c0, c1, cp, cn⟩ := cut_facts p q hq
  have HD : Hid (dv p q 4 = rnd (p.tdiv q) (cr p q) q (decide (p < 0)) 4) := rfl
  obtain ⟨d, hd⟩ : ∃ d, p.tdiv q = d := ⟨_, rfl⟩
  obtain ⟨r, hr⟩ : ∃ r, cr p q = r := ⟨_, rfl⟩
  rw [hd, hr] at HD cp cn
  rw [hr] at c0 c1
  by_cases h : p < 0
  · obtain ⟨n1, n2, n3, n4⟩ := cn h
    have HP : Hid (decide (p < 0) = true) := decide_eq_true h
    clear cp cn n4
    by_cases hz : r = 0
    · subst hz
      go_enter Try.func135, Try.ntmps135
      go_wp2
      go_returns
      exact ⟨ret_Ldb (by rw [HD.out, HP.out]; first | rw [rnd4_lt _ _ _ _ (by omega)] | (rw [rnd4_gt _ _ _ _ (by omega)]; rfl)), rfl⟩
    · have hb : (r == 0) = false := by simpa using hz
      rcases Int.lt_trichotomy q (2 * r) with g | g | g
      · go_enter Try.func135, Try.ntmps135
        go_wp2
        go_returns
        exact ⟨ret_Ldb (by rw [HD.out, HP.out]; first | rw [rnd4_lt _ _ _ _ (by omega)] | (rw [rnd4_gt _ _ _ _ (by omega)]; rfl)), rfl⟩
      · have g1 : ¬ q < 2 * r := by omega
        have g2 : ¬ 2 * r < q := by omega
        have G : Hid (q = 2 * r) := g
        clear g
        obtain ⟨t, ht⟩ : ∃ t, d.tmod 2 = t := ⟨_, rfl⟩
        have HT : Hid (d.tmod 2 = t) := ht
        have hte : 0 ≤ d → d % 2 = t := fun x => by rw [← ht, Int.tmod_eq_emod_of_nonneg x]
        by_cases h2 : t = 0
        · have hb2 : (t == 0) = true := by simpa using h2
          try have hte2 := hte (by omega)
          clear hte
          go_enter Try.func135, Try.ntmps135
          go_wp2
          go_returns
          exact ⟨ret_Ldb (by rw [HD.out, HP.out]; simp [rnd, fur, G.out, HT.out, h2, hz] <;> omega), rfl⟩
        · have hb2 : (t == 0) = false := by simpa using h2
          try have hte2 := hte (by omega)
          clear hte
          go_enter Try.func135, Try.ntmps135
          go_wp2
          go_returns
          exact ⟨ret_Ldb (by rw [HD.out, HP.out]; simp [rnd, fur, G.out, HT.out, h2, hz] <;> omega), rfl⟩
      · go_enter Try.func135, Try.ntmps135
        go_wp2
        go_returns
        exact ⟨ret_Ldb (by rw [HD.out, HP.out]; first | rw [rnd4_lt _ _ _ _ (by omega)] | (rw [rnd4_gt _ _ _ _ (by omega)]; rfl)), rfl⟩
  · obtain ⟨n1, n2, n3, n4, n5⟩ := cp (by omega)
    have HP : Hid (decide (p < 0) = false) := decide_eq_false h
    have hp : 0 ≤ p := by omega
    clear cp cn n5 hd
    by_cases hz : r = 0
    · subst hz
      go_enter Try.func135, Try.ntmps135
      go_wp2
      go_returns
      exact ⟨ret_Ldb (by rw [HD.out, HP.out]; first | rw [rnd4_lt _ _ _ _ (by omega)] | (rw [rnd4_gt _ _ _ _ (by omega)]; rfl)), rfl⟩
    · have hb : (r == 0) = false := by simpa using hz
      rcases Int.lt_trichotomy q (2 * r) with g | g | g
      · go_enter Try.func135, Try.ntmps135
        go_wp2
        go_returns
        exact ⟨ret_Ldb (by rw [HD.out, HP.out]; first | rw [rnd4_lt _ _ _ _ (by omega)] | (rw [rnd4_gt _ _ _ _ (by omega)]; rfl)), rfl⟩
      · have g1 : ¬ q < 2 * r := by omega
        have g2 : ¬ 2 * r < q := by omega
        have G : Hid (q = 2 * r) := g
        clear g
        obtain ⟨t, ht⟩ : ∃ t, d.tmod 2 = t := ⟨_, rfl⟩
        have HT : Hid (d.tmod 2 = t) := ht
        have hte : 0 ≤ d → d % 2 = t := fun x => by rw [← ht, Int.tmod_eq_emod_of_nonneg x]
        by_cases h2 : t = 0
        · have hb2 : (t == 0) = true := by simpa using h2
          try have hte2 := hte (by omega)
          clear hte
          go_enter Try.func135, Try.ntmps135
          go_wp2
          go_returns
          exact ⟨ret_Ldb (by rw [HD.out, HP.out]; simp [rnd, fur, G.out, HT.out, h2, hz] <;> omega), rfl⟩
        · have hb2 : (t == 0) = false := by simpa using h2
          try have hte2 := hte (by omega)
          clear hte
          go_enter Try.func135, Try.ntmps135
          go_wp2
          go_returns
          exact ⟨ret_Ldb (by rw [HD.out, HP.out]; simp [rnd, fur, G.out, HT.out, h2, hz] <;> omega), rfl⟩
      · go_enter Try.func135, Try.ntmps135
        go_wp2
        go_returns
        exact ⟨ret_Ldb (by rw [HD.out, HP.out]; first | rw [rnd4_lt _ _ _ _ (by omega)] | (rw [rnd4_gt _ _ _ _ (by omega)]; rfl)), rfl⟩

set_option maxHeartbeats 2000000 in
theorem l1Div_5 (p q : Int) (w : World) (h0 : -1000000000000000000 ≤ p) (h1 : p ≤ 1000000000000000000) (hq : 1 ≤ q) (hq1 : q ≤ 10000000000) :
    Calls Try.prog 135 #[.int .i64 p, .int .i64 q, .int .i64 5] w fun e w' => e = .returned (.int .i64 (dv p q 5)) ∧ w' = w := by
  obtain ⟨c0, c1, cp, cn⟩ := cut_facts p q hq
  have HD : Hid (dv p q 5 = rnd (p.tdiv q) (cr p q) q (decide (p < 0)) 5) := rfl
  obtain ⟨d, hd⟩ : ∃ d, p.tdiv q = d := ⟨_, rfl⟩
  obtain ⟨r, hr⟩ : ∃ r, cr p q = r := ⟨_, rfl⟩
  rw [hd, hr] at HD cp cn
  rw [hr] at c0 c1
  by_cases h : p < 0
  · obtain ⟨n1, n2, n3, n4⟩ := cn h
    have HP : Hid (decide (p < 0) = true) := decide_eq_true h
    clear cp cn n4
    by_cases hz : r = 0
    · subst hz
      go_enter Try.func135, Try.ntmps135
      go_wp2
      go_returns
      exact ⟨ret_Ldb (by rw [HD.out, HP.out]; simp [rnd, fur, *] <;> omega), rfl⟩
    · have hb : (r == 0) = false := by simpa using hz
      go_enter Try.func135, Try.ntmps135
      go_wp2
      go_returns
      exact ⟨ret_Ldb (by rw [HD.out, HP.out]; simp [rnd, fur, *] <;> omega), rfl⟩
  · obtain ⟨n1, n2, n3, n4, n5⟩ := cp (by omega)
    have HP : Hid (decide (p < 0) = false) := decide_eq_false h
    have hp : 0 ≤ p := by omega
    clear cp cn n5 hd
    by_cases hz : r = 0
    · subst hz
      go_enter Try.func135, Try.ntmps135
      go_wp2
      go_returns
      exact ⟨ret_Ldb (by rw [HD.out, HP.out]; simp [rnd, fur, *] <;> omega), rfl⟩
    · have hb : (r == 0) = false := by simpa using hz
      go_enter Try.func135, Try.ntmps135
      go_wp2
      go_returns
      exact ⟨ret_Ldb (by rw [HD.out, HP.out]; simp [rnd, fur, *] <;> omega), rfl⟩

set_option maxHeartbeats 2000000 in
theorem l1Div_6 (p q : Int) (w : World) (h0 : -1000000000000000000 ≤ p) (h1 : p ≤ 1000000000000000000) (hq : 1 ≤ q) (hq1 : q ≤ 10000000000) :
    Calls Try.prog 135 #[.int .i64 p, .int .i64 q, .int .i64 6] w fun e w' => e = .returned (.int .i64 (dv p q 6)) ∧ w' = w := by
  obtain ⟨c0, c1, cp, cn⟩ := cut_facts p q hq
  have HD : Hid (dv p q 6 = rnd (p.tdiv q) (cr p q) q (decide (p < 0)) 6) := rfl
  obtain ⟨d, hd⟩ : ∃ d, p.tdiv q = d := ⟨_, rfl⟩
  obtain ⟨r, hr⟩ : ∃ r, cr p q = r := ⟨_, rfl⟩
  rw [hd, hr] at HD cp cn
  rw [hr] at c0 c1
  by_cases h : p < 0
  · obtain ⟨n1, n2, n3, n4⟩ := cn h
    have HP : Hid (decide (p < 0) = true) := decide_eq_true h
    clear cp cn n4
    by_cases hz : r = 0
    · subst hz
      go_enter Try.func135, Try.ntmps135
      go_wp2
      go_returns
      exact ⟨ret_Ldb (by rw [HD.out, HP.out]; simp [rnd, fur, *] <;> omega), rfl⟩
    · have hb : (r == 0) = false := by simpa using hz
      go_enter Try.func135, Try.ntmps135
      go_wp2
      go_returns
      exact ⟨ret_Ldb (by rw [HD.out, HP.out]; simp [rnd, fur, *] <;> omega), rfl⟩
  · obtain ⟨n1, n2, n3, n4, n5⟩ := cp (by omega)
    have HP : Hid (decide (p < 0) = false) := decide_eq_false h
    have hp : 0 ≤ p := by omega
    clear cp cn n5 hd
    by_cases hz : r = 0
    · subst hz
      go_enter Try.func135, Try.ntmps135
      go_wp2
      go_returns
      exact ⟨ret_Ldb (by rw [HD.out, HP.out]; simp [rnd, fur, *] <;> omega), rfl⟩
    · have hb : (r == 0) = false := by simpa using hz
      go_enter Try.func135, Try.ntmps135
      go_wp2
      go_returns
      exact ⟨ret_Ldb (by rw [HD.out, HP.out]; simp [rnd, fur, *] <;> omega), rfl⟩

end Go.Proofs.Ytmbdeafpfdeigaa
