/- The contract of the model's AddMonths: what 'addV' says at every two numbers. -/
import Derived.Test.YtlhgmdmbjpaakaaDoorAd
namespace Go.Proofs.YtlhgmdmbjpaakaaDoor.Dt
open Go.ChangeShapes Go.WideShapes Go.ChangeAt Go.RowKit
set_option linter.unusedVariables false
set_option linter.unusedSimpArgs false

set_option maxHeartbeats 2000000 in
theorem specAddMonths_in (day n : Int) (w : World) (h1 : 0 ≤ day) (h2 : day ≤ 40000) (n1 : -1200 ≤ n) (n2 : n ≤ 1200) :
    Calls Tryd.prog 29 #[.int .i64 day, .int .i64 n] w fun e w' => e = .returned (.int .i64 (addV day n)) ∧ Below w.heap.size w w' := by
  have hd := dayB_t ⟨h1, h2⟩
  have hn := inB_t ⟨n1, n2⟩
  obtain ⟨y, m, d, k1, k2, y0, y1, m1, m2, d1, d2⟩ := dat_open h1 h2
  rw [addV_in ⟨⟨h1, h2⟩, n1, n2⟩ k1, Int.mul_comm 12 y]
  have d3 : d ≤ 31 := by have := md_in y m; omega
  have bm1 : 1 ≤ (y * 12 + m - 1 + n) % 12 + 1 := by omega
  have bm2 : (y * 12 + m - 1 + n) % 12 + 1 ≤ 12 := by omega
  have mdi := md_in ((y * 12 + m - 1 + n) / 12) ((y * 12 + m - 1 + n) % 12 + 1)
  clear k1 d2
  by_cases hY : 2000 ≤ (y * 12 + m - 1 + n) / 12 ∧ (y * 12 + m - 1 + n) / 12 ≤ 2200
  · have by1 := inB_t hY
    obtain ⟨q1, q2⟩ := hY
    by_cases hmd : md ((y * 12 + m - 1 + n) / 12) ((y * 12 + m - 1 + n) % 12 + 1) < d
    · have hmin : min d (md ((y * 12 + m - 1 + n) / 12) ((y * 12 + m - 1 + n) % 12 + 1)) = md ((y * 12 + m - 1 + n) / 12) ((y * 12 + m - 1 + n) % 12 + 1) := by omega
      rw [hmin]
      clear hmin
      go_enter Tryd.func29, Tryd.ntmps29
      go_wp2_with (first
        | (go_at_call 54; refine (l2Day_any _ _).mono ?_; rintro e w' ⟨rfl, ew⟩; replace ew := ew.symm; subst ew; rw [hd])
        | (go_at_call 26; refine (l1In_eq _ _ _ _ _ (by assumption)).mono ?_; rintro e w' ⟨rfl, ew⟩; replace ew := ew.symm; subst ew)
        | (go_at_call 55; refine (specDateOf_any _ _).mono ?_; rintro e w1 ⟨rfl, hb1⟩; rw [k2]; have hs1 := hb1.size))
      go_quiet ((go_at_call 56; exact Calls.quiet_of_same (l2Long_any _ _ _ (by omega) bm1 bm2)))
      go_wp2_with (first
        | (go_at_call 56; refine (l2Long_any _ _ _ (by omega) bm1 bm2).mono ?_; rintro e w' ⟨rfl, ew⟩; replace ew := ew.symm; subst ew)
        | (go_at_call 57; refine (specDayOf_any _ _ _ _).mono ?_; rintro e w3 ⟨rfl, hb3⟩))
      go_returns
      exact ⟨rfl, bel_on ((below_drewN (hb1.alloc hs1 _) nq).setCell (by simp; omega) _) hb3⟩
    · have hmin : min d (md ((y * 12 + m - 1 + n) / 12) ((y * 12 + m - 1 + n) % 12 + 1)) = d := by omega
      rw [hmin]
      clear hmin
      go_enter Tryd.func29, Tryd.ntmps29
      go_wp2_with (first
        | (go_at_call 54; refine (l2Day_any _ _).mono ?_; rintro e w' ⟨rfl, ew⟩; replace ew := ew.symm; subst ew; rw [hd])
        | (go_at_call 26; refine (l1In_eq _ _ _ _ _ (by assumption)).mono ?_; rintro e w' ⟨rfl, ew⟩; replace ew := ew.symm; subst ew)
        | (go_at_call 55; refine (specDateOf_any _ _).mono ?_; rintro e w1 ⟨rfl, hb1⟩; rw [k2]; have hs1 := hb1.size))
      go_quiet ((go_at_call 56; exact Calls.quiet_of_same (l2Long_any _ _ _ (by omega) bm1 bm2)))
      go_wp2_with (first
        | (go_at_call 56; refine (l2Long_any _ _ _ (by omega) bm1 bm2).mono ?_; rintro e w' ⟨rfl, ew⟩; replace ew := ew.symm; subst ew)
        | (go_at_call 57; refine (specDayOf_any _ _ _ _).mono ?_; rintro e w3 ⟨rfl, hb3⟩))
      go_returns
      exact ⟨rfl, bel_on (below_drewN (hb1.alloc hs1 _) nq) hb3⟩
  · have by1 := inB_f hY
    have hD : dayV ((y * 12 + m - 1 + n) / 12) ((y * 12 + m - 1 + n) % 12 + 1) (min d (md ((y * 12 + m - 1 + n) / 12) ((y * 12 + m - 1 + n) % 12 + 1))) = -1 := dayV_far (by omega)
    rw [hD]
    clear hD hY
    · go_enter Tryd.func29, Tryd.ntmps29
      go_wp2_with (first
        | (go_at_call 54; refine (l2Day_any _ _).mono ?_; rintro e w' ⟨rfl, ew⟩; replace ew := ew.symm; subst ew; rw [hd])
        | (go_at_call 26; refine (l1In_eq _ _ _ _ _ (by assumption)).mono ?_; rintro e w' ⟨rfl, ew⟩; replace ew := ew.symm; subst ew)
        | (go_at_call 55; refine (specDateOf_any _ _).mono ?_; rintro e w1 ⟨rfl, hb1⟩; rw [k2]; have hs1 := hb1.size))
      go_returns
      exact ⟨rfl, hb1.alloc hs1 _⟩

theorem specAddMonths_any (day n : Int) (w : World) :
    Calls Tryd.prog 29 #[.int .i64 day, .int .i64 n] w fun e w' => e = .returned (.int .i64 (addV day n)) ∧ Below w.heap.size w w' := by
  by_cases h : 0 ≤ day ∧ day ≤ 40000
  · by_cases g : -1200 ≤ n ∧ n ≤ 1200
    · exact specAddMonths_in day n w h.1 h.2 g.1 g.2
    · have hd := dayB_t h
      have hn := inB_f g
      rw [addV_out (by omega)]
      go_enter Tryd.func29, Tryd.ntmps29
      go_wp2_with (first
        | (go_at_call 54; refine (l2Day_any _ _).mono ?_; rintro e w' ⟨rfl, ew⟩; replace ew := ew.symm; subst ew; rw [hd])
        | (go_at_call 26; refine (l1In_eq _ _ _ _ _ (by assumption)).mono ?_; rintro e w' ⟨rfl, ew⟩; replace ew := ew.symm; subst ew))
      go_returns
      exact ⟨rfl, Below.refl _ _⟩
  · have hd := dayB_f h
    rw [addV_out (by omega)]
    go_enter Tryd.func29, Tryd.ntmps29
    go_wp2_with (first
        | (go_at_call 54; refine (l2Day_any _ _).mono ?_; rintro e w' ⟨rfl, ew⟩; replace ew := ew.symm; subst ew; rw [hd]))
    go_returns
    exact ⟨rfl, Below.refl _ _⟩

end Go.Proofs.YtlhgmdmbjpaakaaDoor.Dt
