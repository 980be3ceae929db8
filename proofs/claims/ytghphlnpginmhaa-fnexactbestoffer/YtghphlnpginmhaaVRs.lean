/- RatesOk in the model: it answers 'ratesB'. -/
import Derived.Test.YtghphlnpginmhaaVRa
namespace Go.Proofs.Ytghphlnpginmhaa.Rt
open Go.ChangeShapes Go.WideShapes Go.ChangeAt Go.RowKit
set_option linter.unusedVariables false
set_option linter.unusedSimpArgs false
theorem bdN {n : Nat} {A W : World} (h : Below n A W) (q : Nat) : Below n A (W.drewN q) := ⟨h.os, h.tape, h.output, h.size, h.block⟩
theorem l1In_eq {x lo hi : Int} {v : Bool} (w : World) (h : inB x lo hi = v) : Calls Try.prog 67 #[.int .i64 x, .int .i64 lo, .int .i64 hi] w fun e w' => e = .returned (.bool v) ∧ w' = w := h ▸ l1In_any x lo hi w
theorem l2Day_eq {x : Int} {v : Bool} (w : World) (h : inB x 0 40000 = v) : Calls Try.prog 87 #[.int .i64 x] w fun e w' => e = .returned (.bool v) ∧ w' = w := h ▸ l2Day_any x w
theorem inB_from {f m : Int} : inB f 1 (m - 1) = decide (0 < f ∧ f < m) := by unfold inB; rw [Bool.eq_iff_iff]; simp; omega
/-- The ways in which a rate may stand to the one ahead of it. -/
theorem lt_ways (yd yf xd xf : Int) : (ltB yd yf xd xf = false ∧ xd < yd) ∨ (ltB yd yf xd xf = false ∧ yd = xd ∧ xf ≤ yf) ∨ (ltB yd yf xd xf = true ∧ yd = xd ∧ yf < xf) ∨ (ltB yd yf xd xf = true ∧ yd < xd) := by
  unfold ltB
  rcases Int.lt_trichotomy yd xd with h | h | h
  · exact .inr (.inr (.inr ⟨by simp; omega, h⟩))
  · by_cases g : yf < xf
    · exact .inr (.inr (.inl ⟨by simp; omega, h, g⟩))
    · exact .inr (.inl ⟨by simp; omega, h, by omega⟩)
  · exact .inl ⟨by simp; omega, h⟩
set_option maxHeartbeats 4000000 in
theorem specRatesOk_any (ad : Option Addr) (len cap : Nat) (r : Nat → R4) (m : Int) (w : World) (h : (len : Int) ≤ 1048576) (hr : RR w ad len r) :
    Calls Try.prog 150 #[.slice ad len cap, .int .i64 m] w fun e w' => e = .returned (.bool (ratesB m len r)) ∧ Below w.heap.size w w' := by
  have HR : Hid (RR w ad len r) := hr
  clear hr
  by_cases h4 : len ≤ 400
  · have h5 : (len : Int) ≤ 400 := by omega
    cases hm : inB m 1 20
    · have HF : Hid (ratesB m len r = false) := ratesB_f fun H => by rw [H.1] at hm; cases hm
      go_enter Try.func150, Try.ntmps150
      go_wp2_with (go_at_call 67; refine (l1In_eq _ hm).mono ?_; rintro e w1 ⟨rfl, ew⟩; replace ew := ew.symm; subst ew)
      go_returns
      exact ⟨ret_bool HF.out.symm, by go_grown⟩
    have hm3 := inB_iff.1 hm
    have tk2 : Hid True := trivial
    have tk3 : Hid True := trivial
    obtain ⟨M, hM⟩ : ∃ M, m - 1 = M := ⟨_, rfl⟩
    go_enter Try.func150, Try.ntmps150
    go_wp2_with (go_at_call 67; refine (l1In_eq _ hm).mono ?_; rintro e w1 ⟨rfl, ew⟩; replace ew := ew.symm; subst ew)
    go_loopw [5] (fun i wr => ∃ k : Nat, k ≤ len ∧ i = .int .i64 (k : Int) ∧ Hid (∀ j, j < k → rGood m r j) ∧ Below w.heap.size w wr) (fun i _ => len - (intOf i).toNat)
    case atStart => exact ⟨0, Nat.zero_le _, rfl, fun j hj => by omega, Below.refl _ _⟩
    case round =>
      obtain ⟨k, hk, rfl, HP, hB⟩ := hrel
      by_cases hlt : k < len
      · obtain ⟨kb, off, rfl, _⟩ := HR.out.addr (by omega)
        have RC := HR.out.below hB
        obtain ⟨xd, xf, xn, xe, hx⟩ : ∃ a b c d, r k = ⟨a, b, c, d⟩ := ⟨_, _, _, _, rfl⟩
        obtain ⟨c1, c2, c3, c4⟩ := RC.cell hlt
        rw [hx] at c1 c2 c3 c4
        simp only at c1 c2 c3 c4
        have HX : Hid (r k = ⟨xd, xf, xn, xe⟩) := hx
        have HB : Hid (Below w.heap.size w wr) := hB
        clear hx
        cases hb : rB m xd xf xn xe
        · have HF : Hid (ratesB m len r = false) := ratesB_bad hlt fun H => by have := H.1; rw [HX.out] at this; simp only at this; rw [hb] at this; cases this
          have HBad : Hid (rB m xd xf xn xe = false) := hb
          clear hB RC hb
          cases g1 : inB xd 0 40000 <;> cases g2 : inB xf 1 M <;> cases g3 : inB xn 1 10000000 <;> cases g4 : inB xe 1 10000000
          all_goals first
            | (exfalso; have := HBad.out; unfold rB at this; rw [← inB_from, hM, g1, g2, g3, g4] at this; cases this; done)
            | (go_wp2_with (first | (go_at_call 87; refine (l2Day_eq _ g1).mono ?_; rintro e w1 ⟨rfl, ew⟩; replace ew := ew.symm; subst ew) | (go_at_call 67; have := tk2; refine (l1In_eq _ g2).mono ?_; clear tk2; rintro e w1 ⟨rfl, ew⟩; replace ew := ew.symm; subst ew) | (go_at_call 67; have := tk3; refine (l1In_eq _ g3).mono ?_; clear tk3; rintro e w1 ⟨rfl, ew⟩; replace ew := ew.symm; subst ew) | (go_at_call 67; refine (l1In_eq _ g4).mono ?_; rintro e w1 ⟨rfl, ew⟩; replace ew := ew.symm; subst ew))
               go_returns
               exact ⟨ret_bool HF.out.symm, HB.out.alloc HB.out.size _⟩)
        · have hgg : inB xd 0 40000 = true ∧ inB xf 1 M = true ∧ inB xn 1 10000000 = true ∧ inB xe 1 10000000 = true := by
            unfold rB at hb; rw [← inB_from, hM] at hb; simpa [and_assoc] using hb
          obtain ⟨g1, g2, g3, g4⟩ := hgg
          have HG : Hid (rB m xd xf xn xe = true) := hb
          clear hb
          by_cases hk0 : k = 0
          · subst hk0
            simp only [Nat.zero_mul, Nat.add_zero] at c1 c2 c3 c4
            have HS : Hid (∀ j, j < 0 + 1 → rGood m r j) := good_step HP.out ⟨by rw [HX.out]; exact HG.out, fun h => by omega⟩
            clear hB RC
            go_wp2_with (first | (go_at_call 87; refine (l2Day_eq _ g1).mono ?_; rintro e w1 ⟨rfl, ew⟩; replace ew := ew.symm; subst ew) | (go_at_call 67; have := tk2; refine (l1In_eq _ g2).mono ?_; clear tk2; rintro e w1 ⟨rfl, ew⟩; replace ew := ew.symm; subst ew) | (go_at_call 67; have := tk3; refine (l1In_eq _ g3).mono ?_; clear tk3; rintro e w1 ⟨rfl, ew⟩; replace ew := ew.symm; subst ew) | (go_at_call 67; refine (l1In_eq _ g4).mono ?_; rintro e w1 ⟨rfl, ew⟩; replace ew := ew.symm; subst ew))
            go_quiet (fail)
            go_wp2
            go_roundw
            case rel => exact ⟨0 + 1, by omega, by go_num, HS, bdN (HB.out.alloc HB.out.size _) _⟩
            case measure => simp [intOf]; omega
          · obtain ⟨j, rfl⟩ : ∃ j, k = j + 1 := ⟨k - 1, by omega⟩
            have hj0 : (0 : Int) ≤ (j : Int) := by omega
            have hj1 : (j : Int) < (len : Int) := by omega
            obtain ⟨yd, yf, yn, ye, hy⟩ : ∃ a b c d, r j = ⟨a, b, c, d⟩ := ⟨_, _, _, _, rfl⟩
            obtain ⟨d1, d2, d3, d4⟩ := RC.cell (j := j) (by omega)
            rw [hy] at d1 d2 d3 d4
            simp only at d1 d2 d3 d4
            have HY : Hid (r j = ⟨yd, yf, yn, ye⟩) := hy
            clear hy hB RC
            have ewr : IntKind.i64.wrap (j : Int) = (j : Int) := IntWalk.i64_in _ (by omega)
            have e1 : World.cell? (wr.alloc (.cells #[.int .i64 xd, .int .i64 xf, .int .i64 xn, .int .i64 xe] 144 (0, 0))) ⟨kb, off + j * 4, none⟩ = some (.int .i64 yd) := by simp [World.cell?_alloc_some, d1]
            have e2 : World.cell? (wr.alloc (.cells #[.int .i64 xd, .int .i64 xf, .int .i64 xn, .int .i64 xe] 144 (0, 0))) ⟨kb, off + j * 4 + 1, none⟩ = some (.int .i64 yf) := by simp [World.cell?_alloc_some, d2]
            rcases lt_ways yd yf xd xf with ⟨hc, o1⟩ | ⟨hc, o1, o2⟩ | ⟨hc, o1, o2⟩ | ⟨hc, o1⟩
            · have HF : Hid (ratesB m len r = false) := ratesB_bad hlt fun H => by have := H.2 (by omega); simp only [Nat.add_sub_cancel] at this; rw [HX.out, HY.out] at this; simp only at this; rw [hc] at this; cases this
              have t1 : decide (xd < yd) = true := decide_eq_true o1
              clear hc
              go_wp2_with (first | (go_at_call 87; refine (l2Day_eq _ g1).mono ?_; rintro e w1 ⟨rfl, ew⟩; replace ew := ew.symm; subst ew) | (go_at_call 67; have := tk2; refine (l1In_eq _ g2).mono ?_; clear tk2; rintro e w1 ⟨rfl, ew⟩; replace ew := ew.symm; subst ew) | (go_at_call 67; have := tk3; refine (l1In_eq _ g3).mono ?_; clear tk3; rintro e w1 ⟨rfl, ew⟩; replace ew := ew.symm; subst ew) | (go_at_call 67; refine (l1In_eq _ g4).mono ?_; rintro e w1 ⟨rfl, ew⟩; replace ew := ew.symm; subst ew))
              go_quiet (fail)
              go_wp2
              go_returns
              exact ⟨ret_bool HF.out.symm, bdN (HB.out.alloc HB.out.size _) _⟩
            · have HF : Hid (ratesB m len r = false) := ratesB_bad hlt fun H => by have := H.2 (by omega); simp only [Nat.add_sub_cancel] at this; rw [HX.out, HY.out] at this; simp only at this; rw [hc] at this; cases this
              subst o1
              have t1 : decide (yd < yd) = false := by simp
              have t2 : (yd == yd) = true := by simp
              have t3 : decide (xf ≤ yf) = true := decide_eq_true o2
              clear hc
              go_wp2_with (first | (go_at_call 87; refine (l2Day_eq _ g1).mono ?_; rintro e w1 ⟨rfl, ew⟩; replace ew := ew.symm; subst ew) | (go_at_call 67; have := tk2; refine (l1In_eq _ g2).mono ?_; clear tk2; rintro e w1 ⟨rfl, ew⟩; replace ew := ew.symm; subst ew) | (go_at_call 67; have := tk3; refine (l1In_eq _ g3).mono ?_; clear tk3; rintro e w1 ⟨rfl, ew⟩; replace ew := ew.symm; subst ew) | (go_at_call 67; refine (l1In_eq _ g4).mono ?_; rintro e w1 ⟨rfl, ew⟩; replace ew := ew.symm; subst ew))
              go_quiet (fail)
              go_wp2
              go_returns
              exact ⟨ret_bool HF.out.symm, bdN (HB.out.alloc HB.out.size _) _⟩
            · have HS : Hid (∀ i, i < j + 1 + 1 → rGood m r i) := good_step HP.out ⟨by rw [HX.out]; exact HG.out, fun _ => by simp only [Nat.add_sub_cancel]; rw [HX.out, HY.out]; exact hc⟩
              subst o1
              have t1 : decide (yd < yd) = false := by simp
              have t2 : (yd == yd) = true := by simp
              have t3 : decide (xf ≤ yf) = false := decide_eq_false (by omega)
              clear hc
              go_wp2_with (first | (go_at_call 87; refine (l2Day_eq _ g1).mono ?_; rintro e w1 ⟨rfl, ew⟩; replace ew := ew.symm; subst ew) | (go_at_call 67; have := tk2; refine (l1In_eq _ g2).mono ?_; clear tk2; rintro e w1 ⟨rfl, ew⟩; replace ew := ew.symm; subst ew) | (go_at_call 67; have := tk3; refine (l1In_eq _ g3).mono ?_; clear tk3; rintro e w1 ⟨rfl, ew⟩; replace ew := ew.symm; subst ew) | (go_at_call 67; refine (l1In_eq _ g4).mono ?_; rintro e w1 ⟨rfl, ew⟩; replace ew := ew.symm; subst ew))
              go_quiet (fail)
              go_wp2
              go_roundw
              case rel => exact ⟨j + 1 + 1, by omega, by go_num, HS, bdN (HB.out.alloc HB.out.size _) _⟩
              case measure => simp [intOf]; omega
            · have HS : Hid (∀ i, i < j + 1 + 1 → rGood m r i) := good_step HP.out ⟨by rw [HX.out]; exact HG.out, fun _ => by simp only [Nat.add_sub_cancel]; rw [HX.out, HY.out]; exact hc⟩
              have t1 : decide (xd < yd) = false := decide_eq_false (by omega)
              have t2 : (yd == xd) = false := by simp; omega
              clear hc
              go_wp2_with (first | (go_at_call 87; refine (l2Day_eq _ g1).mono ?_; rintro e w1 ⟨rfl, ew⟩; replace ew := ew.symm; subst ew) | (go_at_call 67; have := tk2; refine (l1In_eq _ g2).mono ?_; clear tk2; rintro e w1 ⟨rfl, ew⟩; replace ew := ew.symm; subst ew) | (go_at_call 67; have := tk3; refine (l1In_eq _ g3).mono ?_; clear tk3; rintro e w1 ⟨rfl, ew⟩; replace ew := ew.symm; subst ew) | (go_at_call 67; refine (l1In_eq _ g4).mono ?_; rintro e w1 ⟨rfl, ew⟩; replace ew := ew.symm; subst ew))
              go_quiet (fail)
              go_wp2
              go_roundw
              case rel => exact ⟨j + 1 + 1, by omega, by go_num, HS, bdN (HB.out.alloc HB.out.size _) _⟩
              case measure => simp [intOf]; omega
      · obtain rfl : k = len := by omega
        have HF : Hid (ratesB m k r = true) := ratesB_t ⟨hm, h4, HP.out⟩
        have HB : Hid (Below w.heap.size w wr) := hB
        clear hB
        go_wp2
        go_returns
        exact ⟨ret_bool HF.out.symm, HB.out⟩
  · have HF : Hid (ratesB m len r = false) := ratesB_f fun H => h4 H.2.1
    have h5 : (400 : Int) < (len : Int) := by omega
    go_enter Try.func150, Try.ntmps150
    go_wp2_with (go_at_call 67; refine (l1In_any _ _ _ _).mono ?_; rintro e w1 ⟨rfl, ew⟩; replace ew := ew.symm; subst ew)
    go_returns
    exact ⟨ret_bool HF.out.symm, by go_grown⟩
end Go.Proofs.Ytghphlnpginmhaa.Rt
