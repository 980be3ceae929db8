/- AddWork, in the program and in the model: at every calendar and every two numbers what 'addW' says. -/
import Derived.Test.YtadjdpoplaknkaaNd
namespace Go.Proofs.Ytadjdpoplaknkaa
open Go.ChangeShapes Go.WideShapes Go.ChangeAt Go.RowKit
set_option linter.unusedVariables false
set_option linter.unusedSimpArgs false

noncomputable def addW (off : Int) (len : Nat) (z : Nat → Int) (day n : Int) : Int :=
  if calB off len z = true ∧ (0 ≤ day ∧ day ≤ 40000) ∧ (-2000 ≤ n ∧ n ≤ 2000) then
    (if 0 < n then pick (wl (workB off len z) 1 (far 1 (day + 1)) (day + 1)) n
     else if n < 0 then pick (wl (workB off len z) (-1) (far (-1) (day - 1)) (day - 1)) (-n)
     else pick (wl (workB off len z) 1 (far 1 day) day) 1) else -1

theorem addW_no {off : Int} {len : Nat} {z : Nat → Int} {day n : Int} (h : ¬ (calB off len z = true ∧ (0 ≤ day ∧ day ≤ 40000) ∧ (-2000 ≤ n ∧ n ≤ 2000))) : addW off len z day n = -1 := if_neg h
theorem addW_up {off : Int} {len : Nat} {z : Nat → Int} {day n : Int} (h : calB off len z = true ∧ (0 ≤ day ∧ day ≤ 40000) ∧ (-2000 ≤ n ∧ n ≤ 2000)) (h1 : 0 < n) : addW off len z day n = pick (wl (workB off len z) 1 (far 1 (day + 1)) (day + 1)) n := by
  unfold addW; rw [if_pos h, if_pos h1]
theorem addW_down {off : Int} {len : Nat} {z : Nat → Int} {day n : Int} (h : calB off len z = true ∧ (0 ≤ day ∧ day ≤ 40000) ∧ (-2000 ≤ n ∧ n ≤ 2000)) (h1 : n < 0) : addW off len z day n = pick (wl (workB off len z) (-1) (far (-1) (day - 1)) (day - 1)) (-n) := by
  unfold addW; rw [if_pos h, if_neg (by omega), if_pos h1]
theorem addW_zero {off : Int} {len : Nat} {z : Nat → Int} {day : Int} (h : calB off len z = true ∧ (0 ≤ day ∧ day ≤ 40000) ∧ (-2000 ≤ (0 : Int) ∧ (0 : Int) ≤ 2000)) : addW off len z day 0 = pick (wl (workB off len z) 1 (far 1 day) day) 1 := by
  unfold addW; rw [if_pos h, if_neg (by omega), if_neg (by omega)]

set_option maxHeartbeats 4000000 in
theorem implAdd_any (off : Int) (ad : Option Addr) (len cap : Nat) (z : Nat → Int) (day n : Int) (w : World) (h : (len : Int) ≤ 1048576) (hr : IR w ad len z) :
    Calls Try.prog 13 #[.agg #[.int .i64 off, .slice ad len cap], .int .i64 day, .int .i64 n] w fun e w' => e = .returned (.int .i64 (addW off len z day n)) ∧ Below w.heap.size w w' := by
  have HR : Hid (IR w ad len z) := hr
  clear hr
  rcases hc : calB off len z
  · rw [addW_no (by simp [hc])]
    go_enter Try.func13, Try.ntmps13
    go_wp2_with (go_at_call 21; refine (implCal_eq _ _ _ _ _ z _ h (HR.out.alloc _) hc).mono ?_; rintro e w1 ⟨rfl, b1⟩; have X1 : CB w1 w.heap.size #[.int .i64 off, .slice ad len cap] 26 := (CB.new _ _).below b1 (by simp); replace b1 := bel_on ((Below.refl _ _).alloc (Nat.le_refl _) _) b1; have x0 := X1.cell 0; have x1 := X1.cell 1; simp at x0 x1)
    go_returns
    exact ⟨rfl, b1⟩
  · obtain ⟨o1, o2, l4, hA⟩ := cal_parts hc
    have HA : Hid (Asc len z) := hA
    clear hA
    by_cases hd : 0 ≤ day ∧ day ≤ 40000
    · have dd := dayB_t hd
      by_cases hn : -2000 ≤ n ∧ n ≤ 2000
      · have hall := And.intro hc (And.intro hd hn)
        obtain ⟨d0, d1⟩ := hd
        obtain ⟨n0, n1⟩ := hn
        by_cases h1 : 0 < n
        · rw [addW_up hall h1]
          clear hall
          go_enter Try.func13, Try.ntmps13
          go_wp2_with (first
            | (go_at_call 21; refine (implCal_eq _ _ _ _ _ z _ h (HR.out.alloc _) hc).mono ?_; rintro e w1 ⟨rfl, b1⟩; have X1 : CB w1 w.heap.size #[.int .i64 off, .slice ad len cap] 26 := (CB.new _ _).below b1 (by simp); replace b1 := bel_on ((Below.refl _ _).alloc (Nat.le_refl _) _) b1; have x0 := X1.cell 0; have x1 := X1.cell 1; simp at x0 x1)
            | (go_at_call 36; refine (isDay_eq _ _ _ (by assumption)).mono ?_; rintro e w' ⟨rfl, ew⟩; replace ew := ew.symm; subst ew)
            | (go_at_call 39; refine (workDays_any _ _ _ _ _ _ _).mono ?_; rintro e w2 ⟨rfl, rfl⟩)
            | (go_at_call 38; refine (nthDay_any (w1.heap.size + 1) (w1.heap.size + 1 + 1) w1.heap.size (day + 1) (1) (n) off ad len cap z _ (by omega) (by omega) (by omega) o1 o2 h HA.out (by omega) (by omega) ((CB.newAt (by simp) _ _).alloc _) (CB.newAt (by simp) _ _) (((CB.new _ _).alloc _).alloc _) (((HR.out.below b1).alloc _).alloc _ |>.alloc _)).mono ?_; rintro e w3 ⟨rfl, b3⟩; replace b3 := bel_on ((((b1.alloc b1.size _).alloc (by have := b1.size; simp; omega) _).alloc (by have := b1.size; simp; omega) _)) b3))
          go_returns
          exact ⟨rfl, b3⟩
        · by_cases h2 : n < 0
          · rw [addW_down hall h2]
            clear hall h1
            go_enter Try.func13, Try.ntmps13
            go_wp2_with (first
              | (go_at_call 21; refine (implCal_eq _ _ _ _ _ z _ h (HR.out.alloc _) hc).mono ?_; rintro e w1 ⟨rfl, b1⟩; have X1 : CB w1 w.heap.size #[.int .i64 off, .slice ad len cap] 26 := (CB.new _ _).below b1 (by simp); replace b1 := bel_on ((Below.refl _ _).alloc (Nat.le_refl _) _) b1; have x0 := X1.cell 0; have x1 := X1.cell 1; simp at x0 x1)
              | (go_at_call 36; refine (isDay_eq _ _ _ (by assumption)).mono ?_; rintro e w' ⟨rfl, ew⟩; replace ew := ew.symm; subst ew)
              | (go_at_call 39; refine (workDays_any _ _ _ _ _ _ _).mono ?_; rintro e w2 ⟨rfl, rfl⟩)
              | (go_at_call 38; refine (nthDay_any (w1.heap.size + 1) (w1.heap.size + 1 + 1) w1.heap.size (day - 1) (-1) (-n) off ad len cap z _ (by omega) (by omega) (by omega) o1 o2 h HA.out (by omega) (by omega) ((CB.newAt (by simp) _ _).alloc _) (CB.newAt (by simp) _ _) (((CB.new _ _).alloc _).alloc _) (((HR.out.below b1).alloc _).alloc _ |>.alloc _)).mono ?_; rintro e w3 ⟨rfl, b3⟩; replace b3 := bel_on ((((b1.alloc b1.size _).alloc (by have := b1.size; simp; omega) _).alloc (by have := b1.size; simp; omega) _)) b3))
            go_returns
            exact ⟨rfl, b3⟩
          · obtain rfl : n = 0 := by omega
            rw [addW_zero hall]
            clear hall h1 h2
            go_enter Try.func13, Try.ntmps13
            go_wp2_with (first
              | (go_at_call 21; refine (implCal_eq _ _ _ _ _ z _ h (HR.out.alloc _) hc).mono ?_; rintro e w1 ⟨rfl, b1⟩; have X1 : CB w1 w.heap.size #[.int .i64 off, .slice ad len cap] 26 := (CB.new _ _).below b1 (by simp); replace b1 := bel_on ((Below.refl _ _).alloc (Nat.le_refl _) _) b1; have x0 := X1.cell 0; have x1 := X1.cell 1; simp at x0 x1)
              | (go_at_call 36; refine (isDay_eq _ _ _ (by assumption)).mono ?_; rintro e w' ⟨rfl, ew⟩; replace ew := ew.symm; subst ew)
              | (go_at_call 39; refine (workDays_any _ _ _ _ _ _ _).mono ?_; rintro e w2 ⟨rfl, rfl⟩)
              | (go_at_call 38; refine (nthDay_any (w1.heap.size + 1) (w1.heap.size + 1 + 1) w1.heap.size (day) (1) (1) off ad len cap z _ (by omega) (by omega) (by omega) o1 o2 h HA.out (by omega) (by omega) ((CB.newAt (by simp) _ _).alloc _) (CB.newAt (by simp) _ _) (((CB.new _ _).alloc _).alloc _) (((HR.out.below b1).alloc _).alloc _ |>.alloc _)).mono ?_; rintro e w3 ⟨rfl, b3⟩; replace b3 := bel_on ((((b1.alloc b1.size _).alloc (by have := b1.size; simp; omega) _).alloc (by have := b1.size; simp; omega) _)) b3))
            go_returns
            exact ⟨rfl, b3⟩
      · rw [addW_no (fun g => hn g.2.2)]
        by_cases h1 : n < -2000
        · clear hn
          go_enter Try.func13, Try.ntmps13
          go_wp2_with (first
            | (go_at_call 21; refine (implCal_eq _ _ _ _ _ z _ h (HR.out.alloc _) hc).mono ?_; rintro e w1 ⟨rfl, b1⟩; have X1 : CB w1 w.heap.size #[.int .i64 off, .slice ad len cap] 26 := (CB.new _ _).below b1 (by simp); replace b1 := bel_on ((Below.refl _ _).alloc (Nat.le_refl _) _) b1; have x0 := X1.cell 0; have x1 := X1.cell 1; simp at x0 x1)
            | (go_at_call 36; refine (isDay_eq _ _ _ (by assumption)).mono ?_; rintro e w' ⟨rfl, ew⟩; replace ew := ew.symm; subst ew))
          go_returns
          exact ⟨rfl, b1⟩
        · have h2 : 2000 < n := by omega
          clear hn h1
          go_enter Try.func13, Try.ntmps13
          go_wp2_with (first
            | (go_at_call 21; refine (implCal_eq _ _ _ _ _ z _ h (HR.out.alloc _) hc).mono ?_; rintro e w1 ⟨rfl, b1⟩; have X1 : CB w1 w.heap.size #[.int .i64 off, .slice ad len cap] 26 := (CB.new _ _).below b1 (by simp); replace b1 := bel_on ((Below.refl _ _).alloc (Nat.le_refl _) _) b1; have x0 := X1.cell 0; have x1 := X1.cell 1; simp at x0 x1)
            | (go_at_call 36; refine (isDay_eq _ _ _ (by assumption)).mono ?_; rintro e w' ⟨rfl, ew⟩; replace ew := ew.symm; subst ew))
          go_returns
          exact ⟨rfl, b1⟩
    · have dd := dayB_f hd
      rw [addW_no (fun g => hd g.2.1)]
      clear hd
      go_enter Try.func13, Try.ntmps13
      go_wp2_with (first
        | (go_at_call 21; refine (implCal_eq _ _ _ _ _ z _ h (HR.out.alloc _) hc).mono ?_; rintro e w1 ⟨rfl, b1⟩; have X1 : CB w1 w.heap.size #[.int .i64 off, .slice ad len cap] 26 := (CB.new _ _).below b1 (by simp); replace b1 := bel_on ((Below.refl _ _).alloc (Nat.le_refl _) _) b1; have x0 := X1.cell 0; have x1 := X1.cell 1; simp at x0 x1)
        | (go_at_call 36; refine (isDay_eq _ _ _ (by assumption)).mono ?_; rintro e w' ⟨rfl, ew⟩; replace ew := ew.symm; subst ew))
      go_returns
      exact ⟨rfl, b1⟩

end Go.Proofs.Ytadjdpoplaknkaa
