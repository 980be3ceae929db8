/- CountWork, in the model and in the program: at every calendar and every two numbers what 'cntV' says. -/
import Derived.Test.YtadjdpoplaknkaaCa
namespace Go.Proofs.Ytadjdpoplaknkaa
open Go.ChangeShapes Go.WideShapes Go.ChangeAt Go.RowKit
set_option linter.unusedVariables false
set_option linter.unusedSimpArgs false

set_option maxHeartbeats 2000000 in
theorem specCount_any (off : Int) (ad : Option Addr) (len cap : Nat) (z : Nat → Int) (a b : Int) (w : World) (h : (len : Int) ≤ 1048576) (hr : IR w ad len z) :
    Calls Try.prog 24 #[.agg #[.int .i64 off, .slice ad len cap], .int .i64 a, .int .i64 b] w fun e w' => e = .returned (.int .i64 (cntV off len z a b)) ∧ Below w.heap.size w w' := by
  have HR : Hid (IR w ad len z) := hr
  clear hr
  rcases hc : calB off len z
  · have hv : cntV off len z a b = 0 := by unfold cntV; rw [if_neg (by simp [hc])]
    rw [hv]; clear hv
    go_enter Try.func24, Try.ntmps24
    go_wp2_with (go_at_call 19; refine (specCal_eq _ _ _ _ _ z _ h (HR.out.alloc _) hc).mono ?_; rintro e w1 ⟨rfl, b1⟩)
    go_returns
    exact ⟨rfl, bel_on ((Below.refl _ _).alloc (Nat.le_refl _) _) b1⟩
  · obtain ⟨o1, o2, l4, hA⟩ := cal_parts hc
    have HA : Hid (Asc len z) := hA
    clear hA
    by_cases ha : 0 ≤ a ∧ a ≤ 40000
    · have da := dayB_t ha
      by_cases hb : 0 ≤ b ∧ b ≤ 40000
      · have db := dayB_t hb
        obtain ⟨a0, a1⟩ := ha
        obtain ⟨b0, b1'⟩ := hb
        by_cases hab : b < a
        · have hv : cntV off len z a b = - cnt (workB off len z) (a - b).toNat (b + 1) := by unfold cntV; rw [if_pos ⟨hc, ⟨a0, a1⟩, b0, b1'⟩, if_pos hab]
          rw [hv]; clear hv
          have hbd := cnt_bd (workB off len z) (a - b).toNat (b + 1)
          obtain ⟨C, hC⟩ : ∃ C, cnt (workB off len z) (a - b).toNat (b + 1) = C := ⟨_, rfl⟩
          rw [hC] at hbd ⊢
          have C0 := hbd.1
          have C1 : C ≤ 40000 := by omega
          clear hbd
          go_enter Try.func24, Try.ntmps24
          go_wp2_with (first
            | (go_at_call 19; refine (specCal_eq _ _ _ _ _ z _ h (HR.out.alloc _) hc).mono ?_; rintro e w1 ⟨rfl, b1⟩; have X1 : CB w1 w.heap.size #[.int .i64 off, .slice ad len cap] 26 := (CB.new _ _).below b1 (by simp); replace b1 := bel_on ((Below.refl _ _).alloc (Nat.le_refl _) _) b1; have x0 := X1.cell 0; have x1 := X1.cell 1; simp at x0 x1)
            | (go_at_call 40; refine (l2Day_eq _ _ _ (by assumption)).mono ?_; rintro e w' ⟨rfl, ew⟩; replace ew := ew.symm; subst ew)
            | (go_at_call 24; refine (specCount_up _ _ _ _ z _ _ _ h (HR.out.below b1) hc b0 b1' a0 a1 (by omega)).mono ?_; rintro e w2 ⟨rfl, b2⟩; rw [hC]; replace b2 := bel_on b1 b2))
          go_returns
          exact ⟨rfl, b2⟩
        · have hv : cntV off len z a b = cnt (workB off len z) (b - a).toNat (a + 1) := by unfold cntV; rw [if_pos ⟨hc, ⟨a0, a1⟩, b0, b1'⟩, if_neg hab]
          rw [hv]; clear hv
          have hab2 : a ≤ b := by omega
          exact specCount_up off ad len cap z a b w h HR.out hc a0 a1 b0 b1' hab2
      · have db := dayB_f hb
        have hv : cntV off len z a b = 0 := by unfold cntV; rw [if_neg (fun g => hb g.2.2)]
        rw [hv]; clear hv hb
        go_enter Try.func24, Try.ntmps24
        go_wp2_with (first
          | (go_at_call 19; refine (specCal_eq _ _ _ _ _ z _ h (HR.out.alloc _) hc).mono ?_; rintro e w1 ⟨rfl, b1⟩)
          | (go_at_call 40; refine (l2Day_eq _ _ _ (by assumption)).mono ?_; rintro e w' ⟨rfl, ew⟩; replace ew := ew.symm; subst ew))
        go_returns
        exact ⟨rfl, bel_on ((Below.refl _ _).alloc (Nat.le_refl _) _) b1⟩
    · have da := dayB_f ha
      have hv : cntV off len z a b = 0 := by unfold cntV; rw [if_neg (fun g => ha g.2.1)]
      rw [hv]; clear hv ha
      go_enter Try.func24, Try.ntmps24
      go_wp2_with (first
          | (go_at_call 19; refine (specCal_eq _ _ _ _ _ z _ h (HR.out.alloc _) hc).mono ?_; rintro e w1 ⟨rfl, b1⟩)
          | (go_at_call 40; refine (l2Day_eq _ _ _ (by assumption)).mono ?_; rintro e w' ⟨rfl, ew⟩; replace ew := ew.symm; subst ew))
      go_returns
      exact ⟨rfl, bel_on ((Below.refl _ _).alloc (Nat.le_refl _) _) b1⟩

set_option maxHeartbeats 2000000 in
theorem implCount_any (off : Int) (ad : Option Addr) (len cap : Nat) (z : Nat → Int) (a b : Int) (w : World) (h : (len : Int) ≤ 1048576) (hr : IR w ad len z) :
    Calls Try.prog 15 #[.agg #[.int .i64 off, .slice ad len cap], .int .i64 a, .int .i64 b] w fun e w' => e = .returned (.int .i64 (cntV off len z a b)) ∧ Below w.heap.size w w' := by
  have HR : Hid (IR w ad len z) := hr
  clear hr
  rcases hc : calB off len z
  · have hv : cntV off len z a b = 0 := by unfold cntV; rw [if_neg (by simp [hc])]
    rw [hv]; clear hv
    go_enter Try.func15, Try.ntmps15
    go_wp2_with (go_at_call 21; refine (implCal_eq _ _ _ _ _ z _ h (HR.out.alloc _) hc).mono ?_; rintro e w1 ⟨rfl, b1⟩)
    go_returns
    exact ⟨rfl, bel_on ((Below.refl _ _).alloc (Nat.le_refl _) _) b1⟩
  · obtain ⟨o1, o2, l4, hA⟩ := cal_parts hc
    have HA : Hid (Asc len z) := hA
    clear hA
    by_cases ha : 0 ≤ a ∧ a ≤ 40000
    · have da := dayB_t ha
      by_cases hb : 0 ≤ b ∧ b ≤ 40000
      · have db := dayB_t hb
        obtain ⟨a0, a1⟩ := ha
        obtain ⟨b0, b1'⟩ := hb
        by_cases hab : b < a
        · have hv : cntV off len z a b = - cnt (workB off len z) (a - b).toNat (b + 1) := by unfold cntV; rw [if_pos ⟨hc, ⟨a0, a1⟩, b0, b1'⟩, if_pos hab]
          rw [hv]; clear hv
          have hbd := cnt_bd (workB off len z) (a - b).toNat (b + 1)
          obtain ⟨C, hC⟩ : ∃ C, cnt (workB off len z) (a - b).toNat (b + 1) = C := ⟨_, rfl⟩
          rw [hC] at hbd ⊢
          have C0 := hbd.1
          have C1 : C ≤ 40000 := by omega
          clear hbd
          go_enter Try.func15, Try.ntmps15
          go_wp2_with (first
            | (go_at_call 21; refine (implCal_eq _ _ _ _ _ z _ h (HR.out.alloc _) hc).mono ?_; rintro e w1 ⟨rfl, b1⟩; have X1 : CB w1 w.heap.size #[.int .i64 off, .slice ad len cap] 26 := (CB.new _ _).below b1 (by simp); replace b1 := bel_on ((Below.refl _ _).alloc (Nat.le_refl _) _) b1; have x0 := X1.cell 0; have x1 := X1.cell 1; simp at x0 x1)
            | (go_at_call 36; refine (isDay_eq _ _ _ (by assumption)).mono ?_; rintro e w' ⟨rfl, ew⟩; replace ew := ew.symm; subst ew)
            | (go_at_call 43; refine (countAbove_any _ _ _ _ z _ _ _ o1 o2 h (HR.out.below b1) HA.out b0 b1' a1 (by omega)).mono ?_; rintro e w2 ⟨rfl, b2⟩; rw [hC]; replace b2 := bel_on b1 b2))
          go_returns
          exact ⟨rfl, b2⟩
        · have hv : cntV off len z a b = cnt (workB off len z) (b - a).toNat (a + 1) := by unfold cntV; rw [if_pos ⟨hc, ⟨a0, a1⟩, b0, b1'⟩, if_neg hab]
          rw [hv]; clear hv
          have hab2 : a ≤ b := by omega
          go_enter Try.func15, Try.ntmps15
          go_wp2_with (first
            | (go_at_call 21; refine (implCal_eq _ _ _ _ _ z _ h (HR.out.alloc _) hc).mono ?_; rintro e w1 ⟨rfl, b1⟩; have X1 : CB w1 w.heap.size #[.int .i64 off, .slice ad len cap] 26 := (CB.new _ _).below b1 (by simp); replace b1 := bel_on ((Below.refl _ _).alloc (Nat.le_refl _) _) b1; have x0 := X1.cell 0; have x1 := X1.cell 1; simp at x0 x1)
            | (go_at_call 36; refine (isDay_eq _ _ _ (by assumption)).mono ?_; rintro e w' ⟨rfl, ew⟩; replace ew := ew.symm; subst ew)
            | (go_at_call 43; refine (countAbove_any _ _ _ _ z _ _ _ o1 o2 h (HR.out.below b1) HA.out a0 a1 b1' hab2).mono ?_; rintro e w2 ⟨rfl, b2⟩; replace b2 := bel_on b1 b2))
          go_returns
          exact ⟨rfl, b2⟩
      · have db := dayB_f hb
        have hv : cntV off len z a b = 0 := by unfold cntV; rw [if_neg (fun g => hb g.2.2)]
        rw [hv]; clear hv hb
        go_enter Try.func15, Try.ntmps15
        go_wp2_with (first
          | (go_at_call 21; refine (implCal_eq _ _ _ _ _ z _ h (HR.out.alloc _) hc).mono ?_; rintro e w1 ⟨rfl, b1⟩)
          | (go_at_call 36; refine (isDay_eq _ _ _ (by assumption)).mono ?_; rintro e w' ⟨rfl, ew⟩; replace ew := ew.symm; subst ew))
        go_returns
        exact ⟨rfl, bel_on ((Below.refl _ _).alloc (Nat.le_refl _) _) b1⟩
    · have da := dayB_f ha
      have hv : cntV off len z a b = 0 := by unfold cntV; rw [if_neg (fun g => ha g.2.1)]
      rw [hv]; clear hv ha
      go_enter Try.func15, Try.ntmps15
      go_wp2_with (first
          | (go_at_call 21; refine (implCal_eq _ _ _ _ _ z _ h (HR.out.alloc _) hc).mono ?_; rintro e w1 ⟨rfl, b1⟩)
          | (go_at_call 36; refine (isDay_eq _ _ _ (by assumption)).mono ?_; rintro e w' ⟨rfl, ew⟩; replace ew := ew.symm; subst ew))
      go_returns
      exact ⟨rfl, bel_on ((Below.refl _ _).alloc (Nat.le_refl _) _) b1⟩

end Go.Proofs.Ytadjdpoplaknkaa
