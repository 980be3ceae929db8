/- Work in the program and in the model. -/
import Derived.Test.YtadjdpoplaknkaaWk
namespace Go.Proofs.Ytadjdpoplaknkaa
open Go.ChangeShapes Go.WideShapes Go.ChangeAt Go.RowKit
set_option linter.unusedVariables false
set_option linter.unusedSimpArgs false

theorem cal_parts {off : Int} {len : Nat} {z : Nat → Int} (h : calB off len z = true) : 0 ≤ off ∧ off ≤ 126 ∧ len ≤ 400 ∧ Asc len z := by
  unfold calB at h
  simp only [Bool.and_eq_true, decide_eq_true_eq] at h
  exact ⟨h.1.1.1, h.1.1.2, h.1.2, asc_of h.2⟩

noncomputable def workV (off : Int) (len : Nat) (z : Nat → Int) (day : Int) : Bool := dayB day && calB off len z && workB off len z day

theorem implCal_eq (b : Bool) (off : Int) (ad : Option Addr) (len cap : Nat) (z : Nat → Int) (w : World) (h : (len : Int) ≤ 1048576) (hr : IR w ad len z) (hb : calB off len z = b) :
    Calls Try.prog 21 #[.agg #[.int .i64 off, .slice ad len cap]] w fun e w' => e = .returned (.bool b) ∧ Below w.heap.size w w' := by
  have := implCalOk_any off ad len cap z w h hr
  rwa [hb] at this
theorem specCal_eq (b : Bool) (off : Int) (ad : Option Addr) (len cap : Nat) (z : Nat → Int) (w : World) (h : (len : Int) ≤ 1048576) (hr : IR w ad len z) (hb : calB off len z = b) :
    Calls Try.prog 19 #[.agg #[.int .i64 off, .slice ad len cap]] w fun e w' => e = .returned (.bool b) ∧ Below w.heap.size w w' := by
  have := specCalOk_any off ad len cap z w h hr
  rwa [hb] at this
theorem isDay_eq (d : Int) (b : Bool) (w : World) (h : dayB d = b) : Calls Try.prog 36 #[.int .i64 d] w fun e w' => e = .returned (.bool b) ∧ w' = w := by
  have := isDay_any d w
  rwa [h] at this

set_option maxHeartbeats 1000000 in
theorem implWork_any (off : Int) (ad : Option Addr) (len cap : Nat) (z : Nat → Int) (day : Int) (w : World) (h : (len : Int) ≤ 1048576) (hr : IR w ad len z) :
    Calls Try.prog 12 #[.agg #[.int .i64 off, .slice ad len cap], .int .i64 day] w fun e w' => e = .returned (.bool (workV off len z day)) ∧ Below w.heap.size w w' := by
  have HR : Hid (IR w ad len z) := hr
  clear hr
  by_cases hd : 0 ≤ day ∧ day ≤ 40000
  · have db := dayB_t hd
    obtain ⟨d1, d2⟩ := hd
    rcases hc : calB off len z
    · have hv : workV off len z day = false := by simp [workV, hc]
      rw [hv]; clear hv
      go_enter Try.func12, Try.ntmps12
      go_wp2_with (first
        | (go_at_call 36; refine (isDay_eq _ _ _ db).mono ?_; rintro e w' ⟨rfl, ew⟩; replace ew := ew.symm; subst ew)
        | (go_at_call 21; refine (implCal_eq _ _ _ _ _ z _ h (HR.out.alloc _) hc).mono ?_; rintro e w1 ⟨rfl, b1⟩))
      go_returns
      exact ⟨rfl, bel_on ((Below.refl _ _).alloc (Nat.le_refl _) _) b1⟩
    · obtain ⟨o1, o2, l4, hA⟩ := cal_parts hc
      have hv : workV off len z day = workB off len z day := by simp [workV, hc, db]
      rw [hv]; clear hv
      have HA : Hid (Asc len z) := hA
      clear hA
      go_enter Try.func12, Try.ntmps12
      go_wp2_with (first
        | (go_at_call 36; refine (isDay_eq _ _ _ db).mono ?_; rintro e w' ⟨rfl, ew⟩; replace ew := ew.symm; subst ew)
        | (go_at_call 21; refine (implCal_eq _ _ _ _ _ z _ h (HR.out.alloc _) hc).mono ?_; rintro e w1 ⟨rfl, b1⟩; have X1 : CB w1 w.heap.size #[.int .i64 off, .slice ad len cap] 26 := (CB.new _ _).below b1 (by simp); replace b1 := bel_on ((Below.refl _ _).alloc (Nat.le_refl _) _) b1; have x0 := X1.cell 0; have x1 := X1.cell 1; simp at x0 x1)
        | (go_at_call 37; refine (isFree_any _ _ _ _ z _ _ o1 o2 h (HR.out.below b1) HA.out d1 d2).mono ?_; rintro e w2 ⟨rfl, b2⟩))
      go_returns
      exact ⟨ret_bool (by simp), bel_on b1 b2⟩
  · have db := dayB_f hd
    have hv : workV off len z day = false := by simp [workV, db]
    rw [hv]; clear hv
    go_enter Try.func12, Try.ntmps12
    go_wp2_with (first
        | (go_at_call 36; refine (isDay_eq _ _ _ db).mono ?_; rintro e w' ⟨rfl, ew⟩; replace ew := ew.symm; subst ew))
    go_returns
    exact ⟨rfl, by go_grown⟩

set_option maxHeartbeats 1000000 in
theorem specWork_any (off : Int) (ad : Option Addr) (len cap : Nat) (z : Nat → Int) (day : Int) (w : World) (h : (len : Int) ≤ 1048576) (hr : IR w ad len z) :
    Calls Try.prog 23 #[.agg #[.int .i64 off, .slice ad len cap], .int .i64 day] w fun e w' => e = .returned (.bool (workV off len z day)) ∧ Below w.heap.size w w' := by
  have HR : Hid (IR w ad len z) := hr
  clear hr
  by_cases hd : 0 ≤ day ∧ day ≤ 40000
  · have db := dayB_t hd
    obtain ⟨d1, d2⟩ := hd
    rcases hc : calB off len z
    · have hv : workV off len z day = false := by simp [workV, hc]
      rw [hv]; clear hv
      go_enter Try.func23, Try.ntmps23
      go_wp2_with (first
        | (go_at_call 40; refine (l2Day_eq _ _ _ db).mono ?_; rintro e w' ⟨rfl, ew⟩; replace ew := ew.symm; subst ew)
        | (go_at_call 19; refine (specCal_eq _ _ _ _ _ z _ h (HR.out.alloc _) hc).mono ?_; rintro e w1 ⟨rfl, b1⟩))
      go_returns
      exact ⟨rfl, bel_on ((Below.refl _ _).alloc (Nat.le_refl _) _) b1⟩
    · obtain ⟨o1, o2, l4, hA⟩ := cal_parts hc
      have hv : workV off len z day = workB off len z day := by simp [workV, hc, db]
      rw [hv]; clear hv hA
      go_enter Try.func23, Try.ntmps23
      go_wp2_with (first
        | (go_at_call 40; refine (l2Day_eq _ _ _ db).mono ?_; rintro e w' ⟨rfl, ew⟩; replace ew := ew.symm; subst ew)
        | (go_at_call 19; refine (specCal_eq _ _ _ _ _ z _ h (HR.out.alloc _) hc).mono ?_; rintro e w1 ⟨rfl, b1⟩; have X1 : CB w1 w.heap.size #[.int .i64 off, .slice ad len cap] 26 := (CB.new _ _).below b1 (by simp); replace b1 := bel_on ((Below.refl _ _).alloc (Nat.le_refl _) _) b1; have x0 := X1.cell 0; have x1 := X1.cell 1; simp at x0 x1)
        | (go_at_call 42; refine (l2Work_any _ _ _ _ z _ _ o1 o2 h (HR.out.below b1) d1 d2).mono ?_; rintro e w2 ⟨rfl, b2⟩))
      go_returns
      exact ⟨ret_bool (by simp), bel_on b1 b2⟩
  · have db := dayB_f hd
    have hv : workV off len z day = false := by simp [workV, db]
    rw [hv]; clear hv
    go_enter Try.func23, Try.ntmps23
    go_wp2_with (first
        | (go_at_call 40; refine (l2Day_eq _ _ _ db).mono ?_; rintro e w' ⟨rfl, ew⟩; replace ew := ew.symm; subst ew))
    go_returns
    exact ⟨rfl, by go_grown⟩

end Go.Proofs.Ytadjdpoplaknkaa
