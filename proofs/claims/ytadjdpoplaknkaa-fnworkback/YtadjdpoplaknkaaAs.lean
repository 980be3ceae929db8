/- AddWork of the model. -/
import Derived.Test.YtadjdpoplaknkaaAw
namespace Go.Proofs.Ytadjdpoplaknkaa
open Go.ChangeShapes Go.WideShapes Go.ChangeAt Go.RowKit
set_option linter.unusedVariables false
set_option linter.unusedSimpArgs false

theorem pick_nil (n : Int) : pick [] n = -1 := by simp [pick]
theorem pick_one (x : Int) (xs : List Int) : pick (x :: xs) 1 = x := by simp [pick]
theorem pick_more (x : Int) (xs : List Int) {n : Int} (h : 2 ≤ n) : pick (x :: xs) n = pick xs (n - 1) := by
  unfold pick
  rw [show (n - 1).toNat = (n - 1 - 1).toNat + 1 by omega, List.getElem?_cons_succ]

/-- What is left to find: m more from behind d on, by steps of s; with none more it is d. -/
noncomputable def left (wd : Int → Bool) (s d m : Int) : Int := if m = 0 then d else pick (wl wd s (far s (d + s)) (d + s)) m

theorem left_out (wd : Int → Bool) {s d m : Int} (hm : 1 ≤ m) (h : ¬ (0 ≤ d + s ∧ d + s ≤ 40000)) : left wd s d m = -1 := by
  unfold left; rw [if_neg (by omega), wl_end _ _ _ h, pick_nil]
theorem left_free (wd : Int → Bool) {s d m : Int} (hs : s = 1 ∨ s = -1) (hm : 1 ≤ m) (h : 0 ≤ d + s ∧ d + s ≤ 40000) (hw : wd (d + s) = false) : left wd s d m = left wd s (d + s) m := by
  unfold left; rw [if_neg (by omega), if_neg (by omega), wl_free wd hs h hw]
theorem left_work (wd : Int → Bool) {s d m : Int} (hs : s = 1 ∨ s = -1) (hm : 1 ≤ m) (h : 0 ≤ d + s ∧ d + s ≤ 40000) (hw : wd (d + s) = true) : left wd s d m = left wd s (d + s) (m - 1) := by
  unfold left; rw [if_neg (by omega), wl_work wd hs h hw]
  by_cases g : m = 1
  · subst g; rw [pick_one, if_pos (by omega)]
  · rw [pick_more _ _ (by omega), if_neg (by omega)]

set_option maxHeartbeats 4000000 in
theorem specAdd_up (off : Int) (ad : Option Addr) (len cap : Nat) (z : Nat → Int) (day n : Int) (w : World) (h : (len : Int) ≤ 1048576) (hr : IR w ad len z) (hc : calB off len z = true) (d0 : 0 ≤ day) (d1 : day ≤ 40000) (n0 : -2000 ≤ n) (n1 : n ≤ 2000) (hcond : 0 < n) :
    Calls Try.prog 14 #[.agg #[.int .i64 off, .slice ad len cap], .int .i64 day, .int .i64 n] w fun e w' => e = .returned (.int .i64 (addW off len z day n)) ∧ Below w.heap.size w w' := by
  have HR : Hid (IR w ad len z) := hr
  obtain ⟨o1, o2, l4, _⟩ := cal_parts hc
  have da := dayB_t ⟨d0, d1⟩
  have i1 := inB_t ⟨n0, n1⟩
  obtain ⟨V, hV⟩ : ∃ V, addW off len z day n = V := ⟨_, rfl⟩
  have HV : Hid (V = left (workB off len z) (1) (day) (n)) := by
    unfold Hid left; rw [← hV, addW_up ⟨hc, ⟨d0, d1⟩, n0, n1⟩ hcond, if_neg (by omega)]; skip
  rw [hV]
  clear hV hr
  have t1 : decide (n < 0) = false := decide_eq_false (by omega)
  have t2 : (n == 0) = false := by simpa using (by omega : ¬ n = 0)
  go_enter Try.func14, Try.ntmps14
  go_wp2_with (first
    | (go_at_call 19; refine (specCal_eq _ _ _ _ _ z _ h (HR.out.alloc _) hc).mono ?_; rintro e w1 ⟨rfl, b1⟩; have X1 : CB w1 w.heap.size #[.int .i64 off, .slice ad len cap] 26 := (CB.new _ _).below b1 (by simp); replace b1 := bel_on ((Below.refl _ _).alloc (Nat.le_refl _) _) b1)
    | (go_at_call 40; refine (l2Day_eq _ _ _ (by assumption)).mono ?_; rintro e w' ⟨rfl, ew⟩; replace ew := ew.symm; subst ew)
    | (go_at_call 41; refine (l1In_eq _ _ _ _ _ (by assumption)).mono ?_; rintro e w' ⟨rfl, ew⟩; replace ew := ew.symm; subst ew))
  have HX1 : Hid (CB w1 w.heap.size #[.int .i64 off, .slice ad len cap] 26) := X1
  have HB1 : Hid (Below w.heap.size w w1) := b1
  clear X1 b1
  go_loopw [1, 2] (fun d c wr => ∃ (D0 M0 : Int), d = .int .i64 D0 ∧ c = .int .i64 M0 ∧ -1 ≤ D0 ∧ D0 ≤ 40001 ∧ 0 ≤ M0 ∧ M0 ≤ 2000 ∧ Hid (V = left (workB off len z) (1) D0 M0) ∧ CB wr w.heap.size #[.int .i64 off, .slice ad len cap] 26 ∧ Below w.heap.size w wr) (fun d _ _ => far (1) (intOf d + (1)))
  case atStart => exact ⟨_, _, rfl, rfl, by omega, by omega, by omega, by omega, HV, HX1.out, HB1.out⟩
  case round =>
    obtain ⟨D0, M0, rfl, rfl, q1, q2, q3, q4, hL, hX, hB⟩ := hrel
    have HX : Hid (CB wr w.heap.size #[.int .i64 off, .slice ad len cap] 26) := hX
    have HB : Hid (Below w.heap.size w wr) := hB
    have x0 := hX.cell 0
    have x1 := hX.cell 1
    simp at x0 x1
    clear hX hB
    by_cases hM : 0 < M0
    · by_cases hd : 0 ≤ D0 + (1) ∧ D0 + (1) ≤ 40000
      · have db := dayB_t hd
        have hfar := far_step (s := 1) (by omega) hd
        rcases hw : workB off len z (D0 + (1))
        · have hL2 : Hid (V = left (workB off len z) (1) (D0 + (1)) M0) := by unfold Hid; rw [hL.out, left_free _ (by omega) (by omega) hd hw]
          go_wp2_with (first
            | (go_at_call 40; refine (l2Day_eq _ _ _ (by assumption)).mono ?_; rintro e w' ⟨rfl, ew⟩; replace ew := ew.symm; subst ew)
            | (go_at_call 42; refine (l2Work_any _ _ _ _ z _ _ o1 o2 h (HR.out.below HB.out) (by omega) (by omega)).mono ?_; rintro e w2 ⟨rfl, b2⟩; rw [hw]; have X2 := HX.out.below b2 HX.out.lt; replace b2 := bel_on HB.out b2))
          go_roundw
          case rel => exact ⟨D0 + (1), M0, by go_num, rfl, by omega, by omega, by omega, by omega, hL2, X2, b2⟩
          case measure => simp only [intOf]; omega
        · have hL2 : Hid (V = left (workB off len z) (1) (D0 + (1)) (M0 - 1)) := by unfold Hid; rw [hL.out, left_work _ (by omega) (by omega) hd hw]
          go_wp2_with (first
            | (go_at_call 40; refine (l2Day_eq _ _ _ (by assumption)).mono ?_; rintro e w' ⟨rfl, ew⟩; replace ew := ew.symm; subst ew)
            | (go_at_call 42; refine (l2Work_any _ _ _ _ z _ _ o1 o2 h (HR.out.below HB.out) (by omega) (by omega)).mono ?_; rintro e w2 ⟨rfl, b2⟩; rw [hw]; have X2 := HX.out.below b2 HX.out.lt; replace b2 := bel_on HB.out b2))
          go_roundw
          case rel => exact ⟨D0 + (1), M0 - 1, by go_num, by go_num, by omega, by omega, by omega, by omega, hL2, X2, b2⟩
          case measure => simp only [intOf]; omega
      · have db := dayB_f hd
        have HF : Hid (V = -1) := by unfold Hid; rw [hL.out, left_out _ (by omega) hd]
        clear hd
        go_wp2_with (first
            | (go_at_call 40; refine (l2Day_eq _ _ _ (by assumption)).mono ?_; rintro e w' ⟨rfl, ew⟩; replace ew := ew.symm; subst ew))
        go_returns
        exact ⟨ret_int HF.out.symm, HB.out⟩
    · have HF : Hid (V = D0) := by unfold Hid; rw [hL.out]; unfold left; rw [if_pos (by omega)]
      go_wp2
      go_returns
      exact ⟨ret_int HF.out.symm, HB.out⟩

set_option maxHeartbeats 4000000 in
theorem specAdd_down (off : Int) (ad : Option Addr) (len cap : Nat) (z : Nat → Int) (day n : Int) (w : World) (h : (len : Int) ≤ 1048576) (hr : IR w ad len z) (hc : calB off len z = true) (d0 : 0 ≤ day) (d1 : day ≤ 40000) (n0 : -2000 ≤ n) (n1 : n ≤ 2000) (hcond : n < 0) :
    Calls Try.prog 14 #[.agg #[.int .i64 off, .slice ad len cap], .int .i64 day, .int .i64 n] w fun e w' => e = .returned (.int .i64 (addW off len z day n)) ∧ Below w.heap.size w w' := by
  have HR : Hid (IR w ad len z) := hr
  obtain ⟨o1, o2, l4, _⟩ := cal_parts hc
  have da := dayB_t ⟨d0, d1⟩
  have i1 := inB_t ⟨n0, n1⟩
  obtain ⟨V, hV⟩ : ∃ V, addW off len z day n = V := ⟨_, rfl⟩
  have HV : Hid (V = left (workB off len z) (-1) (day) (-n)) := by
    unfold Hid left; rw [← hV, addW_down ⟨hc, ⟨d0, d1⟩, n0, n1⟩ hcond, if_neg (by omega)]; rfl
  rw [hV]
  clear hV hr
  have t1 : decide (n < 0) = true := decide_eq_true (by omega)
  have t2 : (-n == 0) = false := by simpa using (by omega : ¬ n = 0)
  go_enter Try.func14, Try.ntmps14
  go_wp2_with (first
    | (go_at_call 19; refine (specCal_eq _ _ _ _ _ z _ h (HR.out.alloc _) hc).mono ?_; rintro e w1 ⟨rfl, b1⟩; have X1 : CB w1 w.heap.size #[.int .i64 off, .slice ad len cap] 26 := (CB.new _ _).below b1 (by simp); replace b1 := bel_on ((Below.refl _ _).alloc (Nat.le_refl _) _) b1)
    | (go_at_call 40; refine (l2Day_eq _ _ _ (by assumption)).mono ?_; rintro e w' ⟨rfl, ew⟩; replace ew := ew.symm; subst ew)
    | (go_at_call 41; refine (l1In_eq _ _ _ _ _ (by assumption)).mono ?_; rintro e w' ⟨rfl, ew⟩; replace ew := ew.symm; subst ew))
  have HX1 : Hid (CB w1 w.heap.size #[.int .i64 off, .slice ad len cap] 26) := X1
  have HB1 : Hid (Below w.heap.size w w1) := b1
  clear X1 b1
  go_loopw [1, 2] (fun d c wr => ∃ (D0 M0 : Int), d = .int .i64 D0 ∧ c = .int .i64 M0 ∧ -1 ≤ D0 ∧ D0 ≤ 40001 ∧ 0 ≤ M0 ∧ M0 ≤ 2000 ∧ Hid (V = left (workB off len z) (-1) D0 M0) ∧ CB wr w.heap.size #[.int .i64 off, .slice ad len cap] 26 ∧ Below w.heap.size w wr) (fun d _ _ => far (-1) (intOf d + (-1)))
  case atStart => exact ⟨_, _, rfl, rfl, by omega, by omega, by omega, by omega, HV, HX1.out, HB1.out⟩
  case round =>
    obtain ⟨D0, M0, rfl, rfl, q1, q2, q3, q4, hL, hX, hB⟩ := hrel
    have HX : Hid (CB wr w.heap.size #[.int .i64 off, .slice ad len cap] 26) := hX
    have HB : Hid (Below w.heap.size w wr) := hB
    have x0 := hX.cell 0
    have x1 := hX.cell 1
    simp at x0 x1
    clear hX hB
    by_cases hM : 0 < M0
    · by_cases hd : 0 ≤ D0 + (-1) ∧ D0 + (-1) ≤ 40000
      · have db := dayB_t hd
        have hfar := far_step (s := -1) (by omega) hd
        rcases hw : workB off len z (D0 + (-1))
        · have hL2 : Hid (V = left (workB off len z) (-1) (D0 + (-1)) M0) := by unfold Hid; rw [hL.out, left_free _ (by omega) (by omega) hd hw]
          go_wp2_with (first
            | (go_at_call 40; refine (l2Day_eq _ _ _ (by assumption)).mono ?_; rintro e w' ⟨rfl, ew⟩; replace ew := ew.symm; subst ew)
            | (go_at_call 42; refine (l2Work_any _ _ _ _ z _ _ o1 o2 h (HR.out.below HB.out) (by omega) (by omega)).mono ?_; rintro e w2 ⟨rfl, b2⟩; rw [hw]; have X2 := HX.out.below b2 HX.out.lt; replace b2 := bel_on HB.out b2))
          go_roundw
          case rel => exact ⟨D0 + (-1), M0, by go_num, rfl, by omega, by omega, by omega, by omega, hL2, X2, b2⟩
          case measure => simp only [intOf]; omega
        · have hL2 : Hid (V = left (workB off len z) (-1) (D0 + (-1)) (M0 - 1)) := by unfold Hid; rw [hL.out, left_work _ (by omega) (by omega) hd hw]
          go_wp2_with (first
            | (go_at_call 40; refine (l2Day_eq _ _ _ (by assumption)).mono ?_; rintro e w' ⟨rfl, ew⟩; replace ew := ew.symm; subst ew)
            | (go_at_call 42; refine (l2Work_any _ _ _ _ z _ _ o1 o2 h (HR.out.below HB.out) (by omega) (by omega)).mono ?_; rintro e w2 ⟨rfl, b2⟩; rw [hw]; have X2 := HX.out.below b2 HX.out.lt; replace b2 := bel_on HB.out b2))
          go_roundw
          case rel => exact ⟨D0 + (-1), M0 - 1, by go_num, by go_num, by omega, by omega, by omega, by omega, hL2, X2, b2⟩
          case measure => simp only [intOf]; omega
      · have db := dayB_f hd
        have HF : Hid (V = -1) := by unfold Hid; rw [hL.out, left_out _ (by omega) hd]
        clear hd
        go_wp2_with (first
            | (go_at_call 40; refine (l2Day_eq _ _ _ (by assumption)).mono ?_; rintro e w' ⟨rfl, ew⟩; replace ew := ew.symm; subst ew))
        go_returns
        exact ⟨ret_int HF.out.symm, HB.out⟩
    · have HF : Hid (V = D0) := by unfold Hid; rw [hL.out]; unfold left; rw [if_pos (by omega)]
      go_wp2
      go_returns
      exact ⟨ret_int HF.out.symm, HB.out⟩

set_option maxHeartbeats 4000000 in
theorem specAdd_zero (off : Int) (ad : Option Addr) (len cap : Nat) (z : Nat → Int) (day n : Int) (w : World) (h : (len : Int) ≤ 1048576) (hr : IR w ad len z) (hc : calB off len z = true) (d0 : 0 ≤ day) (d1 : day ≤ 40000) (n0 : -2000 ≤ n) (n1 : n ≤ 2000) (hcond : n = 0) :
    Calls Try.prog 14 #[.agg #[.int .i64 off, .slice ad len cap], .int .i64 day, .int .i64 n] w fun e w' => e = .returned (.int .i64 (addW off len z day n)) ∧ Below w.heap.size w w' := by
  have HR : Hid (IR w ad len z) := hr
  obtain ⟨o1, o2, l4, _⟩ := cal_parts hc
  have da := dayB_t ⟨d0, d1⟩
  have i1 := inB_t ⟨n0, n1⟩
  obtain ⟨V, hV⟩ : ∃ V, addW off len z day n = V := ⟨_, rfl⟩
  have HV : Hid (V = left (workB off len z) (1) (day - 1) (1)) := by
    unfold Hid left; rw [← hV, hcond, addW_zero ⟨hc, ⟨d0, d1⟩, by omega, by omega⟩, if_neg (by omega)]; rw [show day - 1 + 1 = day by omega]
  rw [hV]
  clear hV hr
  subst hcond
  go_enter Try.func14, Try.ntmps14
  go_wp2_with (first
    | (go_at_call 19; refine (specCal_eq _ _ _ _ _ z _ h (HR.out.alloc _) hc).mono ?_; rintro e w1 ⟨rfl, b1⟩; have X1 : CB w1 w.heap.size #[.int .i64 off, .slice ad len cap] 26 := (CB.new _ _).below b1 (by simp); replace b1 := bel_on ((Below.refl _ _).alloc (Nat.le_refl _) _) b1)
    | (go_at_call 40; refine (l2Day_eq _ _ _ (by assumption)).mono ?_; rintro e w' ⟨rfl, ew⟩; replace ew := ew.symm; subst ew)
    | (go_at_call 41; refine (l1In_eq _ _ _ _ _ (by assumption)).mono ?_; rintro e w' ⟨rfl, ew⟩; replace ew := ew.symm; subst ew))
  have HX1 : Hid (CB w1 w.heap.size #[.int .i64 off, .slice ad len cap] 26) := X1
  have HB1 : Hid (Below w.heap.size w w1) := b1
  clear X1 b1
  go_loopw [1, 2] (fun d c wr => ∃ (D0 M0 : Int), d = .int .i64 D0 ∧ c = .int .i64 M0 ∧ -1 ≤ D0 ∧ D0 ≤ 40001 ∧ 0 ≤ M0 ∧ M0 ≤ 2000 ∧ Hid (V = left (workB off len z) (1) D0 M0) ∧ CB wr w.heap.size #[.int .i64 off, .slice ad len cap] 26 ∧ Below w.heap.size w wr) (fun d _ _ => far (1) (intOf d + (1)))
  case atStart => exact ⟨_, _, rfl, rfl, by omega, by omega, by omega, by omega, HV, HX1.out, HB1.out⟩
  case round =>
    obtain ⟨D0, M0, rfl, rfl, q1, q2, q3, q4, hL, hX, hB⟩ := hrel
    have HX : Hid (CB wr w.heap.size #[.int .i64 off, .slice ad len cap] 26) := hX
    have HB : Hid (Below w.heap.size w wr) := hB
    have x0 := hX.cell 0
    have x1 := hX.cell 1
    simp at x0 x1
    clear hX hB
    by_cases hM : 0 < M0
    · by_cases hd : 0 ≤ D0 + (1) ∧ D0 + (1) ≤ 40000
      · have db := dayB_t hd
        have hfar := far_step (s := 1) (by omega) hd
        rcases hw : workB off len z (D0 + (1))
        · have hL2 : Hid (V = left (workB off len z) (1) (D0 + (1)) M0) := by unfold Hid; rw [hL.out, left_free _ (by omega) (by omega) hd hw]
          go_wp2_with (first
            | (go_at_call 40; refine (l2Day_eq _ _ _ (by assumption)).mono ?_; rintro e w' ⟨rfl, ew⟩; replace ew := ew.symm; subst ew)
            | (go_at_call 42; refine (l2Work_any _ _ _ _ z _ _ o1 o2 h (HR.out.below HB.out) (by omega) (by omega)).mono ?_; rintro e w2 ⟨rfl, b2⟩; rw [hw]; have X2 := HX.out.below b2 HX.out.lt; replace b2 := bel_on HB.out b2))
          go_roundw
          case rel => exact ⟨D0 + (1), M0, by go_num, rfl, by omega, by omega, by omega, by omega, hL2, X2, b2⟩
          case measure => simp only [intOf]; omega
        · have hL2 : Hid (V = left (workB off len z) (1) (D0 + (1)) (M0 - 1)) := by unfold Hid; rw [hL.out, left_work _ (by omega) (by omega) hd hw]
          go_wp2_with (first
            | (go_at_call 40; refine (l2Day_eq _ _ _ (by assumption)).mono ?_; rintro e w' ⟨rfl, ew⟩; replace ew := ew.symm; subst ew)
            | (go_at_call 42; refine (l2Work_any _ _ _ _ z _ _ o1 o2 h (HR.out.below HB.out) (by omega) (by omega)).mono ?_; rintro e w2 ⟨rfl, b2⟩; rw [hw]; have X2 := HX.out.below b2 HX.out.lt; replace b2 := bel_on HB.out b2))
          go_roundw
          case rel => exact ⟨D0 + (1), M0 - 1, by go_num, by go_num, by omega, by omega, by omega, by omega, hL2, X2, b2⟩
          case measure => simp only [intOf]; omega
      · have db := dayB_f hd
        have HF : Hid (V = -1) := by unfold Hid; rw [hL.out, left_out _ (by omega) hd]
        clear hd
        go_wp2_with (first
            | (go_at_call 40; refine (l2Day_eq _ _ _ (by assumption)).mono ?_; rintro e w' ⟨rfl, ew⟩; replace ew := ew.symm; subst ew))
        go_returns
        exact ⟨ret_int HF.out.symm, HB.out⟩
    · have HF : Hid (V = D0) := by unfold Hid; rw [hL.out]; unfold left; rw [if_pos (by omega)]
      go_wp2
      go_returns
      exact ⟨ret_int HF.out.symm, HB.out⟩

theorem specAdd_any (off : Int) (ad : Option Addr) (len cap : Nat) (z : Nat → Int) (day n : Int) (w : World) (h : (len : Int) ≤ 1048576) (hr : IR w ad len z) :
    Calls Try.prog 14 #[.agg #[.int .i64 off, .slice ad len cap], .int .i64 day, .int .i64 n] w fun e w' => e = .returned (.int .i64 (addW off len z day n)) ∧ Below w.heap.size w w' := by
  have HR : Hid (IR w ad len z) := hr
  rcases hc : calB off len z
  · rw [addW_no (by simp [hc])]
    clear hr
    go_enter Try.func14, Try.ntmps14
    go_wp2_with (go_at_call 19; refine (specCal_eq _ _ _ _ _ z _ h (HR.out.alloc _) hc).mono ?_; rintro e w1 ⟨rfl, b1⟩; have X1 : CB w1 w.heap.size #[.int .i64 off, .slice ad len cap] 26 := (CB.new _ _).below b1 (by simp); replace b1 := bel_on ((Below.refl _ _).alloc (Nat.le_refl _) _) b1)
    go_returns
    exact ⟨rfl, b1⟩
  · by_cases hd : 0 ≤ day ∧ day ≤ 40000
    · have da := dayB_t hd
      by_cases hn : -2000 ≤ n ∧ n ≤ 2000
      · rcases (by omega : 0 < n ∨ n < 0 ∨ n = 0) with g | g | g
        · exact specAdd_up off ad len cap z day n w h hr hc hd.1 hd.2 hn.1 hn.2 g
        · exact specAdd_down off ad len cap z day n w h hr hc hd.1 hd.2 hn.1 hn.2 g
        · exact specAdd_zero off ad len cap z day n w h hr hc hd.1 hd.2 hn.1 hn.2 g
      · rw [addW_no (fun g => hn g.2.2)]
        have i1 := inB_f hn
        clear hr hn
        go_enter Try.func14, Try.ntmps14
        go_wp2_with (first
          | (go_at_call 19; refine (specCal_eq _ _ _ _ _ z _ h (HR.out.alloc _) hc).mono ?_; rintro e w1 ⟨rfl, b1⟩; have X1 : CB w1 w.heap.size #[.int .i64 off, .slice ad len cap] 26 := (CB.new _ _).below b1 (by simp); replace b1 := bel_on ((Below.refl _ _).alloc (Nat.le_refl _) _) b1)
          | (go_at_call 40; refine (l2Day_eq _ _ _ (by assumption)).mono ?_; rintro e w' ⟨rfl, ew⟩; replace ew := ew.symm; subst ew)
          | (go_at_call 41; refine (l1In_eq _ _ _ _ _ (by assumption)).mono ?_; rintro e w' ⟨rfl, ew⟩; replace ew := ew.symm; subst ew))
        go_returns
        exact ⟨rfl, b1⟩
    · rw [addW_no (fun g => hd g.2.1)]
      have da := dayB_f hd
      clear hr hd
      go_enter Try.func14, Try.ntmps14
      go_wp2_with (first
          | (go_at_call 19; refine (specCal_eq _ _ _ _ _ z _ h (HR.out.alloc _) hc).mono ?_; rintro e w1 ⟨rfl, b1⟩; have X1 : CB w1 w.heap.size #[.int .i64 off, .slice ad len cap] 26 := (CB.new _ _).below b1 (by simp); replace b1 := bel_on ((Below.refl _ _).alloc (Nat.le_refl _) _) b1)
          | (go_at_call 40; refine (l2Day_eq _ _ _ (by assumption)).mono ?_; rintro e w' ⟨rfl, ew⟩; replace ew := ew.symm; subst ew)
          | (go_at_call 41; refine (l1In_eq _ _ _ _ _ (by assumption)).mono ?_; rintro e w' ⟨rfl, ew⟩; replace ew := ew.symm; subst ew))
      go_returns
      exact ⟨rfl, b1⟩

end Go.Proofs.Ytadjdpoplaknkaa
