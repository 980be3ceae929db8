/- Parts: one that is right (paB), both sides. -/
import Derived.Test.YtmbdeafpfdeigaaPa
import Derived.Test.YtmbdeafpfdeigaaSm
import Derived.Deep.QuietTactic
namespace Go.Proofs.Ytmbdeafpfdeigaa
open Go.ChangeShapes Go.WideShapes Go.ChangeAt Go.RowKit
set_option linter.unusedVariables false
set_option linter.unusedSimpArgs false

def PA6.val (r : PA6) : Value := .agg #[.int .i64 r.item, .int .i64 r.qty, .int .i64 r.scr, .int .i64 r.fst, .int .i64 r.lst, .int .i64 r.grp]
/-- Of the item at o, among n. -/
def paB (o n : Int) (r : PA6) : Bool := inB r.item (o + 1) (n - 1) && inB r.qty 1 1000000 && inB r.scr 0 100 && inB r.fst 0 40000 && inB r.lst 0 40000 && decide (r.fst ≤ r.lst) && inB r.grp 0 9
theorem paB_p {o n : Int} {r : PA6} (h : paB o n r = true) : (o + 1 ≤ r.item ∧ r.item ≤ n - 1) ∧ (1 ≤ r.qty ∧ r.qty ≤ 1000000) ∧ (0 ≤ r.scr ∧ r.scr ≤ 100) ∧ (0 ≤ r.fst ∧ r.fst ≤ 40000) ∧ (0 ≤ r.lst ∧ r.lst ≤ 40000) ∧ r.fst ≤ r.lst ∧ (0 ≤ r.grp ∧ r.grp ≤ 9) := by
  unfold paB at h
  simp only [Bool.and_eq_true] at h
  exact ⟨inB_t h.1.1.1.1.1.1, inB_t h.1.1.1.1.1.2, inB_t h.1.1.1.1.2, inB_t h.1.1.1.2, inB_t h.1.1.2, of_decide_eq_true h.1.2, inB_t h.2⟩
set_option maxRecDepth 20000 in
set_option maxHeartbeats 4000000 in
theorem paRight_any (r : PA6) (o n : Int) (w : World) (b0 : 0 ≤ o) (b1 : o ≤ 1048576) (b2 : 0 ≤ n) (b3 : n ≤ 1048576) : Calls Try.prog 127 #[r.val, .int .i64 o, .int .i64 n] w fun e w' => e = .returned (.bool (paB o n r)) ∧ Below w.heap.size w w' := by
  obtain ⟨it, qt, sc, fs, la, gr⟩ := r
  unfold PA6.val
  by_cases g0 : it ≤ o
  · have h1 : inB it (o + 1) (n - 1) = false := decide_eq_false (fun H => by omega)
    have HV : Hid (false = paB o n ⟨it, qt, sc, fs, la, gr⟩) := hid (by simp [paB, h1])
    go_enter Try.func127, Try.ntmps127
    go_wp2_with (first | (go_at_call 114; refine (isQtyA_eq _ _ _ h2).mono ?_; rintro e w1 ⟨rfl, ew⟩; replace ew := ew.symm; subst ew) | (go_at_call 146; refine (isHun_eq _ _ _ h3).mono ?_; rintro e w1 ⟨rfl, ew⟩; replace ew := ew.symm; subst ew) | (go_at_call_of 99 fs; refine (isDay_eq _ _ _ h4).mono ?_; rintro e w1 ⟨rfl, ew⟩; replace ew := ew.symm; subst ew) | (go_at_call_of 99 la; refine (isDay_eq _ _ _ h5).mono ?_; rintro e w1 ⟨rfl, ew⟩; replace ew := ew.symm; subst ew))
    go_returns
    exact ⟨ret_bool HV.out, by go_grown⟩
  by_cases g1 : n ≤ it
  · have h1 : inB it (o + 1) (n - 1) = false := decide_eq_false (fun H => by omega)
    have HV : Hid (false = paB o n ⟨it, qt, sc, fs, la, gr⟩) := hid (by simp [paB, h1])
    go_enter Try.func127, Try.ntmps127
    go_wp2_with (first | (go_at_call 114; refine (isQtyA_eq _ _ _ h2).mono ?_; rintro e w1 ⟨rfl, ew⟩; replace ew := ew.symm; subst ew) | (go_at_call 146; refine (isHun_eq _ _ _ h3).mono ?_; rintro e w1 ⟨rfl, ew⟩; replace ew := ew.symm; subst ew) | (go_at_call_of 99 fs; refine (isDay_eq _ _ _ h4).mono ?_; rintro e w1 ⟨rfl, ew⟩; replace ew := ew.symm; subst ew) | (go_at_call_of 99 la; refine (isDay_eq _ _ _ h5).mono ?_; rintro e w1 ⟨rfl, ew⟩; replace ew := ew.symm; subst ew))
    go_returns
    exact ⟨ret_bool HV.out, by go_grown⟩
  have h1 : inB it (o + 1) (n - 1) = true := inB_y (by omega) (by omega)
  cases h2 : inB qt 1 1000000
  · have HV : Hid (false = paB o n ⟨it, qt, sc, fs, la, gr⟩) := hid (by simp [paB, h1, h2])
    go_enter Try.func127, Try.ntmps127
    go_wp2_with (first | (go_at_call 114; refine (isQtyA_eq _ _ _ h2).mono ?_; rintro e w1 ⟨rfl, ew⟩; replace ew := ew.symm; subst ew) | (go_at_call 146; refine (isHun_eq _ _ _ h3).mono ?_; rintro e w1 ⟨rfl, ew⟩; replace ew := ew.symm; subst ew) | (go_at_call_of 99 fs; refine (isDay_eq _ _ _ h4).mono ?_; rintro e w1 ⟨rfl, ew⟩; replace ew := ew.symm; subst ew) | (go_at_call_of 99 la; refine (isDay_eq _ _ _ h5).mono ?_; rintro e w1 ⟨rfl, ew⟩; replace ew := ew.symm; subst ew))
    go_returns
    exact ⟨ret_bool HV.out, by go_grown⟩
  cases h3 : inB sc 0 100
  · have HV : Hid (false = paB o n ⟨it, qt, sc, fs, la, gr⟩) := hid (by simp [paB, h1, h2, h3])
    go_enter Try.func127, Try.ntmps127
    go_wp2_with (first | (go_at_call 114; refine (isQtyA_eq _ _ _ h2).mono ?_; rintro e w1 ⟨rfl, ew⟩; replace ew := ew.symm; subst ew) | (go_at_call 146; refine (isHun_eq _ _ _ h3).mono ?_; rintro e w1 ⟨rfl, ew⟩; replace ew := ew.symm; subst ew) | (go_at_call_of 99 fs; refine (isDay_eq _ _ _ h4).mono ?_; rintro e w1 ⟨rfl, ew⟩; replace ew := ew.symm; subst ew) | (go_at_call_of 99 la; refine (isDay_eq _ _ _ h5).mono ?_; rintro e w1 ⟨rfl, ew⟩; replace ew := ew.symm; subst ew))
    go_returns
    exact ⟨ret_bool HV.out, by go_grown⟩
  cases h4 : inB fs 0 40000
  · have HV : Hid (false = paB o n ⟨it, qt, sc, fs, la, gr⟩) := hid (by simp [paB, h1, h2, h3, h4])
    go_enter Try.func127, Try.ntmps127
    go_wp2_with (first | (go_at_call 114; refine (isQtyA_eq _ _ _ h2).mono ?_; rintro e w1 ⟨rfl, ew⟩; replace ew := ew.symm; subst ew) | (go_at_call 146; refine (isHun_eq _ _ _ h3).mono ?_; rintro e w1 ⟨rfl, ew⟩; replace ew := ew.symm; subst ew) | (go_at_call_of 99 fs; refine (isDay_eq _ _ _ h4).mono ?_; rintro e w1 ⟨rfl, ew⟩; replace ew := ew.symm; subst ew) | (go_at_call_of 99 la; refine (isDay_eq _ _ _ h5).mono ?_; rintro e w1 ⟨rfl, ew⟩; replace ew := ew.symm; subst ew))
    go_returns
    exact ⟨ret_bool HV.out, by go_grown⟩
  cases h5 : inB la 0 40000
  · have HV : Hid (false = paB o n ⟨it, qt, sc, fs, la, gr⟩) := hid (by simp [paB, h1, h2, h3, h4, h5])
    go_enter Try.func127, Try.ntmps127
    go_wp2_with (first | (go_at_call 114; refine (isQtyA_eq _ _ _ h2).mono ?_; rintro e w1 ⟨rfl, ew⟩; replace ew := ew.symm; subst ew) | (go_at_call 146; refine (isHun_eq _ _ _ h3).mono ?_; rintro e w1 ⟨rfl, ew⟩; replace ew := ew.symm; subst ew) | (go_at_call_of 99 fs; refine (isDay_eq _ _ _ h4).mono ?_; rintro e w1 ⟨rfl, ew⟩; replace ew := ew.symm; subst ew) | (go_at_call_of 99 la; refine (isDay_eq _ _ _ h5).mono ?_; rintro e w1 ⟨rfl, ew⟩; replace ew := ew.symm; subst ew))
    go_returns
    exact ⟨ret_bool HV.out, by go_grown⟩
  by_cases g6 : fs ≤ la
  rotate_left
  · have h6 : decide (fs ≤ la) = false := decide_eq_false g6
    have HV : Hid (false = paB o n ⟨it, qt, sc, fs, la, gr⟩) := hid (by simp [paB, h1, h2, h3, h4, h5, g6])
    go_enter Try.func127, Try.ntmps127
    go_wp2_with (first | (go_at_call 114; refine (isQtyA_eq _ _ _ h2).mono ?_; rintro e w1 ⟨rfl, ew⟩; replace ew := ew.symm; subst ew) | (go_at_call 146; refine (isHun_eq _ _ _ h3).mono ?_; rintro e w1 ⟨rfl, ew⟩; replace ew := ew.symm; subst ew) | (go_at_call_of 99 fs; refine (isDay_eq _ _ _ h4).mono ?_; rintro e w1 ⟨rfl, ew⟩; replace ew := ew.symm; subst ew) | (go_at_call_of 99 la; refine (isDay_eq _ _ _ h5).mono ?_; rintro e w1 ⟨rfl, ew⟩; replace ew := ew.symm; subst ew))
    go_returns
    exact ⟨ret_bool HV.out, by go_grown⟩
  have h6 : decide (fs ≤ la) = true := decide_eq_true g6
  by_cases g7 : 0 ≤ gr
  rotate_left
  · have h7 : inB gr 0 9 = false := decide_eq_false (fun H => g7 H.1)
    have HV : Hid (false = paB o n ⟨it, qt, sc, fs, la, gr⟩) := hid (by simp [paB, h1, h2, h3, h4, h5, g6, h7])
    go_enter Try.func127, Try.ntmps127
    go_wp2_with (first | (go_at_call 114; refine (isQtyA_eq _ _ _ h2).mono ?_; rintro e w1 ⟨rfl, ew⟩; replace ew := ew.symm; subst ew) | (go_at_call 146; refine (isHun_eq _ _ _ h3).mono ?_; rintro e w1 ⟨rfl, ew⟩; replace ew := ew.symm; subst ew) | (go_at_call_of 99 fs; refine (isDay_eq _ _ _ h4).mono ?_; rintro e w1 ⟨rfl, ew⟩; replace ew := ew.symm; subst ew) | (go_at_call_of 99 la; refine (isDay_eq _ _ _ h5).mono ?_; rintro e w1 ⟨rfl, ew⟩; replace ew := ew.symm; subst ew))
    go_returns
    exact ⟨ret_bool HV.out, by go_grown⟩
  by_cases g8 : gr ≤ 9
  rotate_left
  · have h7 : inB gr 0 9 = false := decide_eq_false (fun H => g8 H.2)
    have h8 : decide (gr ≤ 9) = false := decide_eq_false g8
    have HV : Hid (false = paB o n ⟨it, qt, sc, fs, la, gr⟩) := hid (by simp [paB, h1, h2, h3, h4, h5, g6, h7])
    go_enter Try.func127, Try.ntmps127
    go_wp2_with (first | (go_at_call 114; refine (isQtyA_eq _ _ _ h2).mono ?_; rintro e w1 ⟨rfl, ew⟩; replace ew := ew.symm; subst ew) | (go_at_call 146; refine (isHun_eq _ _ _ h3).mono ?_; rintro e w1 ⟨rfl, ew⟩; replace ew := ew.symm; subst ew) | (go_at_call_of 99 fs; refine (isDay_eq _ _ _ h4).mono ?_; rintro e w1 ⟨rfl, ew⟩; replace ew := ew.symm; subst ew) | (go_at_call_of 99 la; refine (isDay_eq _ _ _ h5).mono ?_; rintro e w1 ⟨rfl, ew⟩; replace ew := ew.symm; subst ew))
    go_returns
    exact ⟨ret_bool HV.out, by go_grown⟩
  have h7 : inB gr 0 9 = true := inB_y g7 g8
  have h8 : decide (gr ≤ 9) = true := decide_eq_true g8
  have HV : Hid (true = paB o n ⟨it, qt, sc, fs, la, gr⟩) := hid (by simp [paB, h1, h2, h3, h4, h5, g6, h7])
  go_enter Try.func127, Try.ntmps127
  go_wp2_with (first | (go_at_call 114; refine (isQtyA_eq _ _ _ h2).mono ?_; rintro e w1 ⟨rfl, ew⟩; replace ew := ew.symm; subst ew) | (go_at_call 146; refine (isHun_eq _ _ _ h3).mono ?_; rintro e w1 ⟨rfl, ew⟩; replace ew := ew.symm; subst ew) | (go_at_call_of 99 fs; refine (isDay_eq _ _ _ h4).mono ?_; rintro e w1 ⟨rfl, ew⟩; replace ew := ew.symm; subst ew) | (go_at_call_of 99 la; refine (isDay_eq _ _ _ h5).mono ?_; rintro e w1 ⟨rfl, ew⟩; replace ew := ew.symm; subst ew))
  go_returns
  exact ⟨ret_bool HV.out, by go_grown⟩
set_option maxRecDepth 20000 in
set_option maxHeartbeats 4000000 in
theorem l17Part_any (r : PA6) (o n : Int) (w : World) (b0 : 0 ≤ o) (b1 : o ≤ 1048576) (b2 : 0 ≤ n) (b3 : n ≤ 1048576) : Calls Try.prog 71 #[r.val, .int .i64 o, .int .i64 n] w fun e w' => e = .returned (.bool (paB o n r)) ∧ Below w.heap.size w w' := by
  obtain ⟨it, qt, sc, fs, la, gr⟩ := r
  unfold PA6.val
  cases h1 : inB it (o + 1) (n - 1)
  · have HV : Hid (false = paB o n ⟨it, qt, sc, fs, la, gr⟩) := hid (by simp [paB, h1])
    go_enter Try.func71, Try.ntmps71
    go_wp2_with (first | (go_at_call_of 67 it; refine (l1In_eq _ _ _ _ _ h1).mono ?_; rintro e w1 ⟨rfl, ew⟩; replace ew := ew.symm; subst ew) | (go_at_call_of 67 qt; refine (l1In_eq _ _ _ _ _ h2).mono ?_; rintro e w1 ⟨rfl, ew⟩; replace ew := ew.symm; subst ew) | (go_at_call_of 67 sc; refine (l1In_eq _ _ _ _ _ h3).mono ?_; rintro e w1 ⟨rfl, ew⟩; replace ew := ew.symm; subst ew) | (go_at_call_of 106 fs; refine (l2Day_eq _ _ _ h4).mono ?_; rintro e w1 ⟨rfl, ew⟩; replace ew := ew.symm; subst ew) | (go_at_call_of 106 la; refine (l2Day_eq _ _ _ h5).mono ?_; rintro e w1 ⟨rfl, ew⟩; replace ew := ew.symm; subst ew) | (go_at_call_of 67 gr; refine (l1In_eq _ _ _ _ _ h7).mono ?_; rintro e w1 ⟨rfl, ew⟩; replace ew := ew.symm; subst ew))
    go_returns
    exact ⟨ret_bool HV.out, by go_grown⟩
  cases h2 : inB qt 1 1000000
  · have HV : Hid (false = paB o n ⟨it, qt, sc, fs, la, gr⟩) := hid (by simp [paB, h1, h2])
    go_enter Try.func71, Try.ntmps71
    go_wp2_with (first | (go_at_call_of 67 it; refine (l1In_eq _ _ _ _ _ h1).mono ?_; rintro e w1 ⟨rfl, ew⟩; replace ew := ew.symm; subst ew) | (go_at_call_of 67 qt; refine (l1In_eq _ _ _ _ _ h2).mono ?_; rintro e w1 ⟨rfl, ew⟩; replace ew := ew.symm; subst ew) | (go_at_call_of 67 sc; refine (l1In_eq _ _ _ _ _ h3).mono ?_; rintro e w1 ⟨rfl, ew⟩; replace ew := ew.symm; subst ew) | (go_at_call_of 106 fs; refine (l2Day_eq _ _ _ h4).mono ?_; rintro e w1 ⟨rfl, ew⟩; replace ew := ew.symm; subst ew) | (go_at_call_of 106 la; refine (l2Day_eq _ _ _ h5).mono ?_; rintro e w1 ⟨rfl, ew⟩; replace ew := ew.symm; subst ew) | (go_at_call_of 67 gr; refine (l1In_eq _ _ _ _ _ h7).mono ?_; rintro e w1 ⟨rfl, ew⟩; replace ew := ew.symm; subst ew))
    go_returns
    exact ⟨ret_bool HV.out, by go_grown⟩
  cases h3 : inB sc 0 100
  · have HV : Hid (false = paB o n ⟨it, qt, sc, fs, la, gr⟩) := hid (by simp [paB, h1, h2, h3])
    go_enter Try.func71, Try.ntmps71
    go_wp2_with (first | (go_at_call_of 67 it; refine (l1In_eq _ _ _ _ _ h1).mono ?_; rintro e w1 ⟨rfl, ew⟩; replace ew := ew.symm; subst ew) | (go_at_call_of 67 qt; refine (l1In_eq _ _ _ _ _ h2).mono ?_; rintro e w1 ⟨rfl, ew⟩; replace ew := ew.symm; subst ew) | (go_at_call_of 67 sc; refine (l1In_eq _ _ _ _ _ h3).mono ?_; rintro e w1 ⟨rfl, ew⟩; replace ew := ew.symm; subst ew) | (go_at_call_of 106 fs; refine (l2Day_eq _ _ _ h4).mono ?_; rintro e w1 ⟨rfl, ew⟩; replace ew := ew.symm; subst ew) | (go_at_call_of 106 la; refine (l2Day_eq _ _ _ h5).mono ?_; rintro e w1 ⟨rfl, ew⟩; replace ew := ew.symm; subst ew) | (go_at_call_of 67 gr; refine (l1In_eq _ _ _ _ _ h7).mono ?_; rintro e w1 ⟨rfl, ew⟩; replace ew := ew.symm; subst ew))
    go_returns
    exact ⟨ret_bool HV.out, by go_grown⟩
  cases h4 : inB fs 0 40000
  · have HV : Hid (false = paB o n ⟨it, qt, sc, fs, la, gr⟩) := hid (by simp [paB, h1, h2, h3, h4])
    go_enter Try.func71, Try.ntmps71
    go_wp2_with (first | (go_at_call_of 67 it; refine (l1In_eq _ _ _ _ _ h1).mono ?_; rintro e w1 ⟨rfl, ew⟩; replace ew := ew.symm; subst ew) | (go_at_call_of 67 qt; refine (l1In_eq _ _ _ _ _ h2).mono ?_; rintro e w1 ⟨rfl, ew⟩; replace ew := ew.symm; subst ew) | (go_at_call_of 67 sc; refine (l1In_eq _ _ _ _ _ h3).mono ?_; rintro e w1 ⟨rfl, ew⟩; replace ew := ew.symm; subst ew) | (go_at_call_of 106 fs; refine (l2Day_eq _ _ _ h4).mono ?_; rintro e w1 ⟨rfl, ew⟩; replace ew := ew.symm; subst ew) | (go_at_call_of 106 la; refine (l2Day_eq _ _ _ h5).mono ?_; rintro e w1 ⟨rfl, ew⟩; replace ew := ew.symm; subst ew) | (go_at_call_of 67 gr; refine (l1In_eq _ _ _ _ _ h7).mono ?_; rintro e w1 ⟨rfl, ew⟩; replace ew := ew.symm; subst ew))
    go_returns
    exact ⟨ret_bool HV.out, by go_grown⟩
  cases h5 : inB la 0 40000
  · have HV : Hid (false = paB o n ⟨it, qt, sc, fs, la, gr⟩) := hid (by simp [paB, h1, h2, h3, h4, h5])
    go_enter Try.func71, Try.ntmps71
    go_wp2_with (first | (go_at_call_of 67 it; refine (l1In_eq _ _ _ _ _ h1).mono ?_; rintro e w1 ⟨rfl, ew⟩; replace ew := ew.symm; subst ew) | (go_at_call_of 67 qt; refine (l1In_eq _ _ _ _ _ h2).mono ?_; rintro e w1 ⟨rfl, ew⟩; replace ew := ew.symm; subst ew) | (go_at_call_of 67 sc; refine (l1In_eq _ _ _ _ _ h3).mono ?_; rintro e w1 ⟨rfl, ew⟩; replace ew := ew.symm; subst ew) | (go_at_call_of 106 fs; refine (l2Day_eq _ _ _ h4).mono ?_; rintro e w1 ⟨rfl, ew⟩; replace ew := ew.symm; subst ew) | (go_at_call_of 106 la; refine (l2Day_eq _ _ _ h5).mono ?_; rintro e w1 ⟨rfl, ew⟩; replace ew := ew.symm; subst ew) | (go_at_call_of 67 gr; refine (l1In_eq _ _ _ _ _ h7).mono ?_; rintro e w1 ⟨rfl, ew⟩; replace ew := ew.symm; subst ew))
    go_returns
    exact ⟨ret_bool HV.out, by go_grown⟩
  by_cases g6 : fs ≤ la
  rotate_left
  · have h6 : decide (fs ≤ la) = false := decide_eq_false g6
    have HV : Hid (false = paB o n ⟨it, qt, sc, fs, la, gr⟩) := hid (by simp [paB, h1, h2, h3, h4, h5, g6])
    go_enter Try.func71, Try.ntmps71
    go_wp2_with (first | (go_at_call_of 67 it; refine (l1In_eq _ _ _ _ _ h1).mono ?_; rintro e w1 ⟨rfl, ew⟩; replace ew := ew.symm; subst ew) | (go_at_call_of 67 qt; refine (l1In_eq _ _ _ _ _ h2).mono ?_; rintro e w1 ⟨rfl, ew⟩; replace ew := ew.symm; subst ew) | (go_at_call_of 67 sc; refine (l1In_eq _ _ _ _ _ h3).mono ?_; rintro e w1 ⟨rfl, ew⟩; replace ew := ew.symm; subst ew) | (go_at_call_of 106 fs; refine (l2Day_eq _ _ _ h4).mono ?_; rintro e w1 ⟨rfl, ew⟩; replace ew := ew.symm; subst ew) | (go_at_call_of 106 la; refine (l2Day_eq _ _ _ h5).mono ?_; rintro e w1 ⟨rfl, ew⟩; replace ew := ew.symm; subst ew) | (go_at_call_of 67 gr; refine (l1In_eq _ _ _ _ _ h7).mono ?_; rintro e w1 ⟨rfl, ew⟩; replace ew := ew.symm; subst ew))
    go_returns
    exact ⟨ret_bool HV.out, by go_grown⟩
  have h6 : decide (fs ≤ la) = true := decide_eq_true g6
  cases h7 : inB gr 0 9
  · have HV : Hid (false = paB o n ⟨it, qt, sc, fs, la, gr⟩) := hid (by simp [paB, h1, h2, h3, h4, h5, g6, h7])
    go_enter Try.func71, Try.ntmps71
    go_wp2_with (first | (go_at_call_of 67 it; refine (l1In_eq _ _ _ _ _ h1).mono ?_; rintro e w1 ⟨rfl, ew⟩; replace ew := ew.symm; subst ew) | (go_at_call_of 67 qt; refine (l1In_eq _ _ _ _ _ h2).mono ?_; rintro e w1 ⟨rfl, ew⟩; replace ew := ew.symm; subst ew) | (go_at_call_of 67 sc; refine (l1In_eq _ _ _ _ _ h3).mono ?_; rintro e w1 ⟨rfl, ew⟩; replace ew := ew.symm; subst ew) | (go_at_call_of 106 fs; refine (l2Day_eq _ _ _ h4).mono ?_; rintro e w1 ⟨rfl, ew⟩; replace ew := ew.symm; subst ew) | (go_at_call_of 106 la; refine (l2Day_eq _ _ _ h5).mono ?_; rintro e w1 ⟨rfl, ew⟩; replace ew := ew.symm; subst ew) | (go_at_call_of 67 gr; refine (l1In_eq _ _ _ _ _ h7).mono ?_; rintro e w1 ⟨rfl, ew⟩; replace ew := ew.symm; subst ew))
    go_returns
    exact ⟨ret_bool HV.out, by go_grown⟩
  have HV : Hid (true = paB o n ⟨it, qt, sc, fs, la, gr⟩) := hid (by simp [paB, h1, h2, h3, h4, h5, g6, h7])
  go_enter Try.func71, Try.ntmps71
  go_wp2_with (first | (go_at_call_of 67 it; refine (l1In_eq _ _ _ _ _ h1).mono ?_; rintro e w1 ⟨rfl, ew⟩; replace ew := ew.symm; subst ew) | (go_at_call_of 67 qt; refine (l1In_eq _ _ _ _ _ h2).mono ?_; rintro e w1 ⟨rfl, ew⟩; replace ew := ew.symm; subst ew) | (go_at_call_of 67 sc; refine (l1In_eq _ _ _ _ _ h3).mono ?_; rintro e w1 ⟨rfl, ew⟩; replace ew := ew.symm; subst ew) | (go_at_call_of 106 fs; refine (l2Day_eq _ _ _ h4).mono ?_; rintro e w1 ⟨rfl, ew⟩; replace ew := ew.symm; subst ew) | (go_at_call_of 106 la; refine (l2Day_eq _ _ _ h5).mono ?_; rintro e w1 ⟨rfl, ew⟩; replace ew := ew.symm; subst ew) | (go_at_call_of 67 gr; refine (l1In_eq _ _ _ _ _ h7).mono ?_; rintro e w1 ⟨rfl, ew⟩; replace ew := ew.symm; subst ew))
  go_returns
  exact ⟨ret_bool HV.out, by go_grown⟩
theorem paRight_eq (r : PA6) (o n : Int) (v : Bool) (w : World) (b0 : 0 ≤ o) (b1 : o ≤ 1048576) (b2 : 0 ≤ n) (b3 : n ≤ 1048576) (h : paB o n r = v) : Calls Try.prog 127 #[r.val, .int .i64 o, .int .i64 n] w fun e w' => e = .returned (.bool v) ∧ Below w.heap.size w w' := by
  subst h; exact paRight_any r o n w b0 b1 b2 b3
theorem l17Part_eq (r : PA6) (o n : Int) (v : Bool) (w : World) (b0 : 0 ≤ o) (b1 : o ≤ 1048576) (b2 : 0 ≤ n) (b3 : n ≤ 1048576) (h : paB o n r = v) : Calls Try.prog 71 #[r.val, .int .i64 o, .int .i64 n] w fun e w' => e = .returned (.bool v) ∧ Below w.heap.size w w' := by
  subst h; exact l17Part_any r o n w b0 b1 b2 b3
end Go.Proofs.Ytmbdeafpfdeigaa
