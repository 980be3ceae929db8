/- Periods that are right; an account of one kind. -/
import Derived.Test.YtapailihjlfkgaaDoorLg
import Derived.Test.YtapailihjlfkgaaDoorPsV
import Derived.Test.YtapailihjlfkgaaDoorSk
import Derived.Test.YtapailihjlfkgaaDoorHs
namespace Go.Proofs.YtapailihjlfkgaaDoor
open Go Go.ChangeShapes Go.WideShapes Go.ChangeAt Go.RowKit
set_option linter.unusedVariables false
set_option linter.unusedSimpArgs false

/-- A period within the days, behind the one before it. -/
def PrAt (x y : Nat → Int) (i : Nat) : Prop := (0 ≤ x i ∧ x i ≤ 40000) ∧ (0 ≤ y i ∧ y i ≤ 40000) ∧ x i ≤ y i ∧ (0 < i → x i = y (i - 1) + 1)
noncomputable def prB (n : Nat) (x y : Nat → Int) : Bool := @decide (1 ≤ n ∧ n ≤ 60 ∧ ∀ i, i < n → PrAt x y i) (Classical.propDecidable _)
theorem prB_t {n : Nat} {x y : Nat → Int} (h : 1 ≤ n ∧ n ≤ 60 ∧ ∀ i, i < n → PrAt x y i) : prB n x y = true := @decide_eq_true _ (Classical.propDecidable _) h
theorem prB_f {n : Nat} {x y : Nat → Int} (h : ¬ (1 ≤ n ∧ n ≤ 60 ∧ ∀ i, i < n → PrAt x y i)) : prB n x y = false := @decide_eq_false _ (Classical.propDecidable _) h
theorem isDay_q {x : Int} {V : Bool} (w : World) (h : inB x 0 40000 = V) : Calls Tryd.prog 72 #[.int .i64 x] w fun e w' => e = .returned (.bool V) ∧ w' = w := h ▸ isDay_any x w
theorem l2Day_q {x : Int} {V : Bool} (w : World) (h : inB x 0 40000 = V) : Calls Tryd.prog 66 #[.int .i64 x] w fun e w' => e = .returned (.bool V) ∧ w' = w := h ▸ l2Day_any x w

set_option maxRecDepth 20000 in
set_option maxHeartbeats 4000000 in
theorem arePeriods_any (ad : Option Addr) (n cap : Nat) (x y : Nat → Int) (w : World) (hn : (n : Int) ≤ 1048576) (hr : PR w ad n x y) :
    Calls Tryd.prog 107 #[.slice ad n cap] w fun e w' => e = .returned (.bool (prB n x y)) ∧ Below w.heap.size w w' := by
  have HR : Hid (PR w ad n x y) := hr
  clear hr
  by_cases h1 : (n : Int) < 1
  · have HF : Hid (prB n x y = false) := prB_f (fun q => by have := q.1; omega)
    go_enter Tryd.func107, Tryd.ntmps107
    go_wp2
    go_returns
    exact ⟨ret_bool' HF.out, Below.refl _ _⟩
  by_cases h2 : (60 : Int) < (n : Int)
  · have HF : Hid (prB n x y = false) := prB_f (fun q => by have := q.2.1; omega)
    go_enter Tryd.func107, Tryd.ntmps107
    go_wp2
    go_returns
    exact ⟨ret_bool' HF.out, Below.refl _ _⟩
  go_enter Tryd.func107, Tryd.ntmps107
  go_wp2
  go_loopw [15] (fun i wr => ∃ k : Nat, k ≤ n ∧ i = .int .i64 (k : Int) ∧ Hid (∀ i, i < k → PrAt x y i) ∧ Below w.heap.size w wr) (fun i _ => n - (intOf i).toNat)
  case atStart => exact ⟨0, Nat.zero_le _, rfl, fun i hi => by omega, Below.refl _ _⟩
  case round =>
    obtain ⟨k, hk, rfl, HA, hB⟩ := hrel
    have HB : Hid (Below w.heap.size w wr) := hB
    have HRr : Hid (PR wr ad n x y) := HR.out.below hB
    clear hB
    by_cases hlt : k < n
    · have hlti : (k : Int) < (n : Int) := by omega
      obtain ⟨kb, off, rfl, hkb⟩ := HRr.out.addr (by omega)
      obtain ⟨c1, c2⟩ := HRr.out.cell hlt
      have HBAD : Hid (¬ PrAt x y k → prB n x y = false) := fun h => prB_f (fun q => h (q.2.2 k hlt))
      obtain ⟨X, hX⟩ : ∃ X, x k = X := ⟨_, rfl⟩
      obtain ⟨Y, hY⟩ : ∃ Y, y k = Y := ⟨_, rfl⟩
      rw [hX] at c1
      rw [hY] at c2
      have HXk : Hid (x k = X) := hX
      have HYk : Hid (y k = Y) := hY
      clear hX hY
      by_cases g1 : 0 ≤ X ∧ X ≤ 40000
      case neg =>
        have e1 : inB X 0 40000 = false := inB_f g1
        have e2 : inB X 0 40000 = false := e1
        have HM : Hid (prB n x y = false) := HBAD.out (fun q => g1 (by have := q.1; rw [HXk.out] at this; exact this))
        clear HBAD
        go_wp2
        go_quiet (first | (go_at_call 72; first | exact Calls.quiet_of_same (isDay_q _ e1) | exact Calls.quiet_of_same (isDay_q _ e2)))
        go_wp2
        go_returns
        exact ⟨ret_bool' HM.out, bel_on (HB.out.alloc HB.out.size _) (⟨rfl, rfl, rfl, Nat.le_refl _, fun _ _ => rfl⟩)⟩
      have e1 : inB X 0 40000 = true := inB_iff.2 g1
      by_cases g2 : 0 ≤ Y ∧ Y ≤ 40000
      case neg =>
        have e2 : inB Y 0 40000 = false := inB_f g2
        have HM : Hid (prB n x y = false) := HBAD.out (fun q => g2 (by have := q.2.1; rw [HYk.out] at this; exact this))
        clear HBAD
        go_wp2
        go_quiet (first | (go_at_call 72; first | exact Calls.quiet_of_same (isDay_q _ e1) | exact Calls.quiet_of_same (isDay_q _ e2)))
        go_wp2
        go_returns
        exact ⟨ret_bool' HM.out, bel_on (HB.out.alloc HB.out.size _) (⟨rfl, rfl, rfl, Nat.le_refl _, fun _ _ => rfl⟩)⟩
      have e2 : inB Y 0 40000 = true := inB_iff.2 g2
      by_cases g3 : X ≤ Y
      case neg =>
        have hgt : decide (Y < X) = true := by simp <;> omega
        have HM : Hid (prB n x y = false) := HBAD.out (fun q => g3 (by have := q.2.2.1; rw [HXk.out, HYk.out] at this; exact this))
        clear HBAD
        go_wp2
        go_quiet (first | (go_at_call 72; first | exact Calls.quiet_of_same (isDay_q _ e1) | exact Calls.quiet_of_same (isDay_q _ e2)))
        go_wp2
        go_returns
        exact ⟨ret_bool' HM.out, bel_on (HB.out.alloc HB.out.size _) (⟨rfl, rfl, rfl, Nat.le_refl _, fun _ _ => rfl⟩)⟩
      have hgt : decide (Y < X) = false := by simp <;> omega
      have HNEXT : Hid ((0 < k → X = y (k - 1) + 1) → ∀ i, i < k + 1 → PrAt x y i) := fun q i hi => by
        by_cases e : i = k
        · subst e; unfold PrAt; rw [HXk.out, HYk.out]; exact ⟨g1, g2, g3, q⟩
        · exact HA.out i (by omega)
      by_cases hk0 : k = 0
      · have HN : Hid (∀ i, i < k + 1 → PrAt x y i) := HNEXT.out (fun q => by omega)
        have hk0i : decide (0 < k) = false := by simp <;> omega
        clear HBAD HNEXT hk0
        go_wp2
        go_quiet (first | (go_at_call 72; first | exact Calls.quiet_of_same (isDay_q _ e1) | exact Calls.quiet_of_same (isDay_q _ e2)))
        go_wp2
        go_roundw
        case rel => exact ⟨k + 1, by omega, by go_num, HN, bel_on (HB.out.alloc HB.out.size _) (⟨rfl, rfl, rfl, Nat.le_refl _, fun _ _ => rfl⟩)⟩
        case measure => simp [intOf]; omega
      obtain ⟨m, hmk⟩ : ∃ m, k = m + 1 := ⟨k - 1, by omega⟩
      have hmi : (k : Int) - 1 = (m : Int) := by omega
      have hk0i : decide (0 < k) = true := by simp <;> omega
      have HMK : Hid (k = m + 1) := hmk
      have hmn : (m : Int) < (n : Int) := by omega
      obtain ⟨_, c4⟩ := HRr.out.cell (j := m) (by omega)
      have hPm := HA.out m (by omega)
      obtain ⟨Z, hZ⟩ : ∃ Z, y m = Z := ⟨_, rfl⟩
      unfold PrAt at hPm
      rw [hZ] at c4 hPm
      have g4 := hPm.2.1
      have HZm : Hid (y (k - 1) = Z) := by rw [hmk]; exact hZ
      clear hZ hPm hmk hk0
      have wz : wrap64 (Z + 1) = Z + 1 := by unfold wrap64; omega
      have c5 : (wr.alloc (.cells #[.int .i64 X, .int .i64 Y] 102 (0, 0))).cell? ⟨kb, off + m * 2 + 1, none⟩ = some (.int .i64 Z) := keep_cell ((Below.refl _ _).alloc (Nat.le_refl _) _) c4
      by_cases g5 : X = Z + 1
      case neg =>
        have g5b : (X == Z + 1) = false := by simpa using g5
        have HM : Hid (prB n x y = false) := HBAD.out (fun q => g5 (by have := q.2.2.2 (by have := HMK.out; omega); rw [HXk.out, HZm.out] at this; exact this))
        clear HBAD
        go_wp2
        go_quiet (first | (go_at_call 72; first | exact Calls.quiet_of_same (isDay_q _ e1) | exact Calls.quiet_of_same (isDay_q _ e2)))
        go_wp2
        go_returns
        exact ⟨ret_bool' HM.out, bel_on (HB.out.alloc HB.out.size _) (⟨rfl, rfl, rfl, Nat.le_refl _, fun _ _ => rfl⟩)⟩
      have HN : Hid (∀ i, i < k + 1 → PrAt x y i) := HNEXT.out (fun _ => by rw [HZm.out]; exact g5)
      have g5b : (X == Z + 1) = true := by simpa using g5
      clear HBAD HNEXT g5
      go_wp2
      go_quiet (first | (go_at_call 72; first | exact Calls.quiet_of_same (isDay_q _ e1) | exact Calls.quiet_of_same (isDay_q _ e2)))
      go_wp2
      go_roundw
      case rel => exact ⟨k + 1, by omega, by go_num, HN, bel_on (HB.out.alloc HB.out.size _) (⟨rfl, rfl, rfl, Nat.le_refl _, fun _ _ => rfl⟩)⟩
      case measure => simp [intOf]; omega
    · obtain rfl : k = n := by omega
      have HT : Hid (prB k x y = true) := prB_t ⟨by omega, by omega, HA.out⟩
      go_wp2
      go_returns
      exact ⟨ret_bool' HT.out, HB.out⟩

set_option maxRecDepth 20000 in
set_option maxHeartbeats 4000000 in
theorem l6Year_any (ad : Option Addr) (n cap : Nat) (x y : Nat → Int) (w : World) (hn : (n : Int) ≤ 1048576) (hr : PR w ad n x y) :
    Calls Tryd.prog 42 #[.slice ad n cap] w fun e w' => e = .returned (.bool (prB n x y)) ∧ Below w.heap.size w w' := by
  have HR : Hid (PR w ad n x y) := hr
  clear hr
  go_enter Tryd.func42, Tryd.ntmps42
  go_wp2
  go_loopw [3] (fun i wr => ∃ k : Nat, k ≤ n ∧ i = .int .i64 (k : Int) ∧ Hid (∀ i, i < k → PrAt x y i) ∧ Below w.heap.size w wr) (fun i _ => n - (intOf i).toNat)
  case atStart => exact ⟨0, Nat.zero_le _, rfl, fun i hi => by omega, Below.refl _ _⟩
  case round =>
    obtain ⟨k, hk, rfl, HA, hB⟩ := hrel
    have HB : Hid (Below w.heap.size w wr) := hB
    have HRr : Hid (PR wr ad n x y) := HR.out.below hB
    clear hB
    by_cases hlt : k < n
    · have hlti : (k : Int) < (n : Int) := by omega
      obtain ⟨kb, off, rfl, hkb⟩ := HRr.out.addr (by omega)
      obtain ⟨c1, c2⟩ := HRr.out.cell hlt
      have HBAD : Hid (¬ PrAt x y k → prB n x y = false) := fun h => prB_f (fun q => h (q.2.2 k hlt))
      obtain ⟨X, hX⟩ : ∃ X, x k = X := ⟨_, rfl⟩
      obtain ⟨Y, hY⟩ : ∃ Y, y k = Y := ⟨_, rfl⟩
      rw [hX] at c1
      rw [hY] at c2
      have HXk : Hid (x k = X) := hX
      have HYk : Hid (y k = Y) := hY
      clear hX hY
      by_cases g1 : 0 ≤ X ∧ X ≤ 40000
      case neg =>
        have e1 : inB X 0 40000 = false := inB_f g1
        have e2 : inB X 0 40000 = false := e1
        have HM : Hid (prB n x y = false) := HBAD.out (fun q => g1 (by have := q.1; rw [HXk.out] at this; exact this))
        clear HBAD
        go_wp2
        go_quiet (first | (go_at_call 66; first | exact Calls.quiet_of_same (l2Day_q _ e1) | exact Calls.quiet_of_same (l2Day_q _ e2)))
        go_wp2
        go_returns
        exact ⟨ret_bool' HM.out, bel_on HB.out (⟨rfl, rfl, rfl, Nat.le_refl _, fun _ _ => rfl⟩)⟩
      have e1 : inB X 0 40000 = true := inB_iff.2 g1
      by_cases g2 : 0 ≤ Y ∧ Y ≤ 40000
      case neg =>
        have e2 : inB Y 0 40000 = false := inB_f g2
        have HM : Hid (prB n x y = false) := HBAD.out (fun q => g2 (by have := q.2.1; rw [HYk.out] at this; exact this))
        clear HBAD
        go_wp2
        go_quiet (first | (go_at_call 66; first | exact Calls.quiet_of_same (l2Day_q _ e1) | exact Calls.quiet_of_same (l2Day_q _ e2)))
        go_wp2
        go_returns
        exact ⟨ret_bool' HM.out, bel_on HB.out (⟨rfl, rfl, rfl, Nat.le_refl _, fun _ _ => rfl⟩)⟩
      have e2 : inB Y 0 40000 = true := inB_iff.2 g2
      by_cases g3 : X ≤ Y
      case neg =>
        have hgt : decide (Y < X) = true := by simp <;> omega
        have HM : Hid (prB n x y = false) := HBAD.out (fun q => g3 (by have := q.2.2.1; rw [HXk.out, HYk.out] at this; exact this))
        clear HBAD
        go_wp2
        go_quiet (first | (go_at_call 66; first | exact Calls.quiet_of_same (l2Day_q _ e1) | exact Calls.quiet_of_same (l2Day_q _ e2)))
        go_wp2
        go_returns
        exact ⟨ret_bool' HM.out, bel_on HB.out (⟨rfl, rfl, rfl, Nat.le_refl _, fun _ _ => rfl⟩)⟩
      have hgt : decide (Y < X) = false := by simp <;> omega
      have HNEXT : Hid ((0 < k → X = y (k - 1) + 1) → ∀ i, i < k + 1 → PrAt x y i) := fun q i hi => by
        by_cases e : i = k
        · subst e; unfold PrAt; rw [HXk.out, HYk.out]; exact ⟨g1, g2, g3, q⟩
        · exact HA.out i (by omega)
      by_cases hk0 : k = 0
      · have HN : Hid (∀ i, i < k + 1 → PrAt x y i) := HNEXT.out (fun q => by omega)
        have hk0i : decide (0 < k) = false := by simp <;> omega
        clear HBAD HNEXT hk0
        go_wp2
        go_quiet (first | (go_at_call 66; first | exact Calls.quiet_of_same (l2Day_q _ e1) | exact Calls.quiet_of_same (l2Day_q _ e2)))
        go_wp2
        go_roundw
        case rel => exact ⟨k + 1, by omega, by go_num, HN, bel_on HB.out (⟨rfl, rfl, rfl, Nat.le_refl _, fun _ _ => rfl⟩)⟩
        case measure => simp [intOf]; omega
      obtain ⟨m, hmk⟩ : ∃ m, k = m + 1 := ⟨k - 1, by omega⟩
      have hmi : (k : Int) - 1 = (m : Int) := by omega
      have hk0i : decide (0 < k) = true := by simp <;> omega
      have HMK : Hid (k = m + 1) := hmk
      have hmn : (m : Int) < (n : Int) := by omega
      obtain ⟨_, c4⟩ := HRr.out.cell (j := m) (by omega)
      have hPm := HA.out m (by omega)
      obtain ⟨Z, hZ⟩ : ∃ Z, y m = Z := ⟨_, rfl⟩
      unfold PrAt at hPm
      rw [hZ] at c4 hPm
      have g4 := hPm.2.1
      have HZm : Hid (y (k - 1) = Z) := by rw [hmk]; exact hZ
      clear hZ hPm hmk hk0
      have wz : wrap64 (Z + 1) = Z + 1 := by unfold wrap64; omega
      have c5 := c4
      by_cases g5 : X = Z + 1
      case neg =>
        have g5b : (X == Z + 1) = false := by simpa using g5
        have HM : Hid (prB n x y = false) := HBAD.out (fun q => g5 (by have := q.2.2.2 (by have := HMK.out; omega); rw [HXk.out, HZm.out] at this; exact this))
        clear HBAD
        go_wp2
        go_quiet (first | (go_at_call 66; first | exact Calls.quiet_of_same (l2Day_q _ e1) | exact Calls.quiet_of_same (l2Day_q _ e2)))
        go_wp2
        go_returns
        exact ⟨ret_bool' HM.out, bel_on HB.out (⟨rfl, rfl, rfl, Nat.le_refl _, fun _ _ => rfl⟩)⟩
      have HN : Hid (∀ i, i < k + 1 → PrAt x y i) := HNEXT.out (fun _ => by rw [HZm.out]; exact g5)
      have g5b : (X == Z + 1) = true := by simpa using g5
      clear HBAD HNEXT g5
      go_wp2
      go_quiet (first | (go_at_call 66; first | exact Calls.quiet_of_same (l2Day_q _ e1) | exact Calls.quiet_of_same (l2Day_q _ e2)))
      go_wp2
      go_roundw
      case rel => exact ⟨k + 1, by omega, by go_num, HN, bel_on HB.out (⟨rfl, rfl, rfl, Nat.le_refl _, fun _ _ => rfl⟩)⟩
      case measure => simp [intOf]; omega
    · obtain rfl : k = n := by omega
      by_cases h3 : 1 ≤ (k : Int) ∧ (k : Int) ≤ 60
      · have HT : Hid (prB k x y = true) := prB_t ⟨by omega, by omega, HA.out⟩
        go_wp2_with (go_at_call 43; refine (in_yes _ _ _ _ h3.1 h3.2).mono ?_; rintro e w2 ⟨rfl, ew⟩; replace ew := ew.symm; subst ew)
        go_returns
        exact ⟨ret_bool' HT.out, HB.out⟩
      · have HT : Hid (prB k x y = false) := prB_f (fun q => h3 ⟨by have := q.1; omega, by have := q.2.1; omega⟩)
        have HNI : Hid (∀ W, Calls Tryd.prog 43 #[.int .i64 (k : Int), .int .i64 1, .int .i64 60] W fun e w' => e = .returned (.bool false) ∧ w' = W) := fun W => in_no _ _ _ W h3
        go_wp2_with (go_at_call 43; refine (HNI.out _).mono ?_; rintro e w2 ⟨rfl, ew⟩; replace ew := ew.symm; subst ew)
        go_returns
        exact ⟨ret_bool' HT.out, HB.out⟩

set_option maxRecDepth 20000 in
theorem index_one (kb : Nat) (v x : Int) (w : World) (h : w.cell? ⟨kb, 0, none⟩ = some (.int .i64 v)) :
    Calls Tryd.prog 135 #[.slice (some ⟨kb, 0, none⟩) 1 1, .int .i64 x] w fun e w' => e = .returned (.int .i64 (if x = v then 0 else -1)) ∧ w' = w := by
  by_cases g : x = v
  · subst g
    rw [if_pos rfl]
    go_enter Tryd.func135, Tryd.ntmps135
    go_wp2
    go_loopw [8] (fun i wr => i = .int .i64 0 ∧ wr = w) (fun i _ => 1)
    case atStart => exact ⟨rfl, rfl⟩
    case round =>
      obtain ⟨rfl, rfl⟩ := hrel
      go_wp2
      go_returns
      exact ⟨rfl, rfl⟩
  · rw [if_neg g]
    have g2 : (x == v) = false := by simpa using g
    go_enter Tryd.func135, Tryd.ntmps135
    go_wp2
    go_loopw [8] (fun i wr => ((i = .int .i64 0) ∨ (i = .int .i64 1)) ∧ wr = w) (fun i _ => 1 - (intOf i).toNat)
    case atStart => exact ⟨.inl rfl, rfl⟩
    case round =>
      obtain ⟨hi, hw⟩ := hrel
      have ew := hw.symm
      subst ew
      rcases hi with rfl | rfl
      · go_wp2
        go_roundw
        case rel => first | exact ⟨.inr (by go_num), rfl⟩ | exact ⟨.inr (by go_num), trivial⟩ | exact .inr (by go_num)
        case measure => simp [intOf]
      · go_wp2
        go_returns
        exact ⟨rfl, rfl⟩

set_option maxRecDepth 20000 in
theorem contains_one (kb : Nat) (v x : Int) (w : World) (h : w.cell? ⟨kb, 0, none⟩ = some (.int .i64 v)) :
    Calls Tryd.prog 129 #[.slice (some ⟨kb, 0, none⟩) 1 1, .int .i64 x] w fun e w' => e = .returned (.bool (x == v)) ∧ w' = w := by
  have HH : Hid (w.cell? ⟨kb, 0, none⟩ = some (.int .i64 v)) := h
  clear h
  obtain ⟨r, hr⟩ : ∃ r : Int, r = (if x = v then 0 else -1) := ⟨_, rfl⟩
  have hd : decide (0 ≤ r) = (x == v) := by
    by_cases g : x = v
    · subst g; rw [hr, if_pos rfl]; simp
    · rw [hr, if_neg g, show (x == v) = false from by simpa using g]; simp
  go_enter Tryd.func129, Tryd.ntmps129
  go_wp2_with (go_at_call 135; refine (index_one _ v _ _ HH.out).mono ?_; rintro e w2 ⟨rfl, ew⟩; replace ew := ew.symm; subst ew)
  all_goals go_returns
  all_goals exact ⟨ret_bool' (by simp_all), rfl⟩

set_option maxHeartbeats 1000000 in
theorem isOf_in (fa : Option Addr) (len cap : Nat) (c : Nat → C3) (d u : Int) (T i kb : Nat) (v : Int) (w : World) (h : Tree w T len c) (hi : i < tn len c) (hk : w.cell? ⟨kb, 0, none⟩ = some (.int .i64 v)) :
    Calls Tryd.prog 109 #[.agg #[.slice fa len cap, .int .i64 d, .int .i64 u, .pointer (some ⟨T, 0, none⟩)], .int .i64 (i : Int), .slice (some ⟨kb, 0, none⟩) 1 1] w fun e w' => e = .returned (.bool ((c i).step == v)) ∧ Below w.heap.size w w' := by
  obtain ⟨base, mp, N, S, ns, h⟩ := h
  have h2 := h.alloc (.cells #[.slice fa len cap, .int .i64 d, .int .i64 u, .pointer (some ⟨T, 0, none⟩)] 82 (0, 0))
  have HA : Hid (Calls Tryd.prog 128 #[.pointer (some ⟨T, 0, none⟩), .int .i64 (i : Int)] (w.alloc (.cells #[.slice fa len cap, .int .i64 d, .int .i64 u, .pointer (some ⟨T, 0, none⟩)] 82 (0, 0))) fun e w' => e = .returned (.tuple #[.pointer (some ⟨N (i + 1), 0, none⟩), .bool true]) ∧ w' = (w.alloc (.cells #[.slice fa len cap, .int .i64 d, .int .i64 u, .pointer (some ⟨T, 0, none⟩)] 82 (0, 0)))) := at_in i _ h2 (tn_le len c).2 hi
  have k2 := h2.kind hi
  have HCo : Hid (Calls Tryd.prog 129 #[.slice (some ⟨kb, 0, none⟩) 1 1, .int .i64 (c i).step] (w.alloc (.cells #[.slice fa len cap, .int .i64 d, .int .i64 u, .pointer (some ⟨T, 0, none⟩)] 82 (0, 0))) fun e w' => e = .returned (.bool ((c i).step == v)) ∧ w' = (w.alloc (.cells #[.slice fa len cap, .int .i64 d, .int .i64 u, .pointer (some ⟨T, 0, none⟩)] 82 (0, 0)))) := contains_one kb v _ _ (keep_cell ((Below.refl _ _).alloc (Nat.le_refl _) _) hk)
  clear h h2 hk
  go_enter Tryd.func109, Tryd.ntmps109
  go_wp2_with (first
    | (go_at_call 128; refine HA.out.mono ?_; rintro e w2 ⟨rfl, ew⟩; subst ew)
    | (go_at_call 129; refine HCo.out.mono ?_; rintro e w3 ⟨rfl, ew⟩; subst ew))
  go_returns
  exact ⟨rfl, by go_grown⟩

end Go.Proofs.YtapailihjlfkgaaDoor
