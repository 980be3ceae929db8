/- cmp.Compare, cmp.Or, compareRests. -/
import Derived.Test.YtjlniinahfgakaaProg
import Derived.Test.YtjlniinahfgakaaIr
import Derived.WalkLawsBesides
import Derived.Outline
import Derived.Laws.MakeOwn
import Derived.Deep.QuietTactic
import Derived.Deep.RegionWith
import Derived.Deep.DeepFit
namespace Go.Proofs.Ytjlniinahfgakaa
open Go.ChangeShapes Go.WideShapes Go.ChangeAt Go.RowKit
set_option linter.unusedVariables false
set_option linter.unusedSimpArgs false

theorem ret_bool {a b : Bool} (h : a = b) : Ending.returned (.bool a) = .returned (.bool b) := by rw [h]
theorem ret_int {a b : Int} (h : a = b) : Ending.returned (.int .i64 a) = .returned (.int .i64 b) := by rw [h]

theorem isNaN_any (x : Int) (w : World) : Calls Try.prog 85 #[.int .i64 x] w fun e w' => e = .returned (.bool false) ∧ w' = w := by
  go_enter Try.func85, Try.ntmps85
  go_wp2
  all_goals go_returns
  all_goals exact ⟨ret_bool (by simp), rfl⟩

/-- What cmp.Compare tells. -/
def cm (a b : Int) : Int := if a < b then -1 else if b < a then 1 else 0
theorem cm_l {a b : Int} (h : a < b) : cm a b = -1 := if_pos h
theorem cm_g {a b : Int} (h : b < a) : cm a b = 1 := by unfold cm; rw [if_neg (by omega), if_pos h]
theorem cm_e (a : Int) : cm a a = 0 := by unfold cm; rw [if_neg (by omega), if_neg (by omega)]

theorem compare_any (a b : Int) (w : World) : Calls Try.prog 75 #[.int .i64 a, .int .i64 b] w fun e w' => e = .returned (.int .i64 (cm a b)) ∧ w' = w := by
  by_cases h1 : a < b
  · rw [cm_l h1]
    go_enter Try.func75, Try.ntmps75
    go_wp2_with (go_at_call 85; refine (isNaN_any _ _).mono ?_; rintro e w1 ⟨rfl, rfl⟩)
    all_goals go_returns
    all_goals exact ⟨rfl, rfl⟩
  · by_cases h2 : b < a
    · rw [cm_g h2]
      go_enter Try.func75, Try.ntmps75
      go_wp2_with (go_at_call 85; refine (isNaN_any _ _).mono ?_; rintro e w1 ⟨rfl, rfl⟩)
      all_goals go_returns
      all_goals exact ⟨rfl, rfl⟩
    · obtain rfl : a = b := by omega
      rw [cm_e]
      go_enter Try.func75, Try.ntmps75
      go_wp2_with (go_at_call 85; refine (isNaN_any _ _).mono ?_; rintro e w1 ⟨rfl, rfl⟩)
      all_goals go_returns
      all_goals exact ⟨rfl, rfl⟩

/-- What cmp.Or tells of two. -/
def orV (a b : Int) : Int := if a ≠ 0 then a else b

set_option maxHeartbeats 1000000 in
theorem or_any (a b : Int) (k off : Nat) (w : World) (h0 : w.cell? ⟨k, off, none⟩ = some (.int .i64 a)) (h1 : w.cell? ⟨k, off + 1, none⟩ = some (.int .i64 b)) :
    Calls Try.prog 74 #[.slice (some ⟨k, off, none⟩) 2 2] w fun e w' => e = .returned (.int .i64 (orV a b)) ∧ w' = w := by
  have HR : ∀ j : Nat, j < 2 → w.cell? ⟨k, off + j, none⟩ = some (.int .i64 (if j = 0 then a else b)) := by
    intro j hj
    rcases (show j = 0 ∨ j = 1 by omega) with rfl | rfl
    · exact h0
    · exact h1
  have HH : Hid (∀ j : Nat, j < 2 → w.cell? ⟨k, off + j, none⟩ = some (.int .i64 (if j = 0 then a else b))) := HR
  clear HR h0 h1
  go_enter Try.func74, Try.ntmps74
  go_wp2
  go_loop [8] (fun i => ∃ j : Nat, j ≤ 2 ∧ i = .int .i64 (j : Int) ∧ Hid ((1 ≤ j → a = 0) ∧ (2 ≤ j → b = 0))) (fun i => 2 - (intOf i).toNat)
  case atStart => exact ⟨0, Nat.zero_le _, rfl, fun h => by omega, fun h => by omega⟩
  case round =>
    obtain ⟨j, hj, rfl, hP⟩ := hrel
    rcases (show j = 0 ∨ j = 1 ∨ j = 2 by omega) with rfl | rfl | rfl
    · have c1 := HH.out 0 (by omega)
      simp at c1
      by_cases ha : a = 0
      · have hP1 : Hid ((1 ≤ 1 → a = 0) ∧ (2 ≤ 1 → b = 0)) := ⟨fun _ => ha, fun h => by omega⟩
        go_wp2
        go_round
        case rel => exact ⟨1, by omega, by go_num, hP1⟩
        case measure => simp [intOf]
      · have hv : Hid (orV a b = a) := if_pos ha
        go_wp2
        go_returns
        exact ⟨ret_int hv.out.symm, rfl⟩
    · have c1 := HH.out 1 (by omega)
      simp at c1
      have ha : Hid (a = 0) := hP.out.1 (by omega)
      by_cases hb : b = 0
      · have hP1 : Hid ((1 ≤ 2 → a = 0) ∧ (2 ≤ 2 → b = 0)) := ⟨fun _ => ha.out, fun h => hb⟩
        go_wp2
        go_round
        case rel => exact ⟨2, by omega, by go_num, hP1⟩
        case measure => simp [intOf]
      · have hv : Hid (orV a b = b) := if_neg (by simp [ha.out])
        go_wp2
        go_returns
        exact ⟨ret_int hv.out.symm, rfl⟩
    · have hv : Hid (orV a b = 0) := by
        have e1 := hP.out.1 (by omega)
        have e2 := hP.out.2 (by omega)
        show orV a b = 0
        unfold orV; rw [e1, e2]; simp
      go_wp2
      go_returns
      exact ⟨ret_int hv.out.symm, rfl⟩

/-- What compareRests tells: the greater rest first, then the lower place. -/
def crV (a b : Int × Int) : Int := orV (cm b.1 a.1) (cm a.2 b.2)

theorem cell_at {w w' : World} {b o : Nat} {v : Value} (h : w.cell? ⟨b, o, none⟩ = some v) (k : Below w.heap.size w w') (hb : b < w.heap.size) : w'.cell? ⟨b, o, none⟩ = some v := by
  rw [World.cell?_of_block (w := w) (k.block b hb)]; exact h

theorem or_new (X Y : Int) (U : World) (t : TypeId) :
    Calls Try.prog 74 #[.slice (some ⟨U.heap.size, 0, none⟩) 2 2] (U.alloc (.cells #[.int .i64 X, .int .i64 Y] t (0, 0))) fun e w' => e = .returned (.int .i64 (orV X Y)) ∧ w' = U.alloc (.cells #[.int .i64 X, .int .i64 Y] t (0, 0)) :=
  or_any X Y U.heap.size 0 _ (by rw [(CB.new (w := U) _ t).cell]; rfl) (by rw [(CB.new (w := U) _ t).cell]; rfl)
end Go.Proofs.Ytjlniinahfgakaa
