/- Draws of an amount, with bounds. -/
import Derived.Test.YtlhgmdmbjpaakaaDoorXA
namespace Go.Proofs.YtlhgmdmbjpaakaaDoor
open Go.ChangeShapes Go.WideShapes Go.ChangeAt Go.RowKit
set_option linter.unusedVariables false
set_option linter.unusedSimpArgs false

theorem am_list {y : Int} (h : y ∈ [(0 : Int), 1, -1, 100000000000, -100000000000, 99999999999, 99, 100, 101]) : -100000000000 ≤ y ∧ y ≤ 100000000000 := by simp at h; omega

set_option maxHeartbeats 1000000 in
theorem dAmount_any (b : Nat) (w : World) (hc : Cursor w b) :
    Calls Tryd.prog 21 #[.pointer (some ⟨b, 0, none⟩)] w fun e w' => ∃ x : Int, e = .returned (.int .i64 x) ∧ -100000000000 ≤ x ∧ x ≤ 100000000000 ∧ Moved b w w' := by
  have M : Hid (Moved b w w) := Moved.refl hc
  have B : Hid (Cursor w b) := hc
  clear hc
  go_enter Tryd.func21, Tryd.ntmps21
  go_wp2_with (first | (go_at_call 23; refine (below_any b _ _ M.out.1).mono ?_; rintro e w1 ⟨x, rfl, x0, x1, x2, m1⟩; replace M : Hid (Moved b w w1) := M.out.trans m1; have x3 := x1 (by decide); clear m1 x1 x2) | (go_at_call 48; refine (pick_any b _ [0, 1, -1, 100000000000, -100000000000, 99999999999, 99, 100, 101] _ _ _ (M.out.alloc _).1 (IntRow.made M.out.1.lt _ _ _ rfl) rfl (by decide) (by decide)).mono ?_; rintro e w2 ⟨y, rfl, hy, m2⟩; replace M : Hid (Moved b w w2) := (M.out.alloc _).trans m2; have y0 := am_list hy; clear m2 hy))
  all_goals
    go_returns
    exact ⟨_, rfl, by omega, by omega, M.out⟩

theorem dBad_any (b : Nat) (v : Int) (w : World) (hc : Cursor w b) :
    Calls Tryd.prog 20 #[.pointer (some ⟨b, 0, none⟩), .int .i64 v] w fun e w' => ∃ x : Int, e = .returned (.int .i64 x) ∧ (x = v ∨ x = 100000000001 ∨ x = -100000000001 ∨ x = 9223372036854775807 ∨ x = -9223372036854775808) ∧ Moved b w w' := by
  have M : Hid (Moved b w w) := Moved.refl hc
  clear hc
  go_enter Tryd.func20, Tryd.ntmps20
  go_wp2_with (go_at_call 22; refine (spoil_any b _ _ [100000000001, -100000000001, 9223372036854775807, -9223372036854775808] _ _ _ (M.out.alloc _).1 (IntRow.made M.out.1.lt _ _ _ rfl) rfl (by decide) (by decide)).mono ?_; rintro e w2 ⟨y, rfl, hy, m2⟩; replace M : Hid (Moved b w w2) := (M.out.alloc _).trans m2; have HY : Hid _ := hy; clear m2 hy)
  go_returns
  exact ⟨_, rfl, by have := HY.out; simpa using this, M.out⟩

end Go.Proofs.YtlhgmdmbjpaakaaDoor
