/- Contracts of the draws of a day. -/
import Derived.Test.YtadjdpoplaknkaaNw
namespace Go.Proofs.Ytadjdpoplaknkaa
open Go.ChangeShapes Go.WideShapes Go.ChangeAt Go.RowKit
set_option linter.unusedVariables false
set_option linter.unusedSimpArgs false

def Dn (x : Int) : Prop := (0 ≤ x ∧ x ≤ 40000) ∨ x = -1 ∨ x = 40001 ∨ x = -9223372036854775808

theorem Dn.in64 {x : Int} (h : Dn x) : -9223372036854775808 ≤ x ∧ x ≤ 40001 := by unfold Dn at h; omega

theorem dd_list {y : Int} (h : y ∈ [(0 : Int), 1, 30, 31, 58, 59, 60, 365, 366, 36524, 40000, 39999]) : 0 ≤ y ∧ y ≤ 40000 := by simp at h; omega

set_option maxHeartbeats 1000000 in
theorem drawDay_any (b : Nat) (w : World) (hc : Cursor w b) :
    Calls Try.prog 33 #[.pointer (some ⟨b, 0, none⟩)] w fun e w' => ∃ x : Int, e = .returned (.int .i64 x) ∧ 0 ≤ x ∧ x ≤ 40000 ∧ Moved b w w' := by
  have M : Hid (Moved b w w) := Moved.refl hc
  clear hc
  go_enter Try.func33, Try.ntmps33
  go_wp2_with (first | (go_at_call 35; refine (below_any b _ _ M.out.1).mono ?_; rintro e w1 ⟨x, rfl, x0, x1, x2, m1⟩; replace M : Hid (Moved b w w1) := M.out.trans m1; have x3 := x1 (by decide); clear m1 x1 x2) | (go_at_call 52; refine (pick_any b _ [0, 1, 30, 31, 58, 59, 60, 365, 366, 36524, 40000, 39999] _ _ _ (M.out.alloc _).1 (IntRow.made M.out.1.lt _ _ _ rfl) rfl (by decide) (by decide)).mono ?_; rintro e w2 ⟨y, rfl, hy, m2⟩; replace M : Hid (Moved b w w2) := (M.out.alloc _).trans m2; have y0 := dd_list hy; clear m2 hy))
  all_goals
    go_returns
    exact ⟨_, rfl, by omega, by omega, M.out⟩

theorem badDay_any (b : Nat) (v : Int) (w : World) (hc : Cursor w b) (h0 : 0 ≤ v) (h1 : v ≤ 40000) :
    Calls Try.prog 32 #[.pointer (some ⟨b, 0, none⟩), .int .i64 v] w fun e w' => ∃ x : Int, e = .returned (.int .i64 x) ∧ Dn x ∧ Moved b w w' := by
  have M : Hid (Moved b w w) := Moved.refl hc
  clear hc
  go_enter Try.func32, Try.ntmps32
  go_wp2_with (go_at_call 34; refine (spoil_any b _ _ [-1, 40001, -9223372036854775808] _ _ _ (M.out.alloc _).1 (IntRow.made M.out.1.lt _ _ _ rfl) rfl (by decide) (by decide)).mono ?_; rintro e w2 ⟨y, rfl, hy, m2⟩; replace M : Hid (Moved b w w2) := (M.out.alloc _).trans m2; have HY : Hid _ := hy; clear m2 hy)
  go_returns
  exact ⟨_, rfl, by have := HY.out; simp at this; unfold Dn; omega, M.out⟩

end Go.Proofs.Ytadjdpoplaknkaa
