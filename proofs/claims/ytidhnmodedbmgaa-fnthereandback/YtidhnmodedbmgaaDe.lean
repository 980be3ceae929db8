/- Contracts of the draws of a day. -/
import Derived.Test.YtidhnmodedbmgaaNw
namespace Go.Proofs.Ytidhnmodedbmgaa
open Go.ChangeShapes Go.WideShapes Go.ChangeAt Go.RowKit
set_option linter.unusedVariables false
set_option linter.unusedSimpArgs false

def Dn (x : Int) : Prop := (0 ≤ x ∧ x ≤ 40000) ∨ x = -1 ∨ x = 40001 ∨ x = -9223372036854775808

theorem Dn.in64 {x : Int} (h : Dn x) : -9223372036854775808 ≤ x ∧ x ≤ 40001 := by unfold Dn at h; omega

theorem dd_list {y : Int} (h : y ∈ [(0 : Int), 1, 30, 31, 58, 59, 60, 365, 366, 36524, 40000, 39999]) : 0 ≤ y ∧ y ≤ 40000 := by simp at h; omega

theorem badDay_any (b : Nat) (v : Int) (w : World) (hc : Cursor w b) :
    Calls Try.prog 39 #[.pointer (some ⟨b, 0, none⟩), .int .i64 v] w fun e w' => ∃ x : Int, e = .returned (.int .i64 x) ∧ Moved b w w' := by
  have M : Hid (Moved b w w) := Moved.refl hc
  clear hc
  go_enter Try.func39, Try.ntmps39
  go_wp2_with (go_at_call 38; refine (spoil_any b _ _ [-1, 40001, -9223372036854775808] _ _ _ (M.out.alloc _).1 (IntRow.made M.out.1.lt _ _ _ rfl) rfl (by decide) (by decide)).mono ?_; rintro e w2 ⟨y, rfl, hy, m2⟩; replace M : Hid (Moved b w w2) := (M.out.alloc _).trans m2; have HY : Hid _ := hy; clear m2 hy)
  go_returns
  exact ⟨_, rfl, M.out⟩

end Go.Proofs.Ytidhnmodedbmgaa
