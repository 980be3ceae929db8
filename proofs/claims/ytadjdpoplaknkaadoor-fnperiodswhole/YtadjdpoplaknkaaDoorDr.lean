/- Contracts of the draws of a day, of a day and a number of months. -/
import Derived.Test.YtadjdpoplaknkaaDoorNw
import Derived.Test.YtadjdpoplaknkaaDoorMe
namespace Go.Proofs.YtadjdpoplaknkaaDoor
open Go.ChangeShapes Go.WideShapes Go.ChangeAt Go.RowKit
set_option linter.unusedVariables false
set_option linter.unusedSimpArgs false

def Dn (x : Int) : Prop := (0 ≤ x ∧ x ≤ 40000) ∨ x = -1 ∨ x = 40001 ∨ x = -9223372036854775808

theorem Dn.in64 {x : Int} (h : Dn x) : -9223372036854775808 ≤ x ∧ x ≤ 40001 := by unfold Dn at h; omega

theorem dd_list {y : Int} (h : y ∈ [(0 : Int), 1, 30, 31, 58, 59, 60, 365, 366, 36524, 40000, 39999]) : 0 ≤ y ∧ y ≤ 40000 := by simp at h; omega

set_option maxHeartbeats 1000000 in
theorem drawDay_any (b : Nat) (w : World) (hc : Cursor w b) :
    Calls Tryd.prog 34 #[.pointer (some ⟨b, 0, none⟩)] w fun e w' => ∃ x : Int, e = .returned (.int .i64 x) ∧ 0 ≤ x ∧ x ≤ 40000 ∧ Moved b w w' := by
  have M : Hid (Moved b w w) := Moved.refl hc
  clear hc
  go_enter Tryd.func34, Tryd.ntmps34
  go_wp2_with (first | (go_at_call 42; refine (below_any b _ _ M.out.1).mono ?_; rintro e w1 ⟨x, rfl, x0, x1, x2, m1⟩; replace M : Hid (Moved b w w1) := M.out.trans m1; have x3 := x1 (by decide); clear m1 x1 x2) | (go_at_call 51; refine (pick_any b _ [0, 1, 30, 31, 58, 59, 60, 365, 366, 36524, 40000, 39999] _ _ _ (M.out.alloc _).1 (IntRow.made M.out.1.lt _ _ _ rfl) rfl (by decide) (by decide)).mono ?_; rintro e w2 ⟨y, rfl, hy, m2⟩; replace M : Hid (Moved b w w2) := (M.out.alloc _).trans m2; have y0 := dd_list hy; clear m2 hy))
  all_goals
    go_returns
    exact ⟨_, rfl, by omega, by omega, M.out⟩

theorem badDay_any (b : Nat) (v : Int) (w : World) (hc : Cursor w b) (h0 : 0 ≤ v) (h1 : v ≤ 40000) :
    Calls Tryd.prog 33 #[.pointer (some ⟨b, 0, none⟩), .int .i64 v] w fun e w' => ∃ x : Int, e = .returned (.int .i64 x) ∧ Dn x ∧ Moved b w w' := by
  have M : Hid (Moved b w w) := Moved.refl hc
  clear hc
  go_enter Tryd.func33, Tryd.ntmps33
  go_wp2_with (go_at_call 41; refine (spoil_any b _ _ [-1, 40001, -9223372036854775808] _ _ _ (M.out.alloc _).1 (IntRow.made M.out.1.lt _ _ _ rfl) rfl (by decide) (by decide)).mono ?_; rintro e w2 ⟨y, rfl, hy, m2⟩; replace M : Hid (Moved b w w2) := (M.out.alloc _).trans m2; have HY : Hid _ := hy; clear m2 hy)
  go_returns
  exact ⟨_, rfl, by have := HY.out; simp at this; unfold Dn; omega, M.out⟩

set_option maxHeartbeats 2000000 in
theorem drawDateOf_any (ad : Option Addr) (len cap : Nat) (w : World) (hl : len ≤ 9223372036854775000) (hr : ByteRow w w.heap.size ad len) :
    Calls Tryd.prog 12 #[.slice ad len cap] w fun e w' => ∃ a : Int, e = .returned (.int .i64 a) ∧ Dn a ∧ Below w.heap.size w w' := by
  have HR : Hid (ByteRow w w.heap.size ad len) := hr
  clear hr
  obtain ⟨b, hb⟩ : ∃ b, w.heap.size = b := ⟨_, rfl⟩
  have HB : Hid (w.heap.size = b) := hb
  have hnew : Calls Tryd.prog 32 #[.slice ad len cap] w fun e w' => e = .returned (.pointer (some ⟨b, 0, none⟩)) ∧ Moved b w' w' ∧ Below w.heap.size w w' := by
    refine (new_any ad len cap w hl HR.out).mono ?_
    rintro e w' ⟨rfl, h1, h2⟩
    exact ⟨by rw [hb], by rw [← hb]; exact Moved.refl h1, h2⟩
  have HN : Hid (Calls Tryd.prog 32 #[.slice ad len cap] w fun e w' => e = .returned (.pointer (some ⟨b, 0, none⟩)) ∧ Moved b w' w' ∧ Below w.heap.size w w') := hnew
  clear hnew hb
  go_enter Tryd.func12, Tryd.ntmps12
  go_wp2_with (first
    | (go_at_call 32; refine HN.out.mono ?_; rintro e w0 ⟨rfl, m0, b0⟩; have B0 : Hid (Below w.heap.size w w0) := b0; have M : Hid (Moved b w0 w0) := m0; clear b0 m0)
    | (go_at_call 34; refine (drawDay_any b _ M.out.1).mono ?_; rintro e w1 ⟨x, rfl, x0, x1, m1⟩; replace M : Hid (Moved b w0 w1) := M.out.trans m1; clear m1)
    | (go_at_call 33; refine (badDay_any b _ _ M.out.1 x0 x1).mono ?_; rintro e w1 ⟨y, rfl, hy, m1⟩; replace M : Hid (Moved b w0 w1) := M.out.trans m1; have HY : Hid _ := hy; clear m1 hy))
  go_returns
  exact ⟨_, rfl, HY.out, moved_below B0.out (by rw [HB.out]; exact M.out)⟩

theorem mendV_in64 (x : Int) : -1 ≤ mendV x ∧ mendV x ≤ 40000 := by
  unfold mendV
  split
  · unfold dayV
    split
    · rename_i h g
      exact ⟨by have := sumV_nonneg (y := (dat x).1) (m := (dat x).2.1) g.2.2.2.1; omega, g.2.2.2.2.2⟩
    · omega
  · omega

set_option maxHeartbeats 2000000 in
theorem drawAddMonths_any (ad : Option Addr) (len cap : Nat) (w : World) (hl : len ≤ 9223372036854775000) (hr : ByteRow w w.heap.size ad len) :
    Calls Tryd.prog 17 #[.slice ad len cap] w fun e w' => ∃ a n : Int, e = .returned (.tuple #[.int .i64 a, .int .i64 n]) ∧ Below w.heap.size w w' := by
  have HR : Hid (ByteRow w w.heap.size ad len) := hr
  clear hr
  obtain ⟨b, hb⟩ : ∃ b, w.heap.size = b := ⟨_, rfl⟩
  have HB : Hid (w.heap.size = b) := hb
  have hnew : Calls Tryd.prog 32 #[.slice ad len cap] w fun e w' => e = .returned (.pointer (some ⟨b, 0, none⟩)) ∧ Moved b w' w' ∧ Below w.heap.size w w' := by
    refine (new_any ad len cap w hl HR.out).mono ?_
    rintro e w' ⟨rfl, h1, h2⟩
    exact ⟨by rw [hb], by rw [← hb]; exact Moved.refl h1, h2⟩
  have HN : Hid (Calls Tryd.prog 32 #[.slice ad len cap] w fun e w' => e = .returned (.pointer (some ⟨b, 0, none⟩)) ∧ Moved b w' w' ∧ Below w.heap.size w w') := hnew
  clear hnew hb
  go_enter Tryd.func17, Tryd.ntmps17
  go_wp2_with (first
    | (go_at_call 32; refine HN.out.mono ?_; rintro e w0 ⟨rfl, m0, b0⟩; have B0 : Hid (Below w.heap.size w w0) := b0; have M : Hid (Moved b w0 w0) := m0; clear b0 m0)
    | (go_at_call 34; refine (drawDay_any b _ M.out.1).mono ?_; rintro e w1 ⟨x, rfl, x0, x1, m1⟩; replace M : Hid (Moved b w0 w1) := M.out.trans m1; clear m1)
    | (go_at_call 33; refine (badDay_any b _ _ M.out.1 x0 x1).mono ?_; rintro e w1 ⟨y, rfl, hy, m1⟩; replace M : Hid (Moved b w0 w1) := M.out.trans m1; clear m1 hy)
    | (go_at_call 40; refine (once_any b _ _ M.out.1).mono ?_; rintro e w1 ⟨q, rfl, m1⟩; replace M : Hid (Moved b w0 w1) := M.out.trans m1; clear m1; rcases q)
    | (go_at_call 28; refine (specMonthEnd_any _ _).mono ?_; rintro e w1 ⟨rfl, m1⟩; replace M : Hid (Moved b w0 w1) := ⟨M.out.1.below m1, M.out.2.trans (Turns.of_below m1)⟩; clear m1)
    | (go_at_call 42; refine (below_any b _ _ M.out.1).mono ?_; rintro e w1 ⟨z, rfl, z0, z1, z2, m1⟩; replace M : Hid (Moved b w0 w1) := M.out.trans m1; have z3 := z1 (by decide); clear m1 z2 z1)
    | (go_at_call 41; refine (spoil_any b _ _ [1200, -1200, 1201, -1201, 600] _ _ _ (M.out.alloc _).1 (IntRow.made M.out.1.lt _ _ _ rfl) rfl (by decide) (by decide)).mono ?_; rintro e w2 ⟨v, rfl, hv, m2⟩; replace M : Hid (Moved b w0 w2) := (M.out.alloc _).trans m2; clear m2 hv))
  all_goals
    go_returns
    exact ⟨_, _, rfl, moved_below B0.out (by rw [HB.out]; exact M.out)⟩

end Go.Proofs.YtadjdpoplaknkaaDoor
