/- Contracts of the draws of an amount, a factor, a mode, a new cursor, and of what MulDiv is tried at: each answers numbers, moves the cursor on and writes nothing else. -/
import Derived.Test.YtipdcegbfhokfaaDoorBl
namespace Go.Proofs.YtipdcegbfhokfaaDoor
open Go.ChangeShapes Go.WideShapes Go.ChangeAt Go.RowKit
set_option linter.unusedVariables false
set_option linter.unusedSimpArgs false

theorem am_list {y : Int} (h : y ∈ [(0 : Int), 1, -1, 100000000000, -100000000000, 99999999999, 99, 100, 101]) : -100000000000 ≤ y ∧ y ≤ 100000000000 := by simp at h; omega

set_option maxHeartbeats 1000000 in
theorem amount_any (b : Nat) (w : World) (hc : Cursor w b) :
    Calls Tryd.prog 13 #[.pointer (some ⟨b, 0, none⟩)] w fun e w' => ∃ x : Int, e = .returned (.int .i64 x) ∧ -100000000000 ≤ x ∧ x ≤ 100000000000 ∧ Moved b w w' := by
  have M : Hid (Moved b w w) := Moved.refl hc
  have B : Hid (Cursor w b) := hc
  clear hc
  go_enter Tryd.func13, Tryd.ntmps13
  go_wp2_with (first | (go_at_call 15; refine (below_any b _ _ M.out.1).mono ?_; rintro e w1 ⟨x, rfl, x0, x1, x2, m1⟩; replace M : Hid (Moved b w w1) := M.out.trans m1; have x3 := x1 (by decide); clear m1 x1 x2) | (go_at_call 29; refine (pick_any b _ [0, 1, -1, 100000000000, -100000000000, 99999999999, 99, 100, 101] _ _ _ (M.out.alloc _).1 (IntRow.made M.out.1.lt _ _ _ rfl) rfl (by decide) (by decide)).mono ?_; rintro e w2 ⟨y, rfl, hy, m2⟩; replace M : Hid (Moved b w w2) := (M.out.alloc _).trans m2; have y0 := am_list hy; clear m2 hy))
  all_goals
    go_returns
    exact ⟨_, rfl, by omega, by omega, M.out⟩

theorem badMoney_any (b : Nat) (v : Int) (w : World) (hc : Cursor w b) :
    Calls Tryd.prog 12 #[.pointer (some ⟨b, 0, none⟩), .int .i64 v] w fun e w' => ∃ x : Int, e = .returned (.int .i64 x) ∧ (x = v ∨ x = 100000000001 ∨ x = -100000000001 ∨ x = 9223372036854775807 ∨ x = -9223372036854775808) ∧ Moved b w w' := by
  have M : Hid (Moved b w w) := Moved.refl hc
  clear hc
  go_enter Tryd.func12, Tryd.ntmps12
  go_wp2_with (go_at_call 14; refine (spoil_any b _ _ [100000000001, -100000000001, 9223372036854775807, -9223372036854775808] _ _ _ (M.out.alloc _).1 (IntRow.made M.out.1.lt _ _ _ rfl) rfl (by decide) (by decide)).mono ?_; rintro e w2 ⟨y, rfl, hy, m2⟩; replace M : Hid (Moved b w w2) := (M.out.alloc _).trans m2; have HY : Hid _ := hy; clear m2 hy)
  go_returns
  exact ⟨_, rfl, by have := HY.out; simpa using this, M.out⟩

theorem new_end {w : World} {ad : Option Addr} {len cap : Nat} (hr : ByteRow w w.heap.size ad len) (hl : len ≤ 9223372036854775000) (h : Int) : Cursor (w.alloc (.cells #[.slice ad len cap, .int .i64 0, .int .i64 h] 48)) w.heap.size := by
  refine ⟨ad, len, cap, 0, h, ?_, Nat.zero_le _, hl, hr.turns (Turns.of_below ((Below.refl _ _).alloc (Nat.le_refl _) _))⟩
  unfold CurB
  show (w.heap.push _)[w.heap.size]? = _
  simp [curT]


set_option maxRecDepth 20000 in
theorem new_any (ad : Option Addr) (len cap : Nat) (w : World) (hl : len ≤ 9223372036854775000) (hr : ByteRow w w.heap.size ad len) :
    Calls Tryd.prog 11 #[.slice ad len cap] w fun e w' => e = .returned (.pointer (some ⟨w.heap.size, 0, none⟩)) ∧ Cursor w' w.heap.size ∧ Below w.heap.size w w' := by
  have HR : Hid (ByteRow w w.heap.size ad len) := hr
  rcases hr with hz | ⟨kb, off, rfl, hb, hkw, hcc⟩
  · subst hz
    go_enter Tryd.func11, Tryd.ntmps11
    go_wp2
    refine wp_loop_rounds 1 ?_
    rw [rounds_succ]
    go_wp2
    go_returns
    exact ⟨rfl, new_end HR.out hl _, by go_grown⟩
  · have HCC : Hid (∀ j, j < len → ∃ c : Int, 0 ≤ c ∧ c ≤ 255 ∧ w.cell? ⟨kb, off + j, none⟩ = some (.int .u8 c)) := hcc
    clear hb hkw hcc
    go_enter Tryd.func11, Tryd.ntmps11
    go_wp2
    go_loop [3, 4] (fun g i => ∃ (k : Nat) (h : Int), k ≤ len ∧ i = .int .i64 k ∧ g = .int .i64 h) (fun _ i => len - (intOf i).toNat)
    case atStart => exact ⟨0, _, Nat.zero_le _, rfl, rfl⟩
    case round =>
      obtain ⟨k, h, hk, rfl, rfl⟩ := hrel
      by_cases hlt : k < len
      · obtain ⟨c, c0, c1, hcell⟩ := HCC.out k hlt
        by_cases h4 : (k : Int) < 4000
        · go_wp2
          go_round
          case rel => exact ⟨k + 1, _, by omega, by go_num, rfl⟩
          case measure => simp [intOf]; omega
        · go_wp2
          go_returns
          exact ⟨rfl, new_end HR.out hl _, by go_grown⟩
      · go_wp2
        go_returns
        exact ⟨rfl, new_end HR.out hl _, by go_grown⟩

theorem moved_below {w w1 w2 : World} (h : Below w.heap.size w w1) (m : Moved w.heap.size w1 w2) : Below w.heap.size w w2 :=
  h.trans (m.2.below (Nat.le_refl _) h.size)

/-- What a drawn amount may be: an amount, or a number past its edges. -/
def Drawn (a : Int) : Prop := (-100000000000 ≤ a ∧ a ≤ 100000000000) ∨ a = 100000000001 ∨ a = -100000000001 ∨ a = 9223372036854775807 ∨ a = -9223372036854775808

set_option maxHeartbeats 2000000 in
theorem drawShow_any (ad : Option Addr) (len cap : Nat) (w : World) (hl : len ≤ 9223372036854775000) (hr : ByteRow w w.heap.size ad len) :
    Calls Tryd.prog 6 #[.slice ad len cap] w fun e w' => ∃ a m : Int, e = .returned (.tuple #[.int .i64 a, .int .i64 m]) ∧ Drawn a ∧ Below w.heap.size w w' := by
  have HR : Hid (ByteRow w w.heap.size ad len) := hr
  clear hr
  obtain ⟨b, hb⟩ : ∃ b, w.heap.size = b := ⟨_, rfl⟩
  have HB : Hid (w.heap.size = b) := hb
  have hnew : Calls Tryd.prog 11 #[.slice ad len cap] w fun e w' => e = .returned (.pointer (some ⟨b, 0, none⟩)) ∧ Moved b w' w' ∧ Below w.heap.size w w' := by
    refine (new_any ad len cap w hl HR.out).mono ?_
    rintro e w' ⟨rfl, h1, h2⟩
    exact ⟨by rw [hb], by rw [← hb]; exact Moved.refl h1, h2⟩
  have HN : Hid (Calls Tryd.prog 11 #[.slice ad len cap] w fun e w' => e = .returned (.pointer (some ⟨b, 0, none⟩)) ∧ Moved b w' w' ∧ Below w.heap.size w w') := hnew
  clear hnew hb
  go_enter Tryd.func6, Tryd.ntmps6
  go_wp2_with (first
    | (go_at_call 11; refine HN.out.mono ?_; rintro e w0 ⟨rfl, m0, b0⟩; have B0 : Hid (Below w.heap.size w w0) := b0; have M : Hid (Moved b w0 w0) := m0; clear b0 m0)
    | (go_at_call 13; refine (amount_any b _ M.out.1).mono ?_; rintro e w1 ⟨x, rfl, x0, x1, m1⟩; replace M : Hid (Moved b w0 w1) := M.out.trans m1; clear m1)
    | (go_at_call 12; refine (badMoney_any b _ _ M.out.1).mono ?_; rintro e w1 ⟨y, rfl, hy, m1⟩; replace M : Hid (Moved b w0 w1) := M.out.trans m1; have HY : Hid _ := hy; clear m1 hy)
    | (go_at_call 15; refine (below_any b _ _ M.out.1).mono ?_; rintro e w1 ⟨z, rfl, z0, z1, z2, m1⟩; replace M : Hid (Moved b w0 w1) := M.out.trans m1; clear m1 z2)
    | (go_at_call 14; refine (spoil_any b _ _ [-1, 7] _ _ _ (M.out.alloc _).1 (IntRow.made M.out.1.lt _ _ _ rfl) rfl (by decide) (by decide)).mono ?_; rintro e w2 ⟨v, rfl, hv, m2⟩; replace M : Hid (Moved b w0 w2) := (M.out.alloc _).trans m2; clear m2 hv))
  go_returns
  exact ⟨_, _, rfl, by have := HY.out; unfold Drawn; omega, moved_below B0.out (by rw [HB.out]; exact M.out)⟩

end Go.Proofs.YtipdcegbfhokfaaDoor
