/- Contracts of the draws of an amount, a factor, a mode, a new cursor, and of what MulDiv is tried at: each answers numbers, moves the cursor on and writes nothing else. -/
import Derived.Test.YtipdcegbfhokfaaBl
namespace Go.Proofs.Ytipdcegbfhokfaa
open Go.ChangeShapes Go.WideShapes Go.ChangeAt Go.RowKit
set_option linter.unusedVariables false
set_option linter.unusedSimpArgs false

set_option maxHeartbeats 1000000 in
theorem amount_any (b : Nat) (w : World) (hc : Cursor w b) :
    Calls Try.prog 38 #[.pointer (some ⟨b, 0, none⟩)] w fun e w' => ∃ x : Int, e = .returned (.int .i64 x) ∧ Moved b w w' := by
  have M : Hid (Moved b w w) := Moved.refl hc
  have B : Hid (Cursor w b) := hc
  clear hc
  go_enter Try.func38, Try.ntmps38
  go_wp2_with (first | (go_at_call 42; refine (below_any b _ _ M.out.1).mono ?_; rintro e w1 ⟨x, rfl, x0, x1, x2, m1⟩; replace M : Hid (Moved b w w1) := M.out.trans m1; clear m1 x1 x2) | (go_at_call 45; refine (pick_any b _ [0, 1, -1, 100000000000, -100000000000, 99999999999, 99, 100, 101] _ _ _ (M.out.alloc _).1 (IntRow.made M.out.1.lt _ _ _ rfl) rfl (by decide) (by decide)).mono ?_; rintro e w2 ⟨y, rfl, hy, m2⟩; replace M : Hid (Moved b w w2) := (M.out.alloc _).trans m2; clear m2 hy))
  all_goals
    go_returns
    exact ⟨_, rfl, M.out⟩

theorem badMoney_any (b : Nat) (v : Int) (w : World) (hc : Cursor w b) :
    Calls Try.prog 37 #[.pointer (some ⟨b, 0, none⟩), .int .i64 v] w fun e w' => ∃ x : Int, e = .returned (.int .i64 x) ∧ Moved b w w' := by
  have M : Hid (Moved b w w) := Moved.refl hc
  clear hc
  go_enter Try.func37, Try.ntmps37
  go_wp2_with (go_at_call 39; refine (spoil_any b _ _ [100000000001, -100000000001, 9223372036854775807, -9223372036854775808] _ _ _ (M.out.alloc _).1 (IntRow.made M.out.1.lt _ _ _ rfl) rfl (by decide) (by decide)).mono ?_; rintro e w2 ⟨y, rfl, hy, m2⟩; replace M : Hid (Moved b w w2) := (M.out.alloc _).trans m2; clear m2 hy)
  go_returns
  exact ⟨_, rfl, M.out⟩

theorem fac_a {x : Int} (h : 0 ≤ x) (k : x < 2000) : 0 ≤ x ∧ x ≤ 10000000 := by omega
theorem fac_b {y : Int} (h : y ∈ [(0 : Int), 1, 10000000, 9999999, 2, 3]) : 0 ≤ y ∧ y ≤ 10000000 := by simp at h; omega

theorem factor_any (b : Nat) (w : World) (hc : Cursor w b) :
    Calls Try.prog 40 #[.pointer (some ⟨b, 0, none⟩)] w fun e w' => ∃ x : Int, e = .returned (.int .i64 x) ∧ 0 ≤ x ∧ x ≤ 10000000 ∧ Moved b w w' := by
  have M : Hid (Moved b w w) := Moved.refl hc
  clear hc
  go_enter Try.func40, Try.ntmps40
  go_wp2_with (first | (go_at_call 41; refine (once_any b _ _ M.out.1).mono ?_; rintro e w1 ⟨x, rfl, m1⟩; replace M : Hid (Moved b w w1) := M.out.trans m1; clear m1; cases x) | (go_at_call 42; refine (below_any b _ _ M.out.1).mono ?_; rintro e w1 ⟨x, rfl, x0, x1, x2, m1⟩; replace M : Hid (Moved b w w1) := M.out.trans m1; have X : Hid (0 ≤ x ∧ x ≤ 10000000) := fac_a x0 (x1 (by decide)); clear m1 x1 x2) | (go_at_call 45; refine (pick_any b _ [0, 1, 10000000, 9999999, 2, 3] _ _ _ (M.out.alloc _).1 (IntRow.made M.out.1.lt _ _ _ rfl) rfl (by decide) (by decide)).mono ?_; rintro e w2 ⟨y, rfl, hy, m2⟩; replace M : Hid (Moved b w w2) := (M.out.alloc _).trans m2; have X : Hid (0 ≤ y ∧ y ≤ 10000000) := fac_b hy; clear m2 hy))
  all_goals
    go_returns
    exact ⟨_, rfl, X.out.1, X.out.2, M.out⟩

theorem mode_any (b : Nat) (w : World) (hc : Cursor w b) :
    Calls Try.prog 43 #[.pointer (some ⟨b, 0, none⟩)] w fun e w' => ∃ x : Int, e = .returned (.int .i64 x) ∧ Moved b w w' := by
  have M : Hid (Moved b w w) := Moved.refl hc
  clear hc
  go_enter Try.func43, Try.ntmps43
  go_wp2_with (first | (go_at_call 42; refine (below_any b _ _ M.out.1).mono ?_; rintro e w1 ⟨x, rfl, x0, x1, x2, m1⟩; replace M : Hid (Moved b w w1) := M.out.trans m1; clear m1 x1 x2) | (go_at_call 39; refine (spoil_any b _ _ [0, 7, -1] _ _ _ (M.out.alloc _).1 (IntRow.made M.out.1.lt _ _ _ rfl) rfl (by decide) (by decide)).mono ?_; rintro e w2 ⟨y, rfl, hy, m2⟩; replace M : Hid (Moved b w w2) := (M.out.alloc _).trans m2; clear m2 hy))
  go_returns
  exact ⟨_, rfl, M.out⟩

theorem new_end {w : World} {ad : Option Addr} {len cap : Nat} (hr : ByteRow w w.heap.size ad len) (hl : len ≤ 9223372036854775000) (h : Int) : Cursor (w.alloc (.cells #[.slice ad len cap, .int .i64 0, .int .i64 h] 85)) w.heap.size := by
  refine ⟨ad, len, cap, 0, h, ?_, Nat.zero_le _, hl, hr.turns (Turns.of_below ((Below.refl _ _).alloc (Nat.le_refl _) _))⟩
  unfold CurB
  show (w.heap.push _)[w.heap.size]? = _
  simp [curT]


set_option maxRecDepth 20000 in
theorem new_any (ad : Option Addr) (len cap : Nat) (w : World) (hl : len ≤ 9223372036854775000) (hr : ByteRow w w.heap.size ad len) :
    Calls Try.prog 36 #[.slice ad len cap] w fun e w' => e = .returned (.pointer (some ⟨w.heap.size, 0, none⟩)) ∧ Cursor w' w.heap.size ∧ Below w.heap.size w w' := by
  have HR : Hid (ByteRow w w.heap.size ad len) := hr
  rcases hr with hz | ⟨kb, off, rfl, hb, hkw, hcc⟩
  · subst hz
    go_enter Try.func36, Try.ntmps36
    go_wp2
    refine wp_loop_rounds 1 ?_
    rw [rounds_succ]
    go_wp2
    go_returns
    exact ⟨rfl, new_end HR.out hl _, by go_grown⟩
  · have HCC : Hid (∀ j, j < len → ∃ c : Int, 0 ≤ c ∧ c ≤ 255 ∧ w.cell? ⟨kb, off + j, none⟩ = some (.int .u8 c)) := hcc
    clear hb hkw hcc
    go_enter Try.func36, Try.ntmps36
    go_wp2
    go_loop [3, 4] (fun g i => ∃ (k : Nat) (h : Int), k ≤ len ∧ i = .int .i64 k ∧ g = .int .i64 h) (fun _ i => len - (intOf i).toNat)
    case atStart => exact ⟨0, _, Nat.zero_le _, rfl, rfl⟩
    case round =>
      obtain ⟨k, h, hk, rfl, rfl⟩ := hrel
      by_cases hlt : k < len
      · obtain ⟨c, c0, c1, hcell⟩ := HCC.out k hlt
        by_cases h4 : (k : Int) < 4000
        · go_wp2
          go_round
          case rel => exact ⟨k + 1, _, by omega, by go_num, rfl⟩
          case measure => simp [intOf]; omega
        · go_wp2
          go_returns
          exact ⟨rfl, new_end HR.out hl _, by go_grown⟩
      · go_wp2
        go_returns
        exact ⟨rfl, new_end HR.out hl _, by go_grown⟩

end Go.Proofs.Ytipdcegbfhokfaa
