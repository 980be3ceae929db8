/- The contract of a new cursor over a draw's bytes. -/
import Derived.Test.YtbhghghkgojpgaaXl
namespace Go.Proofs.Ytbhghghkgojpgaa
open Go.ChangeShapes Go.WideShapes Go.ChangeAt Go.RowKit
set_option linter.unusedVariables false
set_option linter.unusedSimpArgs false

theorem new_end {w : World} {ad : Option Addr} {len cap : Nat} (hr : ByteRow w w.heap.size ad len) (hl : len ≤ 9223372036854775000) (h : Int) : Cursor (w.alloc (.cells #[.slice ad len cap, .int .i64 0, .int .i64 h] 112)) w.heap.size := by
  refine ⟨ad, len, cap, 0, h, ?_, Nat.zero_le _, hl, hr.turns (Turns.of_below ((Below.refl _ _).alloc (Nat.le_refl _) _))⟩
  unfold CurB
  show (w.heap.push _)[w.heap.size]? = _
  simp [curT]


set_option maxRecDepth 20000 in
theorem new_any (ad : Option Addr) (len cap : Nat) (w : World) (hl : len ≤ 9223372036854775000) (hr : ByteRow w w.heap.size ad len) :
    Calls Try.prog 36 #[.slice ad len cap] w fun e w' => e = .returned (.pointer (some ⟨w.heap.size, 0, none⟩)) ∧ Cursor w' w.heap.size ∧ Below w.heap.size w w' := by
  have HR : Hid (ByteRow w w.heap.size ad len) := hr
  rcases hr with hz | ⟨kb, off, rfl, hb, hkw, hcc⟩
  · subst hz
    go_enter Try.func36, Try.ntmps36
    go_wp2
    refine wp_loop_rounds 1 ?_
    rw [rounds_succ]
    go_wp2
    go_returns
    exact ⟨rfl, new_end HR.out hl _, by go_grown⟩
  · have HCC : Hid (∀ j, j < len → ∃ c : Int, 0 ≤ c ∧ c ≤ 255 ∧ w.cell? ⟨kb, off + j, none⟩ = some (.int .u8 c)) := hcc
    clear hb hkw hcc
    go_enter Try.func36, Try.ntmps36
    go_wp2
    go_loop [3, 4] (fun g i => ∃ (k : Nat) (h : Int), k ≤ len ∧ i = .int .i64 k ∧ g = .int .i64 h) (fun _ i => len - (intOf i).toNat)
    case atStart => exact ⟨0, _, Nat.zero_le _, rfl, rfl⟩
    case round =>
      obtain ⟨k, h, hk, rfl, rfl⟩ := hrel
      by_cases hlt : k < len
      · obtain ⟨c, c0, c1, hcell⟩ := HCC.out k hlt
        by_cases h4 : (k : Int) < 4000
        · go_wp2
          go_round
          case rel => exact ⟨k + 1, _, by omega, by go_num, rfl⟩
          case measure => simp [intOf]; omega
        · go_wp2
          go_returns
          exact ⟨rfl, new_end HR.out hl _, by go_grown⟩
      · go_wp2
        go_returns
        exact ⟨rfl, new_end HR.out hl _, by go_grown⟩

theorem moved_below {w w1 w2 : World} (h : Below w.heap.size w w1) (m : Moved w.heap.size w1 w2) : Below w.heap.size w w2 :=
  h.trans (m.2.below (Nat.le_refl _) h.size)

end Go.Proofs.Ytbhghghkgojpgaa
