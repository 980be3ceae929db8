/- The contract of the draw of what Periods is tried at: three numbers. -/
import Derived.Test.YtadjdpoplaknkaaDoorDr
namespace Go.Proofs.YtadjdpoplaknkaaDoor
open Go.ChangeShapes Go.WideShapes Go.ChangeAt Go.RowKit
set_option linter.unusedVariables false
set_option linter.unusedSimpArgs false

set_option maxHeartbeats 4000000 in
theorem drawPeriods_any (ad : Option Addr) (len cap : Nat) (w : World) (hl : len ≤ 9223372036854775000) (hr : ByteRow w w.heap.size ad len) :
    Calls Tryd.prog 20 #[.slice ad len cap] w fun e w' => ∃ a b c : Int, e = .returned (.tuple #[.int .i64 a, .int .i64 b, .int .i64 c]) ∧ Below w.heap.size w w' := by
  have HR : Hid (ByteRow w w.heap.size ad len) := hr
  clear hr
  obtain ⟨b, hb⟩ : ∃ b, w.heap.size = b := ⟨_, rfl⟩
  have HB : Hid (w.heap.size = b) := hb
  have hnew : Calls Tryd.prog 32 #[.slice ad len cap] w fun e w' => e = .returned (.pointer (some ⟨b, 0, none⟩)) ∧ Moved b w' w' ∧ Below w.heap.size w w' := by
    refine (new_any ad len cap w hl HR.out).mono ?_
    rintro e w' ⟨rfl, h1, h2⟩
    exact ⟨by rw [hb], by rw [← hb]; exact Moved.refl h1, h2⟩
  have HN : Hid (Calls Tryd.prog 32 #[.slice ad len cap] w fun e w' => e = .returned (.pointer (some ⟨b, 0, none⟩)) ∧ Moved b w' w' ∧ Below w.heap.size w w') := hnew
  clear hnew hb
  have tok1 : True := trivial
  go_enter Tryd.func20, Tryd.ntmps20
  go_wp2_with (first
    | (go_at_call 32; refine HN.out.mono ?_; rintro e w0 ⟨rfl, m0, b0⟩; have B0 : Hid (Below w.heap.size w w0) := b0; have M : Hid (Moved b w0 w0) := m0; clear b0 m0)
    | (go_at_call 42; refine (below_any b _ _ M.out.1).mono ?_; rintro e w1 ⟨z, rfl, z0, z1, z2, m1⟩; replace M : Hid (Moved b w0 w1) := M.out.trans m1; have z3 := z1 (by decide); clear m1 z2 z1)
    | (go_at_call 41; clear tok1; refine (spoil_any b _ _ [0, 4] _ _ _ (M.out.alloc _).1 (IntRow.made M.out.1.lt _ _ _ rfl) rfl (by decide) (by decide)).mono ?_; rintro e w2 ⟨v, rfl, hv, m2⟩; replace M : Hid (Moved b w0 w2) := (M.out.alloc _).trans m2; clear m2 hv)
    | (go_at_call 34; refine (drawDay_any b _ M.out.1).mono ?_; rintro e w1 ⟨x, rfl, x0, x1, m1⟩; replace M : Hid (Moved b w0 w1) := M.out.trans m1; clear m1)
    | (go_at_call 33; refine (badDay_any b _ _ M.out.1 x0 x1).mono ?_; rintro e w1 ⟨y, rfl, hy, m1⟩; replace M : Hid (Moved b w0 w1) := M.out.trans m1; clear m1 hy)
    | (go_at_call 40; refine (once_any b _ _ M.out.1).mono ?_; rintro e w1 ⟨q, rfl, m1⟩; replace M : Hid (Moved b w0 w1) := M.out.trans m1; clear m1; rcases q)
    | (go_at_call 24; refine (specDayOf_any _ _ _ _).mono ?_; rintro e w1 ⟨rfl, m1⟩; replace M : Hid (Moved b w0 w1) := ⟨M.out.1.below m1, M.out.2.trans (Turns.of_below m1)⟩; clear m1)
    | (go_at_call 41; refine (spoil_any b _ _ [0, 60, 61] _ _ _ (M.out.alloc _).1 (IntRow.made M.out.1.lt _ _ _ rfl) rfl (by decide) (by decide)).mono ?_; rintro e w2 ⟨v2, rfl, hv, m2⟩; replace M : Hid (Moved b w0 w2) := (M.out.alloc _).trans m2; clear m2 hv))
  all_goals
    go_returns
    exact ⟨_, _, _, rfl, moved_below B0.out (by rw [HB.out]; exact M.out)⟩

end Go.Proofs.YtadjdpoplaknkaaDoor
