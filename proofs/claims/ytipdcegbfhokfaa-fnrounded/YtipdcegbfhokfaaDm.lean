/- The contract of what MulDiv is tried at: the draw answers four numbers and writes nothing that was there. -/
import Derived.Test.YtipdcegbfhokfaaAm
namespace Go.Proofs.Ytipdcegbfhokfaa
open Go.ChangeShapes Go.WideShapes Go.ChangeAt Go.RowKit
set_option linter.unusedVariables false
set_option linter.unusedSimpArgs false

theorem moved_below {w w1 w2 : World} (h : Below w.heap.size w w1) (m : Moved w.heap.size w1 w2) : Below w.heap.size w w2 :=
  h.trans (m.2.below (Nat.le_refl _) h.size)

set_option maxHeartbeats 2000000 in
theorem drawMulDiv_any (ad : Option Addr) (len cap : Nat) (w : World) (hl : len ≤ 9223372036854775000) (hr : ByteRow w w.heap.size ad len) :
    Calls Try.prog 12 #[.slice ad len cap] w fun e w' => ∃ a n d m : Int, e = .returned (.tuple #[.int .i64 a, .int .i64 n, .int .i64 d, .int .i64 m]) ∧ Below w.heap.size w w' := by
  have HR : Hid (ByteRow w w.heap.size ad len) := hr
  clear hr
  obtain ⟨b, hb⟩ : ∃ b, w.heap.size = b := ⟨_, rfl⟩
  have HB : Hid (w.heap.size = b) := hb
  have hnew : Calls Try.prog 36 #[.slice ad len cap] w fun e w' => e = .returned (.pointer (some ⟨b, 0, none⟩)) ∧ Moved b w' w' ∧ Below w.heap.size w w' := by
    refine (new_any ad len cap w hl HR.out).mono ?_
    rintro e w' ⟨rfl, h1, h2⟩
    exact ⟨by rw [hb], by rw [← hb]; exact Moved.refl h1, h2⟩
  have HN : Hid (Calls Try.prog 36 #[.slice ad len cap] w fun e w' => e = .returned (.pointer (some ⟨b, 0, none⟩)) ∧ Moved b w' w' ∧ Below w.heap.size w w') := hnew
  clear hnew hb
  have tok1 : True := trivial
  go_enter Try.func12, Try.ntmps12
  go_wp2_with (first
    | (go_at_call 36; refine HN.out.mono ?_; rintro e w0 ⟨rfl, m0, b0⟩; have B0 : Hid (Below w.heap.size w w0) := b0; have M : Hid (Moved b w0 w0) := m0; clear b0 m0)
    | (go_at_call 38; refine (amount_any b _ M.out.1).mono ?_; rintro e w1 ⟨x, rfl, m1⟩; replace M : Hid (Moved b w0 w1) := M.out.trans m1; clear m1)
    | (go_at_call 37; refine (badMoney_any b _ _ M.out.1).mono ?_; rintro e w1 ⟨x, rfl, m1⟩; replace M : Hid (Moved b w0 w1) := M.out.trans m1; clear m1)
    | (go_at_call 40; refine (factor_any b _ M.out.1).mono ?_; rintro e w1 ⟨x, rfl, x0, x1, m1⟩; replace M : Hid (Moved b w0 w1) := M.out.trans m1; clear m1)
    | (go_at_call 39; have _t := tok1; refine (spoil_any b _ _ [-1, 10000001] _ _ _ (M.out.alloc _).1 (IntRow.made M.out.1.lt _ _ _ rfl) rfl (by decide) (by decide)).mono ?_; rintro e w2 ⟨y, rfl, hy, m2⟩; replace M : Hid (Moved b w0 w2) := (M.out.alloc _).trans m2; clear m2 hy tok1)
    | (go_at_call 39; refine (spoil_any b _ _ [0, -1, 10000001] _ _ _ (M.out.alloc _).1 (IntRow.made M.out.1.lt _ _ _ rfl) rfl (by decide) (by decide)).mono ?_; rintro e w2 ⟨y, rfl, hy, m2⟩; replace M : Hid (Moved b w0 w2) := (M.out.alloc _).trans m2; clear m2 hy)
    | (go_at_call 41; refine (once_any b _ _ M.out.1).mono ?_; rintro e w1 ⟨x, rfl, m1⟩; replace M : Hid (Moved b w0 w1) := M.out.trans m1; clear m1; cases x)
    | (go_at_call 42; refine (below_any b _ _ M.out.1).mono ?_; rintro e w1 ⟨x, rfl, x0, x1, x2, m1⟩; replace M : Hid (Moved b w0 w1) := M.out.trans m1; clear m1 x2)
    | (go_at_call 43; refine (mode_any b _ M.out.1).mono ?_; rintro e w1 ⟨x, rfl, m1⟩; replace M : Hid (Moved b w0 w1) := M.out.trans m1; clear m1))

  all_goals
    refine bodyPost_ret (v := .tuple #[.int .i64 _, .int .i64 _, .int .i64 _, .int .i64 _]) (by simp [results, Try.results12, go_sem]; exact ⟨rfl, rfl, rfl, rfl⟩) rfl ⟨_, _, _, _, rfl, moved_below B0.out (by rw [HB.out]; exact M.out)⟩

end Go.Proofs.Ytipdcegbfhokfaa
