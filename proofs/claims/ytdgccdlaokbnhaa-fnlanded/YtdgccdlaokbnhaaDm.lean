/- What FnLanded wants: the first example, sums. -/
import Derived.Test.YtdgccdlaokbnhaaDl
namespace Go.Proofs.Ytdgccdlaokbnhaa
open Go Go.ChangeShapes Go.WideShapes Go.ChangeAt Go.RowKit
set_option linter.unusedVariables false
set_option linter.unusedSimpArgs false

theorem ByteRow.up {w W : World} {ad : Option Addr} {len : Nat} (H : ByteRow w w.heap.size ad len) (b : Below w.heap.size w W) : ByteRow W W.heap.size ad len := by
  rcases H with h | ⟨k, off, e, h1, h2, h3⟩
  · exact .inl h
  · exact .inr ⟨k, off, e, by have := b.size; omega, by have := b.size; omega, fun j hj => by obtain ⟨c, c0, c1, hc⟩ := h3 j hj; exact ⟨c, c0, c1, by rw [World.cell?_of_block (w := w) (b.block k h2)]; exact hc⟩⟩
set_option maxRecDepth 20000 in
theorem big_f (ad : Option Addr) (len cap : Nat) (w : World) (h : (len : Int) ≤ 1048576) :
    Calls Try.prog 13 #[.slice ad len cap] w fun e w' => e = .returned (.bool false) ∧ w' = w := by
  have hd : decide ((1048576 : Int) < (len : Int)) = false := decide_eq_false (by omega)
  go_enter Try.func13, Try.ntmps13
  go_wp2
  go_returns
  exact ⟨rfl, rfl⟩
def exL (j : Nat) : LA2 := if j = 0 then ⟨1, 30⟩ else ⟨3, 10⟩
theorem exL_sh : Sh.ShOk 8 2 (wtF 2 exL) := by
  refine ⟨by omega, by omega, fun j hj => ?_, by simp [Sh.sm, wtF, exL]⟩
  rcases (show j = 0 ∨ j = 1 by omega) with rfl | rfl <;> simp [wtF, exL]
theorem exL_v : Sh.shV 8 2 (wtF 2 exL) 0 = 2 ∧ Sh.shV 8 2 (wtF 2 exL) 1 = 6 := by
  obtain ⟨_, hf, _⟩ := Sh.shV_facts exL_sh
  have h0 := hf 0 (by omega)
  have h1 := hf 1 (by omega)
  have hs : Sh.sm (wtF 2 exL) 2 = 4 := by simp [Sh.sm, wtF, exL]
  have w0 : wtF 2 exL 0 = 1 := by simp [wtF, exL]
  have w1 : wtF 2 exL 1 = 3 := by simp [wtF, exL]
  rw [hs, w0] at h0
  rw [hs, w1] at h1
  omega
theorem exL_ok : LdP 2 exL 8 2 := by
  refine ⟨⟨by omega, fun j hj => ?_⟩, by omega, by omega, exL_sh, fun j hj => ?_⟩
  · rcases (show j = 0 ∨ j = 1 by omega) with rfl | rfl <;> rfl
  · obtain ⟨h0, h1⟩ := exL_v
    rcases (show j = 0 ∨ j = 1 by omega) with rfl | rfl
    · simp only [laF, h0]; simp [exL]
    · simp only [laF, h1]; simp [exL]
theorem exL_call (W : World) : Calls Try.prog 24 #[.slice (some ⟨W.heap.size, 0, none⟩) 2 2, .int .i64 8, .int .i64 2] (W.alloc (.cells #[.int .i64 1, .int .i64 30, .int .i64 3, .int .i64 10] 40 (0, 0))) fun e w' => ∃ g cap, e = .returned (.tuple #[.slice (some ⟨g, 0, none⟩) 2 cap, .bool true]) ∧ w'.cell? ⟨g, 1, none⟩ = some (.int .i64 32) ∧ w'.cell? ⟨g, 3, none⟩ = some (.int .i64 16) ∧ Below W.heap.size W w' := by
  have hr : LAr (W.alloc (.cells #[.int .i64 1, .int .i64 30, .int .i64 3, .int .i64 10] 40 (0, 0))) (some ⟨W.heap.size, 0, none⟩) 2 exL := LAr.of_block (CB.new _ _) 2 exL (fun j hj => by
    rcases (show j = 0 ∨ j = 1 by omega) with rfl | rfl <;> exact ⟨rfl, rfl⟩)
  have := implLanded_any _ 2 2 8 2 exL _ (by omega) hr
  unfold LdR at this
  rw [ldM_ok exL_ok, ldB_t exL_ok] at this
  refine this.mono ?_
  rintro e w' ⟨ad, cap, rfl, o, b⟩
  rcases o with h | ⟨g, cs, rfl, _, hC, hs, hc⟩
  · omega
  · obtain ⟨h0, h1⟩ := exL_v
    have q0 := (hc 0 (by omega)).2
    have q1 := (hc 1 (by omega)).2
    simp only [laF, h0, h1] at q0 q1
    refine ⟨g, cap, rfl, (hC.cell 1).trans q0, (hC.cell 3).trans q1, ?_⟩
    exact bel_on ((Below.refl _ _).alloc (Nat.le_refl _) _) b
theorem sm_bd {V : Nat → Int} {T : Int} (hT : 0 ≤ T) : ∀ n, (∀ j, j < n → 0 ≤ V j ∧ V j ≤ T) → 0 ≤ Sh.sm V n ∧ Sh.sm V n ≤ T * (n : Int)
  | 0, _ => by simp [Sh.sm]
  | n + 1, h => by
    obtain ⟨a, b⟩ := sm_bd hT n (fun j hj => h j (by omega))
    obtain ⟨c, d⟩ := h n (by omega)
    rw [Sh.sm_succ, show ((n + 1 : Nat) : Int) = (n : Int) + 1 by omega, Int.mul_add, Int.mul_one]
    omega
end Go.Proofs.Ytdgccdlaokbnhaa
