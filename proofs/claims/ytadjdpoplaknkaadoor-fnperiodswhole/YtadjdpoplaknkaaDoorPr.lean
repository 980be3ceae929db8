/- Rows of pairs of whole numbers in memory. Nothing of the program. -/
import Derived.Test.YtadjdpoplaknkaaDoorIr
import Derived.Laws.MakeOwn
namespace Go.Proofs.YtadjdpoplaknkaaDoor
open Go.RowKit
set_option linter.unusedVariables false

/-- A slice's first 'len' elements are the pairs (x 0, y 0), (x 1, y 1), .. -/
def PR (w : World) (ad : Option Addr) (len : Nat) (x y : Nat → Int) : Prop :=
  len = 0 ∨ ∃ k off, ad = some ⟨k, off, none⟩ ∧ k < w.heap.size ∧ ∀ j, j < len → w.cell? ⟨k, off + j * 2, none⟩ = some (.int .i64 (x j)) ∧ w.cell? ⟨k, off + j * 2 + 1, none⟩ = some (.int .i64 (y j))

theorem PR.below {w w' : World} {ad : Option Addr} {len : Nat} {x y : Nat → Int} (H : PR w ad len x y) (t : Below w.heap.size w w') : PR w' ad len x y := by
  rcases H with h | ⟨k, off, e, hk, hc⟩
  · exact .inl h
  · refine .inr ⟨k, off, e, Nat.lt_of_lt_of_le hk t.size, fun j hj => ?_⟩
    have e : ∀ o, w'.cell? ⟨k, o, none⟩ = w.cell? ⟨k, o, none⟩ := fun o => World.cell?_of_block (w := w) (t.block k hk)
    rw [e, e]; exact hc j hj

theorem PR.alloc {w : World} {ad : Option Addr} {len : Nat} {x y : Nat → Int} (H : PR w ad len x y) (o : Obj) : PR (w.alloc o) ad len x y := H.below ((Below.refl _ _).alloc (Nat.le_refl _) o)
theorem PR.drewN {w : World} {ad : Option Addr} {len : Nat} {x y : Nat → Int} (H : PR w ad len x y) (q : Nat) : PR (w.drewN q) ad len x y := H

theorem PR.cell {w : World} {k off len : Nat} {x y : Nat → Int} (H : PR w (some ⟨k, off, none⟩) len x y) {j : Nat} (hj : j < len) : w.cell? ⟨k, off + j * 2, none⟩ = some (.int .i64 (x j)) ∧ w.cell? ⟨k, off + j * 2 + 1, none⟩ = some (.int .i64 (y j)) := by
  rcases H with h | ⟨k', off', e, hk, hc⟩
  · omega
  · simp only [Option.some.injEq, Addr.mk.injEq] at e
    obtain ⟨rfl, rfl, _⟩ := e
    exact hc j hj

theorem PR.addr {w : World} {ad : Option Addr} {len : Nat} {x y : Nat → Int} (H : PR w ad len x y) (h : 0 < len) : ∃ k off, ad = some ⟨k, off, none⟩ ∧ k < w.heap.size := by
  rcases H with h' | ⟨k', off', e, hk, hc⟩
  · omega
  · exact ⟨k', off', e, hk⟩

theorem PR.of_block {w : World} {b : Nat} {cs : Array Value} {t : TypeId} (H : CB w b cs t) (n : Nat) (x y : Nat → Int) (h : ∀ j, j < n → cs[j * 2]? = some (.int .i64 (x j)) ∧ cs[j * 2 + 1]? = some (.int .i64 (y j))) : PR w (some ⟨b, 0, none⟩) n x y :=
  .inr ⟨b, 0, rfl, H.lt, fun j hj => by rw [Nat.zero_add, H.cell, H.cell]; exact h j hj⟩

/-- A new row of n pairs of noughts. -/
def zeros2 (n : Nat) : Array Value := madeCells #[.int .i64 0, .int .i64 0] (n * 2)
theorem zeros2_size (n : Nat) : (zeros2 n).size = n * 2 := size_madeCells _ _

end Go.Proofs.YtadjdpoplaknkaaDoor
