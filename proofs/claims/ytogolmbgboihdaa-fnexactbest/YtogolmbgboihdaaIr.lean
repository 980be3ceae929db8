/- Blocks of cells and rows of whole numbers in memory, and what stores, new blocks and calls leave of them. Nothing of the program. -/
import Derived.WalkKit
import Derived.ProofKit
import Derived.Below
import Derived.OneCell
import Derived.Handy
import Derived.BigQuiet
namespace Go.Proofs.Ytogolmbgboihdaa
open Go.RowKit
set_option linter.unusedVariables false

/-- Block b holds these cells. -/
def CB (w : World) (b : Nat) (cs : Array Value) (t : TypeId) : Prop := w.heap[b]? = some (.cells cs t (0, 0))

section
variable {w w' : World} {b : Nat} {cs : Array Value} {t : TypeId}
theorem CB.lt (H : CB w b cs t) : b < w.heap.size := lt_of_block H
theorem CB.cell (H : CB w b cs t) (o : Nat) : w.cell? ⟨b, o, none⟩ = cs[o]? := by unfold CB at H; simp [World.cell?, H]
theorem CB.fr (H : CB w b cs t) (o : Nat) : w.frozen? ⟨b, o, none⟩ = false := by unfold CB at H; simp [World.frozen?, H]
theorem CB.set (H : CB w b cs t) (o : Nat) (v : Value) : CB (w.setCell ⟨b, o, none⟩ v) b (cs.setIfInBounds o v) t := by
  have hlt := H.lt
  unfold CB at H ⊢
  have h' : w.heap[b] = .cells cs t (0, 0) := by simpa [Array.getElem?_eq_getElem hlt] using H
  show (w.heap.modify b _)[b]? = _
  rw [Array.getElem?_eq_getElem (by simpa using hlt), Array.getElem_modify_self, h']
  simp
theorem CB.other (H : CB w b cs t) {c o : Nat} (u : Value) (h : b ≠ c) : CB (w.setCell ⟨c, o, none⟩ u) b cs t := by
  unfold CB at H ⊢
  rw [Below.heap_setCell _ _ _ _ (by simpa using h)]; exact H
theorem CB.below {B : Nat} (H : CB w b cs t) (k : Below B w w') (h : b < B) : CB w' b cs t := by
  unfold CB at H ⊢
  rw [k.block b h]; exact H
theorem CB.alloc (H : CB w b cs t) (o : Obj) : CB (w.alloc o) b cs t := H.below ((Below.refl _ _).alloc (Nat.le_refl _) o) H.lt
theorem CB.new (cs : Array Value) (t : TypeId) : CB (w.alloc (.cells cs t (0, 0))) w.heap.size cs t := by
  unfold CB
  show (w.heap.push _)[w.heap.size]? = _
  simp
end

theorem CB.newAt {w : World} {b : Nat} (h : w.heap.size = b) (cs : Array Value) (t : TypeId) : CB (w.alloc (.cells cs t (0, 0))) b cs t := h ▸ CB.new cs t
theorem bel_on {A W W' : World} (h : Below A.heap.size A W) (k : Below W.heap.size W W') : Below A.heap.size A W' := h.trans (k.mono h.size)

/-- A slice's first 'len' elements are the whole numbers z 0, z 1, .. -/
def IR (w : World) (ad : Option Addr) (len : Nat) (z : Nat → Int) : Prop :=
  len = 0 ∨ ∃ k off, ad = some ⟨k, off, none⟩ ∧ k < w.heap.size ∧ ∀ j, j < len → w.cell? ⟨k, off + j, none⟩ = some (.int .i64 (z j))

theorem IR.below {w w' : World} {ad : Option Addr} {len : Nat} {z : Nat → Int} (H : IR w ad len z) (t : Below w.heap.size w w') : IR w' ad len z := by
  rcases H with h | ⟨k, off, e, hk, hc⟩
  · exact .inl h
  · refine .inr ⟨k, off, e, Nat.lt_of_lt_of_le hk t.size, fun j hj => ?_⟩
    rw [World.cell?_of_block (w := w) (t.block k hk)]; exact hc j hj

theorem IR.alloc {w : World} {ad : Option Addr} {len : Nat} {z : Nat → Int} (H : IR w ad len z) (o : Obj) : IR (w.alloc o) ad len z := H.below ((Below.refl _ _).alloc (Nat.le_refl _) o)
theorem IR.drewN {w : World} {ad : Option Addr} {len : Nat} {z : Nat → Int} (H : IR w ad len z) (q : Nat) : IR (w.drewN q) ad len z := H

theorem IR.cell {w : World} {k off len : Nat} {z : Nat → Int} (H : IR w (some ⟨k, off, none⟩) len z) {j : Nat} (hj : j < len) : w.cell? ⟨k, off + j, none⟩ = some (.int .i64 (z j)) := by
  rcases H with h | ⟨k', off', e, hk, hc⟩
  · omega
  · simp only [Option.some.injEq, Addr.mk.injEq] at e
    obtain ⟨rfl, rfl, _⟩ := e
    exact hc j hj

theorem IR.other {w : World} {k off len : Nat} {z : Nat → Int} (H : IR w (some ⟨k, off, none⟩) len z) {c o : Nat} (u : Value) (h : k ≠ c) : IR (w.setCell ⟨c, o, none⟩ u) (some ⟨k, off, none⟩) len z := by
  rcases H with h' | ⟨k', off', e, hk, hc⟩
  · exact .inl h'
  · simp only [Option.some.injEq, Addr.mk.injEq] at e
    obtain ⟨rfl, rfl, _⟩ := e
    refine .inr ⟨k, off, rfl, by simpa using hk, fun j hj => ?_⟩
    rw [World.cell?_of_block (w := w) (Below.heap_setCell _ _ _ _ (by simpa using h))]; exact hc j hj

/-- Where there is an element there is an address. -/
theorem IR.addr {w : World} {ad : Option Addr} {len : Nat} {z : Nat → Int} (H : IR w ad len z) (h : 0 < len) : ∃ k off, ad = some ⟨k, off, none⟩ ∧ k < w.heap.size := by
  rcases H with h' | ⟨k', off', e, hk, hc⟩
  · omega
  · exact ⟨k', off', e, hk⟩

theorem IR.congr {w : World} {ad : Option Addr} {len : Nat} {z y : Nat → Int} (H : IR w ad len z) (h : ∀ j, j < len → z j = y j) : IR w ad len y := by
  rcases H with h' | ⟨k', off', e, hk, hc⟩
  · exact .inl h'
  · exact .inr ⟨k', off', e, hk, fun j hj => by rw [← h j hj]; exact hc j hj⟩

theorem IR.of_block {w : World} {b : Nat} {cs : Array Value} {t : TypeId} (H : CB w b cs t) (n : Nat) (z : Nat → Int) (h : ∀ j, j < n → cs[j]? = some (.int .i64 (z j))) : IR w (some ⟨b, 0, none⟩) n z :=
  .inr ⟨b, 0, rfl, H.lt, fun j hj => by rw [Nat.zero_add, H.cell]; exact h j hj⟩

end Go.Proofs.Ytogolmbgboihdaa
