/- A block of three numbers in memory, as a date's variable is, and what stores leave of it. Nothing of the program. -/
import Derived.WalkKit
import Derived.ProofKit
import Derived.Below
import Derived.OneCell
import Derived.Handy
import Derived.BigQuiet
namespace Go.Proofs.YtlhgmdmbjpaakaaDoor.Dt
open Go.RowKit
set_option linter.unusedVariables false

/-- Block b holds these three numbers. -/
def DB (w : World) (b : Nat) (x y z : Int) : Prop := w.heap[b]? = some (.cells #[.int .i64 x, .int .i64 y, .int .i64 z] 57 (0, 0))

section
variable {w w' : World} {b : Nat} {x y z : Int}
theorem DB.lt (H : DB w b x y z) : b < w.heap.size := lt_of_block H
theorem DB.c0 (H : DB w b x y z) : w.cell? ⟨b, 0, none⟩ = some (.int .i64 x) := by unfold DB at H; simp [World.cell?, H]
theorem DB.c1 (H : DB w b x y z) : w.cell? ⟨b, 1, none⟩ = some (.int .i64 y) := by unfold DB at H; simp [World.cell?, H]
theorem DB.c2 (H : DB w b x y z) : w.cell? ⟨b, 2, none⟩ = some (.int .i64 z) := by unfold DB at H; simp [World.cell?, H]
theorem DB.fr (H : DB w b x y z) (o : Nat) : w.frozen? ⟨b, o, none⟩ = false := by unfold DB at H; simp [World.frozen?, H]

theorem DB.set0 (H : DB w b x y z) (m : Int) : DB (w.setCell ⟨b, 0, none⟩ (.int .i64 m)) b m y z := by
  have hlt := H.lt
  unfold DB at H ⊢
  have h' : w.heap[b] = .cells #[.int .i64 x, .int .i64 y, .int .i64 z] 57 (0, 0) := by simpa [Array.getElem?_eq_getElem hlt] using H
  show (w.heap.modify b _)[b]? = _
  rw [Array.getElem?_eq_getElem (by simpa using hlt), Array.getElem_modify_self, h']
  rfl
theorem DB.set1 (H : DB w b x y z) (m : Int) : DB (w.setCell ⟨b, 1, none⟩ (.int .i64 m)) b x m z := by
  have hlt := H.lt
  unfold DB at H ⊢
  have h' : w.heap[b] = .cells #[.int .i64 x, .int .i64 y, .int .i64 z] 57 (0, 0) := by simpa [Array.getElem?_eq_getElem hlt] using H
  show (w.heap.modify b _)[b]? = _
  rw [Array.getElem?_eq_getElem (by simpa using hlt), Array.getElem_modify_self, h']
  rfl
theorem DB.set2 (H : DB w b x y z) (m : Int) : DB (w.setCell ⟨b, 2, none⟩ (.int .i64 m)) b x y m := by
  have hlt := H.lt
  unfold DB at H ⊢
  have h' : w.heap[b] = .cells #[.int .i64 x, .int .i64 y, .int .i64 z] 57 (0, 0) := by simpa [Array.getElem?_eq_getElem hlt] using H
  show (w.heap.modify b _)[b]? = _
  rw [Array.getElem?_eq_getElem (by simpa using hlt), Array.getElem_modify_self, h']
  rfl
theorem DB.other (H : DB w b x y z) {c o : Nat} (u : Value) (h : b ≠ c) : DB (w.setCell ⟨c, o, none⟩ u) b x y z := by
  unfold DB at H ⊢
  rw [Below.heap_setCell _ _ _ _ (by simpa using h)]; exact H
theorem DB.below {B : Nat} (H : DB w b x y z) (t : Below B w w') (h : b < B) : DB w' b x y z := by
  unfold DB at H ⊢
  rw [t.block b h]; exact H
theorem DB.alloc (H : DB w b x y z) (o : Obj) : DB (w.alloc o) b x y z := H.below ((Below.refl _ _).alloc (Nat.le_refl _) o) H.lt
theorem DB.drewN (H : DB w b x y z) (q : Nat) : DB (w.drewN q) b x y z := H
theorem DB.new (x y z : Int) : DB (w.alloc (.cells #[.int .i64 x, .int .i64 y, .int .i64 z] 57 (0, 0))) w.heap.size x y z := by
  unfold DB
  show (w.heap.push _)[w.heap.size]? = _
  simp
end

end Go.Proofs.YtlhgmdmbjpaakaaDoor.Dt
