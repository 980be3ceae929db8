/- Rows of whole numbers in a block that may be written. -/
import Derived.Test.YtogolmbgboihdaaIn
import Derived.Deep.QuietTactic
import Derived.BigQuiet
namespace Go.Proofs.Ytogolmbgboihdaa
open Go Go.ChangeShapes Go.WideShapes Go.ChangeAt Go.RowKit
set_option linter.unusedVariables false
set_option linter.unusedSimpArgs false

/-- A row of whole numbers in a block, that may be written. -/
def TI (W : World) (tb n : Nat) (f : Nat → Int) : Prop := ∃ cs, CB W tb cs 3 ∧ n ≤ cs.size ∧ ∀ j, j < n → cs[j]? = some (.int .i64 (f j))
section
variable {W W' : World} {tb n : Nat} {f : Nat → Int}
theorem TI.lt (h : TI W tb n f) : tb < W.heap.size := by obtain ⟨cs, h1, _⟩ := h; exact h1.lt
theorem TI.cell (h : TI W tb n f) {k : Nat} (hk : k < n) : W.cell? ⟨tb, k, none⟩ = some (.int .i64 (f k)) := by obtain ⟨cs, h1, h2, h3⟩ := h; rw [h1.cell]; exact h3 k hk
theorem TI.fr (h : TI W tb n f) (k : Nat) : W.frozen? ⟨tb, k, none⟩ = false := by obtain ⟨cs, h1, _⟩ := h; exact h1.fr k
theorem TI.set (h : TI W tb n f) {k : Nat} (hk : k < n) (x : Int) : TI (W.setCell ⟨tb, k, none⟩ (.int .i64 x)) tb n (fun j => if j = k then x else f j) := by
  obtain ⟨cs, h1, h2, h3⟩ := h
  refine ⟨_, h1.set _ _, by simpa using h2, fun j hj => ?_⟩
  by_cases e : j = k
  · subst e; rw [get_set_eq (by omega)]; simp
  · rw [get_set_ne (by omega), h3 j hj]; simp [e]
theorem TI.below (h : TI W tb n f) (b : Below W.heap.size W W') : TI W' tb n f := by
  obtain ⟨cs, h1, h2, h3⟩ := h
  exact ⟨cs, h1.below b h1.lt, h2, h3⟩
theorem TI.congr {f' : Nat → Int} (h : TI W tb n f) (e : ∀ j, j < n → f j = f' j) : TI W tb n f' := by
  obtain ⟨cs, h1, h2, h3⟩ := h
  exact ⟨cs, h1, h2, fun j hj => by rw [← e j hj]; exact h3 j hj⟩
theorem TI.row (h : TI W tb n f) : IR W (some ⟨tb, 0, none⟩) n f := by
  obtain ⟨cs, h1, h2, h3⟩ := h
  exact IR.of_block h1 n f h3
theorem TI.made1 (w : World) {n i : Nat} (hi : i < n) (q : Int) : TI (w.alloc (.cells ((zeros n).setIfInBounds i (.int .i64 q)) 3)) w.heap.size n (fun j => if j = i then q else 0) := ⟨_, CB.new _ _, by simp [zeros_size], fun j hj => by
  by_cases e : j = i
  · subst e; rw [get_set_eq (by rw [zeros_size]; exact hj)]; simp
  · rw [get_set_ne (by omega)]; simp [zeros, madeCells, hj, Nat.mod_one, e]⟩
theorem TI.made (w : World) (n : Nat) : TI (w.alloc (.cells (zeros n) 3)) w.heap.size n (fun _ => 0) := ⟨zeros n, CB.new _ _, by rw [zeros_size]; omega, fun j hj => by simp [zeros, madeCells, hj, Nat.mod_one]⟩
end
theorem get_set_eq' {α : Type} {a : Array α} {i : Nat} {v : α} (h : i < a.size) : (a.setIfInBounds i v)[i]? = some v := Array.getElem?_setIfInBounds_self_of_lt h
end Go.Proofs.Ytogolmbgboihdaa
