/- What appends leave of a cursor and of rows of currencies. Nothing of the program but the numbers of its types. -/
import Derived.Test.YtmbdeafpfdeigaaXA
import Derived.Test.YtmbdeafpfdeigaaIr
import Derived.Laws.OwnMore
import Derived.Maps.AppendAt
namespace Go.Proofs.Ytmbdeafpfdeigaa
open Go.RowKit
set_option linter.unusedVariables false

theorem Turns.grown {b : Nat} {a w w' : World} {row : Option Nat} (h : Turns b a w) (g : w.grownBy w' row) (hr : ∀ k, row = some k → a.heap.size ≤ k) : Turns b a w' :=
  ⟨g.os.trans h.os, g.tape.trans h.tape, g.output.trans h.output, Nat.le_trans h.size g.size, fun k hk hb => (g.block k (Nat.lt_of_lt_of_le hk h.size) (fun e => by have := hr k e.symm; omega)).trans (h.block k hk hb)⟩
theorem Turns.grownBy {b : Nat} {w w' : World} (h : Turns b w w') : w.grownBy w' (some b) := ⟨h.os, h.tape, h.output, h.size, fun k hk hne => h.block k hk (fun e => hne (by rw [e]))⟩
theorem Cursor.grown {b : Nat} {w w' : World} {row : Option Nat} (h : Cursor w b) (g : w.grownBy w' row) (hr : ∀ k, row = some k → b < k) : Cursor w' b :=
  h.low g.size (fun k hk => g.block k (Nat.lt_of_le_of_lt hk h.lt) (fun e => by have := hr k e.symm; omega))
theorem CB.turns {b c : Nat} {w w' : World} {cs : Array Value} {t : TypeId} (h : CB w c cs t) (T : Turns b w w') (hne : c ≠ b) : CB w' c cs t := by
  have hlt := h.lt
  unfold CB at *; rw [T.block c hlt hne]; exact h
theorem ownsRow_some {w : World} {base : Nat} {e : TypeId} {size : Nat} {v : Value} {n : Nat} {xs : List Value} (h : w.ownsRow base e size v n xs) (hn : 0 < n) : ∃ g cap, v = .slice (some ⟨g, 0, none⟩) n cap ∧ base ≤ g := by
  rcases h.2 with ⟨_, e0⟩ | ⟨g, cap, cur, rfl, hb, _⟩
  · omega
  · exact ⟨g, cap, rfl, hb⟩

end Go.Proofs.Ytmbdeafpfdeigaa
