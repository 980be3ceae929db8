/- What appends leave of a cursor and of rows of currencies. Nothing of the program but the numbers of its types. -/
import Derived.Test.YtkplhiahfebmlaaDoorNw
import Derived.Test.YtkplhiahfebmlaaDoorTh
namespace Go.Proofs.YtkplhiahfebmlaaDoor
open Go.RowKit
set_option linter.unusedVariables false

theorem Turns.grown {b : Nat} {a w w' : World} {row : Option Nat} (h : Turns b a w) (g : w.grownBy w' row) (hr : ∀ k, row = some k → a.heap.size ≤ k) : Turns b a w' :=
  ⟨g.os.trans h.os, g.tape.trans h.tape, g.output.trans h.output, Nat.le_trans h.size g.size, fun k hk hb => (g.block k (Nat.lt_of_lt_of_le hk h.size) (fun e => by have := hr k e.symm; omega)).trans (h.block k hk hb)⟩
theorem Turns.grownBy {b : Nat} {w w' : World} (h : Turns b w w') : w.grownBy w' (some b) := ⟨h.os, h.tape, h.output, h.size, fun k hk hne => h.block k hk (fun e => hne (by rw [e]))⟩
theorem Cursor.grown {b : Nat} {w w' : World} {row : Option Nat} (h : Cursor w b) (g : w.grownBy w' row) (hr : ∀ k, row = some k → b < k) : Cursor w' b :=
  h.low g.size (fun k hk => g.block k (Nat.lt_of_le_of_lt hk h.lt) (fun e => by have := hr k e.symm; omega))
theorem CB.turns {b c : Nat} {w w' : World} {cs : Array Value} {t : TypeId} (h : CB w c cs t) (T : Turns b w w') (hne : c ≠ b) : CB w' c cs t := by
  have hlt := h.lt
  unfold CB at *; rw [T.block c hlt hne]; exact h
theorem ownsRow_some {w : World} {base : Nat} {e : TypeId} {size : Nat} {v : Value} {n : Nat} {xs : List Value} (h : w.ownsRow base e size v n xs) (hn : 0 < n) : ∃ g cap, v = .slice (some ⟨g, 0, none⟩) n cap ∧ base ≤ g := by
  rcases h.2 with ⟨_, e0⟩ | ⟨g, cap, cur, rfl, hb, _⟩
  · omega
  · exact ⟨g, cap, rfl, hb⟩

def C3.cells (c : C3) : List Value := [.string c.code, .int .i64 c.places, .int .i64 c.step]
def flatC (l : List C3) : List Value := l.flatMap C3.cells
theorem flatC_snoc (l : List C3) (x : C3) : flatC (l ++ [x]) = flatC l ++ x.cells := by simp [flatC]
theorem flatC_get : ∀ (l : List C3) (j : Nat) (h : j < l.length), (flatC l)[j * 3]? = some (.string l[j].code) ∧ (flatC l)[j * 3 + 1]? = some (.int .i64 l[j].places) ∧ (flatC l)[j * 3 + 2]? = some (.int .i64 l[j].step)
  | [], j, h => by simp at h
  | x :: t, 0, _ => by simp [flatC, C3.cells]
  | x :: t, j + 1, h => by
    have ih := flatC_get t j (by simpa using h)
    have e : ∀ i, (flatC (x :: t))[(j + 1) * 3 + i]? = (flatC t)[j * 3 + i]? := fun i => by
      show (x.cells ++ flatC t)[(j + 1) * 3 + i]? = _
      rw [List.getElem?_append_right (by simp [C3.cells]; omega)]
      congr 1
      simp [C3.cells]; omega
    have e0 := e 0
    simp only [Nat.add_zero] at e0
    rw [e0, e, e]
    exact ih

theorem curs_row {w : World} {base g cap : Nat} {l : List C3} (h : w.ownsRow base 30 3 (.slice (some ⟨g, 0, none⟩) l.length cap) l.length (flatC l)) : CR w (some ⟨g, 0, none⟩) l.length (fun j => l.getD j ⟨ByteArray.empty, 0, 0⟩) := by
  obtain ⟨hl, h2⟩ := h
  rcases h2 with ⟨e, e0⟩ | ⟨g', cap', cur, e, hb, hg, hn, hcap, hcs, ht⟩
  · cases e
  · simp only [Value.slice.injEq, Option.some.injEq, Addr.mk.injEq] at e
    obtain ⟨⟨rfl, _⟩, _, rfl⟩ := e
    refine .inr ⟨g, 0, rfl, lt_of_block hg, fun j hj => ?_⟩
    have cell : ∀ o, o < l.length * 3 → w.cell? ⟨g, o, none⟩ = (flatC l)[o]? := fun o ho => by
      simp only [World.cell?, hg]
      rw [← ht, List.getElem?_take, if_pos ho]
      simp
    obtain ⟨c0, c1, c2⟩ := flatC_get l j hj
    have eg : l.getD j ⟨ByteArray.empty, 0, 0⟩ = l[j] := by simp [List.getD, List.getElem?_eq_getElem hj]
    unfold At3
    dsimp only
    rw [eg, Nat.zero_add, cell _ (by omega), cell _ (by omega), cell _ (by omega)]
    exact ⟨c0, c1, c2⟩

theorem three_new (w : World) (x : C3) (t : TypeId) : ∀ j u, x.cells[j]? = some u → (w.alloc (.cells #[.string x.code, .int .i64 x.places, .int .i64 x.step] t)).cell? ((⟨w.heap.size, 0, none⟩ : Addr).add j) = some u := by
  intro j u hj
  have H := CB.new (w := w) #[.string x.code, .int .i64 x.places, .int .i64 x.step] t
  match j, hj with
  | 0, hj => simp [C3.cells] at hj; subst hj; exact (H.cell 0).trans rfl
  | 1, hj => simp [C3.cells] at hj; subst hj; exact (H.cell 1).trans rfl
  | 2, hj => simp [C3.cells] at hj; subst hj; exact (H.cell 2).trans rfl
  | n + 3, hj => simp [C3.cells] at hj
theorem three_one (x : C3) : ∀ u ∈ x.cells, u.oneCell' = true := by intro u hu; simp [C3.cells] at hu; rcases hu with rfl | rfl | rfl <;> rfl

end Go.Proofs.YtkplhiahfebmlaaDoor
