/- Rows of whole numbers that a draw makes, a calendar's box, and what stays of them. Nothing of the program but the numbers of its types. -/
import Derived.Test.YtadjdpoplaknkaaNw
import Derived.Test.YtadjdpoplaknkaaIr
import Derived.Maps.AppendAt
namespace Go.Proofs.Ytadjdpoplaknkaa
open Go.RowKit
set_option linter.unusedVariables false

theorem Turns.grown {b : Nat} {a w w' : World} {row : Option Nat} (h : Turns b a w) (g : w.grownBy w' row) (hr : ∀ k, row = some k → a.heap.size ≤ k) : Turns b a w' :=
  ⟨g.os.trans h.os, g.tape.trans h.tape, g.output.trans h.output, Nat.le_trans h.size g.size, fun k hk hb => (g.block k (Nat.lt_of_lt_of_le hk h.size) (fun e => by have := hr k e.symm; omega)).trans (h.block k hk hb)⟩
theorem Turns.grownBy {b : Nat} {w w' : World} (h : Turns b w w') : w.grownBy w' (some b) := ⟨h.os, h.tape, h.output, h.size, fun k hk hne => h.block k hk (fun e => hne (by rw [e]))⟩
theorem Cursor.grown {b : Nat} {w w' : World} {row : Option Nat} (h : Cursor w b) (g : w.grownBy w' row) (hr : ∀ k, row = some k → b < k) : Cursor w' b :=
  h.low g.size (fun k hk => g.block k (Nat.lt_of_le_of_lt hk h.lt) (fun e => by have := hr k e.symm; omega))
theorem CB.turns {b c : Nat} {w w' : World} {cs : Array Value} {t : TypeId} (h : CB w c cs t) (T : Turns b w w') (hne : c ≠ b) : CB w' c cs t := by
  have hlt := h.lt
  unfold CB at *; rw [T.block c hlt hne]; exact h
theorem CB.grown {c : Nat} {w w' : World} {cs : Array Value} {t : TypeId} {row : Option Nat} (h : CB w c cs t) (g : w.grownBy w' row) (hne : some c ≠ row) : CB w' c cs t := by
  have hlt := h.lt
  unfold CB at *; rw [g.block c hlt hne]; exact h
theorem row_at {w : World} {b k n : Nat} {zs : List Int} (e : n = k) (h : IntRow w b (some ⟨n, 0, none⟩) zs) : IntRow w b (some ⟨k, 0, none⟩) zs := e ▸ h

def AllI (xs : List Value) : Prop := ∀ u ∈ xs, ∃ z : Int, u = .int .i64 z

/-- A calendar's draw under way: the answer's block is the first behind w's, the calendar lies at X, its row above X. -/
structure Kp (w : World) (b X : Nat) (off : Int) (v : Value) (n : Nat) (W : World) : Prop where
  cur : Cursor W b
  tu : Turns b w W
  z : CB W w.heap.size #[.int .i64 0, .slice none 0 0] 26
  box : CB W X #[.int .i64 off, v] 26
  row : ∃ xs, W.ownsRow (X + 1) 3 1 v n xs ∧ AllI xs
  far : w.heap.size < X
  low : b < w.heap.size

section
variable {w W W' : World} {b X n : Nat} {off : Int} {v v' : Value}
theorem own_ne (h : ∃ xs, W.ownsRow (X + 1) 3 1 v n xs ∧ AllI xs) (hb : b ≤ X) : v.ownBlock = none ∨ v.ownBlock ≠ some b := by
  obtain ⟨xs, ho, _⟩ := h
  cases e : v.ownBlock with
  | none => exact .inl rfl
  | some g => exact .inr (fun e2 => by have := (ho.lt g e).1; cases e2; omega)
theorem Kp.moved (h : Kp w b X off v n W) (m : Moved b W W') : Kp w b X off v n W' := by
  have hf := h.far; have hl := h.low
  refine ⟨m.1, h.tu.trans m.2, h.z.turns m.2 (by omega), h.box.turns m.2 (by omega), ?_, hf, hl⟩
  obtain ⟨xs, ho, hA⟩ := h.row
  exact ⟨xs, ho.kept m.2.grownBy (own_ne ⟨xs, ho, hA⟩ (by omega)), hA⟩
theorem Kp.alloc (h : Kp w b X off v n W) (o : Obj) : Kp w b X off v n (W.alloc o) := by
  obtain ⟨xs, ho, hA⟩ := h.row
  exact ⟨h.cur.alloc o, h.tu.alloc o, h.z.alloc o, h.box.alloc o, ⟨xs, ho.alloc o, hA⟩, h.far, h.low⟩
theorem set_turns {c o : Nat} {u : Value} (T : Turns b w W) (hc : w.heap.size ≤ c) : Turns b w (W.setCell ⟨c, o, none⟩ u) :=
  ⟨T.os, T.tape, T.output, by simpa using T.size, fun k hk hb => by rw [Below.heap_setCell _ _ _ _ (by show k ≠ c; omega)]; exact T.block k hk hb⟩
theorem cur_set {c o : Nat} {u : Value} (h : Cursor W b) (hc : b < c) : Cursor (W.setCell ⟨c, o, none⟩ u) b :=
  h.low (by simp) (fun k hk => Below.heap_setCell _ _ _ _ (by show k ≠ c; omega))
theorem Kp.setOff (h : Kp w b X off v n W) (z : Int) : Kp w b X z v n (W.setCell ⟨X, 0, none⟩ (.int .i64 z)) := by
  have hf := h.far; have hl := h.low
  obtain ⟨xs, ho, hA⟩ := h.row
  refine ⟨cur_set h.cur (by omega), set_turns h.tu (by omega), h.z.other _ (by omega), by simpa using h.box.set 0 (.int .i64 z), ⟨xs, ownsRow_setCell_other ho (fun e => ?_) _, hA⟩, hf, hl⟩
  have := (ho.lt _ e).1
  dsimp only at this; omega
/-- Behind an append and the store of what came of it. -/
theorem Kp.app {y : Int} {xs : List Value} (h : Kp w b X off v n W) (hA : AllI xs) (hg : W.grownBy W' v.ownBlock) (hv : ∀ g, v.ownBlock = some g → X + 1 ≤ g) (ho : W'.ownsRow (X + 1) 3 1 v' (n + 1) (xs ++ [.int .i64 y])) : Kp w b X off v' (n + 1) (W'.setCell ⟨X, 1, none⟩ v') := by
  have hf := h.far; have hl := h.low
  have nB : ∀ c, c ≤ X → some c ≠ v.ownBlock := fun c hc e => by have := hv c e.symm; omega
  have bx := h.box.grown hg (nB X (Nat.le_refl _))
  refine ⟨cur_set (h.cur.grown hg (fun k e => by have := hv k e; omega)) (by omega), set_turns (h.tu.grown hg (fun k e => by have := hv k e; omega)) (by omega), (h.z.grown hg (nB _ (by omega))).other _ (by omega), by simpa using bx.set 1 v', ⟨xs ++ [.int .i64 y], ownsRow_setCell_other ho (fun e => ?_) _, fun u hu => ?_⟩, hf, hl⟩
  · have := (ho.lt _ e).1
    dsimp only at this; omega
  · rcases List.mem_append.1 hu with g | g
    · exact hA u g
    · simp at g; exact ⟨y, g⟩
end

end Go.Proofs.Ytadjdpoplaknkaa
