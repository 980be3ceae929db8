/- Rows of lines (five whole numbers each) and of entries (two whole numbers, a text and a row of lines) in memory. Nothing of the program. -/
import Derived.Test.YtapailihjlfkgaaDoorRr
import Derived.Laws.MakeOwn
namespace Go.Proofs.YtapailihjlfkgaaDoor
open Go.RowKit
set_option linter.unusedVariables false

structure L5 where
  acc : Int
  dim : Int
  cur : Int
  amt : Int
  base : Int

def L5.zero : L5 := ⟨0, 0, 0, 0, 0⟩
def L5.agg (l : L5) : Value := .agg #[.int .i64 l.acc, .int .i64 l.dim, .int .i64 l.cur, .int .i64 l.amt, .int .i64 l.base]

/-- The five cells of one line from a place on. -/
def At5 (w : World) (k o : Nat) (l : L5) : Prop :=
  w.cell? ⟨k, o, none⟩ = some (.int .i64 l.acc) ∧ w.cell? ⟨k, o + 1, none⟩ = some (.int .i64 l.dim) ∧ w.cell? ⟨k, o + 2, none⟩ = some (.int .i64 l.cur) ∧ w.cell? ⟨k, o + 3, none⟩ = some (.int .i64 l.amt) ∧ w.cell? ⟨k, o + 4, none⟩ = some (.int .i64 l.base)

theorem At5.block {w w' : World} {k o : Nat} {r : L5} (h : At5 w k o r) (hb : w'.heap[k]? = w.heap[k]?) : At5 w' k o r := by
  have e : ∀ o, w'.cell? ⟨k, o, none⟩ = w.cell? ⟨k, o, none⟩ := fun o => World.cell?_of_block (w := w) hb
  unfold At5; rw [e, e, e, e, e]; exact h

/-- A slice's first 'len' elements are the lines r 0, r 1, .. -/
def LR (w : World) (ad : Option Addr) (len : Nat) (r : Nat → L5) : Prop :=
  len = 0 ∨ ∃ k off, ad = some ⟨k, off, none⟩ ∧ k < w.heap.size ∧ ∀ j, j < len → At5 w k (off + j * 5) (r j)

theorem LR.below {w w' : World} {ad : Option Addr} {len : Nat} {r : Nat → L5} (H : LR w ad len r) (t : Below w.heap.size w w') : LR w' ad len r := by
  rcases H with h | ⟨k, off, e, hk, hc⟩
  · exact .inl h
  · exact .inr ⟨k, off, e, Nat.lt_of_lt_of_le hk t.size, fun j hj => (hc j hj).block (t.block k hk)⟩
theorem LR.alloc {w : World} {ad : Option Addr} {len : Nat} {r : Nat → L5} (H : LR w ad len r) (o : Obj) : LR (w.alloc o) ad len r := H.below ((Below.refl _ _).alloc (Nat.le_refl _) o)
theorem LR.drewN {w : World} {ad : Option Addr} {len : Nat} {r : Nat → L5} (H : LR w ad len r) (q : Nat) : LR (w.drewN q) ad len r := H
theorem LR.cell {w : World} {k off len : Nat} {r : Nat → L5} (H : LR w (some ⟨k, off, none⟩) len r) {j : Nat} (hj : j < len) : At5 w k (off + j * 5) (r j) := by
  rcases H with h | ⟨k', off', e, hk, hc⟩
  · omega
  · simp only [Option.some.injEq, Addr.mk.injEq] at e
    obtain ⟨rfl, rfl, _⟩ := e
    exact hc j hj
theorem LR.addr {w : World} {ad : Option Addr} {len : Nat} {r : Nat → L5} (H : LR w ad len r) (h : 0 < len) : ∃ k off, ad = some ⟨k, off, none⟩ ∧ k < w.heap.size := by
  rcases H with h' | ⟨k', off', e, hk, hc⟩
  · omega
  · exact ⟨k', off', e, hk⟩
theorem LR.congr {w : World} {ad : Option Addr} {len : Nat} {r s : Nat → L5} (H : LR w ad len r) (h : ∀ j, j < len → r j = s j) : LR w ad len s := by
  rcases H with h' | ⟨k', off', e, hk, hc⟩
  · exact .inl h'
  · exact .inr ⟨k', off', e, hk, fun j hj => by rw [← h j hj]; exact hc j hj⟩
theorem LR.other {w : World} {k off len : Nat} {r : Nat → L5} (H : LR w (some ⟨k, off, none⟩) len r) {c o : Nat} (u : Value) (h : k ≠ c) : LR (w.setCell ⟨c, o, none⟩ u) (some ⟨k, off, none⟩) len r := by
  rcases H with h' | ⟨k', off', e, hk, hc⟩
  · exact .inl h'
  · simp only [Option.some.injEq, Addr.mk.injEq] at e
    obtain ⟨rfl, rfl, _⟩ := e
    exact .inr ⟨k, off, rfl, by simpa using hk, fun j hj => (hc j hj).block (Below.heap_setCell _ _ _ _ (by simpa using h))⟩
def Cells5 (cs : Array Value) (o : Nat) (l : L5) : Prop :=
  cs[o]? = some (.int .i64 l.acc) ∧ cs[o + 1]? = some (.int .i64 l.dim) ∧ cs[o + 2]? = some (.int .i64 l.cur) ∧ cs[o + 3]? = some (.int .i64 l.amt) ∧ cs[o + 4]? = some (.int .i64 l.base)
theorem LR.of_block {w : World} {b : Nat} {cs : Array Value} {t : TypeId} (H : CB w b cs t) (n : Nat) (r : Nat → L5) (h : ∀ j, j < n → Cells5 cs (j * 5) (r j)) : LR w (some ⟨b, 0, none⟩) n r :=
  .inr ⟨b, 0, rfl, H.lt, fun j hj => by unfold At5; rw [Nat.zero_add, H.cell, H.cell, H.cell, H.cell, H.cell]; exact h j hj⟩

def zeros5 (n : Nat) : Array Value := madeCells #[.int .i64 0, .int .i64 0, .int .i64 0, .int .i64 0, .int .i64 0] (n * 5)
theorem zeros5_size (n : Nat) : (zeros5 n).size = n * 5 := size_madeCells _ _

def put5 (cs : Array Value) (o : Nat) (l : L5) : Array Value := ((((cs.setIfInBounds o (.int .i64 l.acc)).setIfInBounds (o + 1) (.int .i64 l.dim)).setIfInBounds (o + 2) (.int .i64 l.cur)).setIfInBounds (o + 3) (.int .i64 l.amt)).setIfInBounds (o + 4) (.int .i64 l.base)
theorem put5_size (cs : Array Value) (o : Nat) (l : L5) : (put5 cs o l).size = cs.size := by simp [put5]
theorem put5_get {cs : Array Value} {o : Nat} {l : L5} (h : o + 5 ≤ cs.size) : Cells5 (put5 cs o l) o l := by
  unfold Cells5 put5
  refine ⟨?_, ?_, ?_, ?_, ?_⟩
  · rw [get_set_ne (by omega), get_set_ne (by omega), get_set_ne (by omega), get_set_ne (by omega), get_set_eq (by omega)]
  · rw [get_set_ne (by omega), get_set_ne (by omega), get_set_ne (by omega), get_set_eq (by simp; omega)]
  · rw [get_set_ne (by omega), get_set_ne (by omega), get_set_eq (by simp; omega)]
  · rw [get_set_ne (by omega), get_set_eq (by simp; omega)]
  · rw [get_set_eq (by simp; omega)]
theorem put5_other {cs : Array Value} {o p : Nat} {l m : L5} (h : Cells5 cs p m) (hp : p + 5 ≤ o ∨ o + 5 ≤ p) : Cells5 (put5 cs o l) p m := by
  unfold Cells5 put5 at *
  obtain ⟨h1, h2, h3, h4, h5⟩ := h
  refine ⟨?_, ?_, ?_, ?_, ?_⟩ <;> (rw [get_set_ne (by omega), get_set_ne (by omega), get_set_ne (by omega), get_set_ne (by omega), get_set_ne (by omega)]; assumption)

structure E4 where
  day : Int
  ref : Int
  text : ByteArray
  n : Nat
  ls : Nat → L5

def E4.zero : E4 := ⟨0, 0, ByteArray.empty, 0, fun _ => L5.zero⟩

/-- The four cells of one entry from a place on, and its lines. -/
def AtE (w : World) (k o : Nat) (e : E4) : Prop :=
  w.cell? ⟨k, o, none⟩ = some (.int .i64 e.day) ∧ w.cell? ⟨k, o + 1, none⟩ = some (.int .i64 e.ref) ∧ w.cell? ⟨k, o + 2, none⟩ = some (.string e.text) ∧ ∃ ad cap, w.cell? ⟨k, o + 3, none⟩ = some (.slice ad e.n cap) ∧ LR w ad e.n e.ls

theorem AtE.below {w w' : World} {k o : Nat} {e : E4} (h : AtE w k o e) (hk : k < w.heap.size) (t : Below w.heap.size w w') : AtE w' k o e := by
  have c : ∀ o, w'.cell? ⟨k, o, none⟩ = w.cell? ⟨k, o, none⟩ := fun o => World.cell?_of_block (w := w) (t.block k hk)
  obtain ⟨h1, h2, h3, ad, cap, h4, h5⟩ := h
  exact ⟨by rw [c]; exact h1, by rw [c]; exact h2, by rw [c]; exact h3, ad, cap, by rw [c]; exact h4, h5.below t⟩

/-- A slice's first 'len' elements are the entries e 0, e 1, .. -/
def ER (w : World) (ad : Option Addr) (len : Nat) (e : Nat → E4) : Prop :=
  len = 0 ∨ ∃ k off, ad = some ⟨k, off, none⟩ ∧ k < w.heap.size ∧ ∀ j, j < len → AtE w k (off + j * 4) (e j)

theorem ER.below {w w' : World} {ad : Option Addr} {len : Nat} {r : Nat → E4} (H : ER w ad len r) (t : Below w.heap.size w w') : ER w' ad len r := by
  rcases H with h | ⟨k, off, e, hk, hc⟩
  · exact .inl h
  · exact .inr ⟨k, off, e, Nat.lt_of_lt_of_le hk t.size, fun j hj => (hc j hj).below hk t⟩
theorem ER.alloc {w : World} {ad : Option Addr} {len : Nat} {r : Nat → E4} (H : ER w ad len r) (o : Obj) : ER (w.alloc o) ad len r := H.below ((Below.refl _ _).alloc (Nat.le_refl _) o)
theorem ER.drewN {w : World} {ad : Option Addr} {len : Nat} {r : Nat → E4} (H : ER w ad len r) (q : Nat) : ER (w.drewN q) ad len r := H
theorem ER.cell {w : World} {k off len : Nat} {r : Nat → E4} (H : ER w (some ⟨k, off, none⟩) len r) {j : Nat} (hj : j < len) : AtE w k (off + j * 4) (r j) := by
  rcases H with h | ⟨k', off', e, hk, hc⟩
  · omega
  · simp only [Option.some.injEq, Addr.mk.injEq] at e
    obtain ⟨rfl, rfl, _⟩ := e
    exact hc j hj
theorem ER.addr {w : World} {ad : Option Addr} {len : Nat} {r : Nat → E4} (H : ER w ad len r) (h : 0 < len) : ∃ k off, ad = some ⟨k, off, none⟩ ∧ k < w.heap.size := by
  rcases H with h' | ⟨k', off', e, hk, hc⟩
  · omega
  · exact ⟨k', off', e, hk⟩
theorem ER.mono {w : World} {ad : Option Addr} {len n : Nat} {r : Nat → E4} (H : ER w ad len r) (h : n ≤ len) : ER w ad n r := by
  rcases H with h' | ⟨k', off', e, hk, hc⟩
  · exact .inl (by omega)
  · exact .inr ⟨k', off', e, hk, fun j hj => hc j (by omega)⟩

def zeros4e (n : Nat) : Array Value := madeCells #[.int .i64 0, .int .i64 0, .string ByteArray.empty, .slice none 0 0] (n * 4)
theorem zeros4e_size (n : Nat) : (zeros4e n).size = n * 4 := size_madeCells _ _

def CellsE (cs : Array Value) (o : Nat) (e : E4) (v : Value) : Prop :=
  cs[o]? = some (.int .i64 e.day) ∧ cs[o + 1]? = some (.int .i64 e.ref) ∧ cs[o + 2]? = some (.string e.text) ∧ cs[o + 3]? = some v
def put4 (cs : Array Value) (o : Nat) (e : E4) (v : Value) : Array Value := (((cs.setIfInBounds o (.int .i64 e.day)).setIfInBounds (o + 1) (.int .i64 e.ref)).setIfInBounds (o + 2) (.string e.text)).setIfInBounds (o + 3) v
theorem put4_size (cs : Array Value) (o : Nat) (e : E4) (v : Value) : (put4 cs o e v).size = cs.size := by simp [put4]
theorem put4_get {cs : Array Value} {o : Nat} {e : E4} {v : Value} (h : o + 4 ≤ cs.size) : CellsE (put4 cs o e v) o e v := by
  unfold CellsE put4
  refine ⟨?_, ?_, ?_, ?_⟩
  · rw [get_set_ne (by omega), get_set_ne (by omega), get_set_ne (by omega), get_set_eq (by omega)]
  · rw [get_set_ne (by omega), get_set_ne (by omega), get_set_eq (by simp; omega)]
  · rw [get_set_ne (by omega), get_set_eq (by simp; omega)]
  · rw [get_set_eq (by simp; omega)]
theorem put4_other {cs : Array Value} {o p : Nat} {e f : E4} {v u : Value} (h : CellsE cs p f u) (hp : p + 4 ≤ o ∨ o + 4 ≤ p) : CellsE (put4 cs o e v) p f u := by
  unfold CellsE put4 at *
  obtain ⟨h1, h2, h3, h4⟩ := h
  refine ⟨?_, ?_, ?_, ?_⟩ <;> (rw [get_set_ne (by omega), get_set_ne (by omega), get_set_ne (by omega), get_set_ne (by omega)]; assumption)

end Go.Proofs.YtapailihjlfkgaaDoor
