/- Rows of rates (four whole numbers each) and of currencies (a text and two whole numbers) in memory. Nothing of the program. -/
import Derived.Test.YtogolmbgboihdaaIr
import Derived.Laws.MakeOwn
namespace Go.Proofs.Ytogolmbgboihdaa
open Go.RowKit
set_option linter.unusedVariables false

structure R4 where
  day : Int
  from_ : Int
  num : Int
  den : Int

def R4.cells (r : R4) : List Value := [.int .i64 r.day, .int .i64 r.from_, .int .i64 r.num, .int .i64 r.den]

/-- The four cells of one rate from a place on. -/
def At4 (w : World) (k o : Nat) (r : R4) : Prop :=
  w.cell? ⟨k, o, none⟩ = some (.int .i64 r.day) ∧ w.cell? ⟨k, o + 1, none⟩ = some (.int .i64 r.from_) ∧ w.cell? ⟨k, o + 2, none⟩ = some (.int .i64 r.num) ∧ w.cell? ⟨k, o + 3, none⟩ = some (.int .i64 r.den)

theorem At4.block {w w' : World} {k o : Nat} {r : R4} (h : At4 w k o r) (hb : w'.heap[k]? = w.heap[k]?) : At4 w' k o r := by
  have e : ∀ o, w'.cell? ⟨k, o, none⟩ = w.cell? ⟨k, o, none⟩ := fun o => World.cell?_of_block (w := w) hb
  unfold At4; rw [e, e, e, e]; exact h

/-- A slice's first 'len' elements are the rates r 0, r 1, .. -/
def RR (w : World) (ad : Option Addr) (len : Nat) (r : Nat → R4) : Prop :=
  len = 0 ∨ ∃ k off, ad = some ⟨k, off, none⟩ ∧ k < w.heap.size ∧ ∀ j, j < len → At4 w k (off + j * 4) (r j)

theorem RR.below {w w' : World} {ad : Option Addr} {len : Nat} {r : Nat → R4} (H : RR w ad len r) (t : Below w.heap.size w w') : RR w' ad len r := by
  rcases H with h | ⟨k, off, e, hk, hc⟩
  · exact .inl h
  · exact .inr ⟨k, off, e, Nat.lt_of_lt_of_le hk t.size, fun j hj => (hc j hj).block (t.block k hk)⟩
theorem RR.alloc {w : World} {ad : Option Addr} {len : Nat} {r : Nat → R4} (H : RR w ad len r) (o : Obj) : RR (w.alloc o) ad len r := H.below ((Below.refl _ _).alloc (Nat.le_refl _) o)
theorem RR.drewN {w : World} {ad : Option Addr} {len : Nat} {r : Nat → R4} (H : RR w ad len r) (q : Nat) : RR (w.drewN q) ad len r := H
theorem RR.cell {w : World} {k off len : Nat} {r : Nat → R4} (H : RR w (some ⟨k, off, none⟩) len r) {j : Nat} (hj : j < len) : At4 w k (off + j * 4) (r j) := by
  rcases H with h | ⟨k', off', e, hk, hc⟩
  · omega
  · simp only [Option.some.injEq, Addr.mk.injEq] at e
    obtain ⟨rfl, rfl, _⟩ := e
    exact hc j hj
theorem RR.addr {w : World} {ad : Option Addr} {len : Nat} {r : Nat → R4} (H : RR w ad len r) (h : 0 < len) : ∃ k off, ad = some ⟨k, off, none⟩ ∧ k < w.heap.size := by
  rcases H with h' | ⟨k', off', e, hk, hc⟩
  · omega
  · exact ⟨k', off', e, hk⟩
theorem RR.of_block {w : World} {b : Nat} {cs : Array Value} {t : TypeId} (H : CB w b cs t) (n : Nat) (r : Nat → R4) (h : ∀ j, j < n → cs[j * 4]? = some (.int .i64 (r j).day) ∧ cs[j * 4 + 1]? = some (.int .i64 (r j).from_) ∧ cs[j * 4 + 2]? = some (.int .i64 (r j).num) ∧ cs[j * 4 + 3]? = some (.int .i64 (r j).den)) : RR w (some ⟨b, 0, none⟩) n r :=
  .inr ⟨b, 0, rfl, H.lt, fun j hj => by unfold At4; rw [Nat.zero_add, H.cell, H.cell, H.cell, H.cell]; exact h j hj⟩

def zeros4 (n : Nat) : Array Value := madeCells #[.int .i64 0, .int .i64 0, .int .i64 0, .int .i64 0] (n * 4)
theorem zeros4_size (n : Nat) : (zeros4 n).size = n * 4 := size_madeCells _ _

/-- A cell set leaves all other places. -/
theorem get_set_ne {cs : Array Value} {i j : Nat} {v : Value} (h : i ≠ j) : (cs.setIfInBounds i v)[j]? = cs[j]? := by rw [Array.getElem?_setIfInBounds, if_neg h]
theorem get_set_eq {cs : Array Value} {i : Nat} {v : Value} (h : i < cs.size) : (cs.setIfInBounds i v)[i]? = some v := by rw [Array.getElem?_setIfInBounds, if_pos rfl, if_pos h]

structure C3 where
  code : ByteArray
  places : Int
  step : Int

def At3 (w : World) (k o : Nat) (c : C3) : Prop :=
  w.cell? ⟨k, o, none⟩ = some (.string c.code) ∧ w.cell? ⟨k, o + 1, none⟩ = some (.int .i64 c.places) ∧ w.cell? ⟨k, o + 2, none⟩ = some (.int .i64 c.step)

theorem At3.block {w w' : World} {k o : Nat} {c : C3} (h : At3 w k o c) (hb : w'.heap[k]? = w.heap[k]?) : At3 w' k o c := by
  have e : ∀ o, w'.cell? ⟨k, o, none⟩ = w.cell? ⟨k, o, none⟩ := fun o => World.cell?_of_block (w := w) hb
  unfold At3; rw [e, e, e]; exact h

/-- A slice's first 'len' elements are the currencies c 0, c 1, .. -/
def CR (w : World) (ad : Option Addr) (len : Nat) (c : Nat → C3) : Prop :=
  len = 0 ∨ ∃ k off, ad = some ⟨k, off, none⟩ ∧ k < w.heap.size ∧ ∀ j, j < len → At3 w k (off + j * 3) (c j)

theorem CR.below {w w' : World} {ad : Option Addr} {len : Nat} {c : Nat → C3} (H : CR w ad len c) (t : Below w.heap.size w w') : CR w' ad len c := by
  rcases H with h | ⟨k, off, e, hk, hc⟩
  · exact .inl h
  · exact .inr ⟨k, off, e, Nat.lt_of_lt_of_le hk t.size, fun j hj => (hc j hj).block (t.block k hk)⟩
theorem CR.alloc {w : World} {ad : Option Addr} {len : Nat} {c : Nat → C3} (H : CR w ad len c) (o : Obj) : CR (w.alloc o) ad len c := H.below ((Below.refl _ _).alloc (Nat.le_refl _) o)
theorem CR.drewN {w : World} {ad : Option Addr} {len : Nat} {c : Nat → C3} (H : CR w ad len c) (q : Nat) : CR (w.drewN q) ad len c := H
theorem CR.cell {w : World} {k off len : Nat} {c : Nat → C3} (H : CR w (some ⟨k, off, none⟩) len c) {j : Nat} (hj : j < len) : At3 w k (off + j * 3) (c j) := by
  rcases H with h | ⟨k', off', e, hk, hc⟩
  · omega
  · simp only [Option.some.injEq, Addr.mk.injEq] at e
    obtain ⟨rfl, rfl, _⟩ := e
    exact hc j hj
theorem CR.addr {w : World} {ad : Option Addr} {len : Nat} {c : Nat → C3} (H : CR w ad len c) (h : 0 < len) : ∃ k off, ad = some ⟨k, off, none⟩ ∧ k < w.heap.size := by
  rcases H with h' | ⟨k', off', e, hk, hc⟩
  · omega
  · exact ⟨k', off', e, hk⟩
theorem CR.mono {w : World} {ad : Option Addr} {len n : Nat} {c : Nat → C3} (H : CR w ad len c) (h : n ≤ len) : CR w ad n c := by
  rcases H with h' | ⟨k', off', e, hk, hc⟩
  · exact .inl (by omega)
  · exact .inr ⟨k', off', e, hk, fun j hj => hc j (by omega)⟩
theorem CR.of_block {w : World} {b : Nat} {cs : Array Value} {t : TypeId} (H : CB w b cs t) (n : Nat) (c : Nat → C3) (h : ∀ j, j < n → cs[j * 3]? = some (.string (c j).code) ∧ cs[j * 3 + 1]? = some (.int .i64 (c j).places) ∧ cs[j * 3 + 2]? = some (.int .i64 (c j).step)) : CR w (some ⟨b, 0, none⟩) n c :=
  .inr ⟨b, 0, rfl, H.lt, fun j hj => by unfold At3; rw [Nat.zero_add, H.cell, H.cell, H.cell]; exact h j hj⟩

def zeros3 (n : Nat) : Array Value := madeCells #[.string ByteArray.empty, .int .i64 0, .int .i64 0] (n * 3)
theorem zeros3_size (n : Nat) : (zeros3 n).size = n * 3 := size_madeCells _ _

theorem keep_cell {W W' : World} {b o : Nat} {v : Value} (h : Below W.heap.size W W') (hc : W.cell? ⟨b, o, none⟩ = some v) : W'.cell? ⟨b, o, none⟩ = some v := by
  have hlt : b < W.heap.size := by
    unfold World.cell? at hc
    rcases Nat.lt_or_ge b W.heap.size with g | g
    · exact g
    · simp [Array.getElem?_eq_none g] at hc
  rw [World.cell?_of_block (w := W) (h.block b hlt)]; exact hc

end Go.Proofs.Ytogolmbgboihdaa
