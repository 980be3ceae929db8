/- What a cursor over the bytes of a draw is in memory, and what a call that moves it on leaves as it was: 'Cursor', 'Turns'. Nothing of the program but the number of the cursor's type. -/
import Derived.WalkKit
import Derived.ProofKit
import Derived.Below
import Derived.OneCell
import Derived.Laws.BitsLemmas
namespace Go.Proofs.Ytbhghghkgojpgaa
open Go.RowKit
set_option linter.unusedVariables false

/-- Every block that was there, but for block b, is as it was. -/
structure Turns (b : Nat) (w w' : World) : Prop where
  os : w'.os = w.os
  tape : w'.tape = w.tape
  output : w'.output = w.output
  size : w.heap.size ≤ w'.heap.size
  block : ∀ k, k < w.heap.size → k ≠ b → w'.heap[k]? = w.heap[k]?

theorem Turns.refl (b : Nat) (w : World) : Turns b w w := ⟨rfl, rfl, rfl, Nat.le_refl _, fun _ _ _ => rfl⟩

theorem Turns.trans {b : Nat} {a c d : World} (h : Turns b a c) (k : Turns b c d) : Turns b a d :=
  ⟨k.os.trans h.os, k.tape.trans h.tape, k.output.trans h.output, Nat.le_trans h.size k.size, fun j hj hb => (k.block j (Nat.lt_of_lt_of_le hj h.size) hb).trans (h.block j hj hb)⟩

theorem Turns.of_below {b : Nat} {w w' : World} (h : Below w.heap.size w w') : Turns b w w' := ⟨h.os, h.tape, h.output, h.size, fun k hk _ => h.block k hk⟩

theorem Turns.below {B b : Nat} {w w' : World} (h : Turns b w w') (hb : B ≤ b) (hB : B ≤ w.heap.size) : Below B w w' :=
  ⟨h.os, h.tape, h.output, h.size, fun k hk => h.block k (by omega) (by omega)⟩

theorem Turns.alloc {b : Nat} {a w : World} (h : Turns b a w) (o : Obj) : Turns b a (w.alloc o) :=
  h.trans (Turns.of_below ((Below.refl _ _).alloc (Nat.le_refl _) o))

theorem Turns.drew {b : Nat} {a w : World} (h : Turns b a w) : Turns b a w.drew := ⟨h.os, h.tape, h.output, h.size, h.block⟩

theorem Turns.setCell {b : Nat} {a w : World} (h : Turns b a w) (o : Nat) (u : Value) : Turns b a (w.setCell ⟨b, o, none⟩ u) :=
  ⟨h.os, h.tape, h.output, by simpa using h.size, fun k hk hb => by rw [Below.heap_setCell _ _ _ _ (by simpa using hb)]; exact h.block k hk hb⟩

theorem Turns.cell {b : Nat} {w w' : World} (h : Turns b w w') {k o : Nat} (hk : k < w.heap.size) (hb : k ≠ b) : w'.cell? ⟨k, o, none⟩ = w.cell? ⟨k, o, none⟩ :=
  World.cell?_of_block (w := w) (h.block k hk hb)

theorem Turns.frozen {b : Nat} {w w' : World} (h : Turns b w w') {k o : Nat} (hk : k < w.heap.size) (hb : k ≠ b) : w'.frozen? ⟨k, o, none⟩ = w.frozen? ⟨k, o, none⟩ :=
  World.frozen?_of_block (w := w) (h.block k hk hb)

def curT : TypeId := 112

/-- The cursor's block holds the code's slice, the place and the mixed number. -/
def CurB (w : World) (b : Nat) (s : Value) (n : Nat) (h : Int) : Prop := w.heap[b]? = some (.cells #[s, .int .i64 n, .int .i64 h] curT (0, 0))

theorem CurB.lt {w : World} {b : Nat} {s : Value} {n : Nat} {h : Int} (H : CurB w b s n h) : b < w.heap.size := lt_of_block H
theorem CurB.c0 {w : World} {b : Nat} {s : Value} {n : Nat} {h : Int} (H : CurB w b s n h) : w.cell? ⟨b, 0, none⟩ = some s := by unfold CurB at H; simp [World.cell?, H]
theorem CurB.c1 {w : World} {b : Nat} {s : Value} {n : Nat} {h : Int} (H : CurB w b s n h) : w.cell? ⟨b, 1, none⟩ = some (.int .i64 n) := by unfold CurB at H; simp [World.cell?, H]
theorem CurB.c2 {w : World} {b : Nat} {s : Value} {n : Nat} {h : Int} (H : CurB w b s n h) : w.cell? ⟨b, 2, none⟩ = some (.int .i64 h) := by unfold CurB at H; simp [World.cell?, H]
theorem CurB.fr {w : World} {b : Nat} {s : Value} {n : Nat} {h : Int} (H : CurB w b s n h) (o : Nat) : w.frozen? ⟨b, o, none⟩ = false := by unfold CurB at H; simp [World.frozen?, H]

theorem CurB.set1 {w : World} {b : Nat} {s : Value} {n : Nat} {h : Int} (H : CurB w b s n h) (m : Nat) : CurB (w.setCell ⟨b, 1, none⟩ (.int .i64 m)) b s m h := by
  have hlt := H.lt
  unfold CurB at H ⊢
  have h' : w.heap[b] = .cells #[s, .int .i64 n, .int .i64 h] curT (0, 0) := by simpa [Array.getElem?_eq_getElem hlt] using H
  show (w.heap.modify b _)[b]? = _
  rw [Array.getElem?_eq_getElem (by simpa using hlt), Array.getElem_modify_self, h']
  rfl

theorem CurB.set2 {w : World} {b : Nat} {s : Value} {n : Nat} {h : Int} (H : CurB w b s n h) (g : Int) : CurB (w.setCell ⟨b, 2, none⟩ (.int .i64 g)) b s n g := by
  have hlt := H.lt
  unfold CurB at H ⊢
  have h' : w.heap[b] = .cells #[s, .int .i64 n, .int .i64 h] curT (0, 0) := by simpa [Array.getElem?_eq_getElem hlt] using H
  show (w.heap.modify b _)[b]? = _
  rw [Array.getElem?_eq_getElem (by simpa using hlt), Array.getElem_modify_self, h']
  rfl

/-- Bytes that can be read, in a block other than b. -/
def ByteRow (w : World) (b : Nat) (ad : Option Addr) (len : Nat) : Prop :=
  (len = 0) ∨ ∃ k off, ad = some ⟨k, off, none⟩ ∧ k < b ∧ k < w.heap.size ∧ ∀ j, j < len → ∃ c : Int, 0 ≤ c ∧ c ≤ 255 ∧ w.cell? ⟨k, off + j, none⟩ = some (.int .u8 c)

theorem ByteRow.turns {w w' : World} {b : Nat} {ad : Option Addr} {len : Nat} (H : ByteRow w b ad len) (t : Turns b w w') : ByteRow w' b ad len := by
  rcases H with h | ⟨k, off, e, hb, hk, hc⟩
  · exact .inl h
  · refine .inr ⟨k, off, e, hb, Nat.lt_of_lt_of_le hk t.size, fun j hj => ?_⟩
    obtain ⟨c, c0, c1, hcc⟩ := hc j hj
    exact ⟨c, c0, c1, by rw [t.cell hk (Nat.ne_of_lt hb)]; exact hcc⟩

/-- A cursor stands at block b. -/
def Cursor (w : World) (b : Nat) : Prop :=
  ∃ (ad : Option Addr) (len cap n : Nat) (h : Int), CurB w b (.slice ad len cap) n h ∧ n ≤ len ∧ len ≤ 9223372036854775000 ∧ ByteRow w b ad len

theorem Cursor.lt {w : World} {b : Nat} (H : Cursor w b) : b < w.heap.size := by
  obtain ⟨ad, len, cap, n, h, H, _⟩ := H; exact H.lt

/-- Behind what leaves all blocks that were there (a new block, a draw) it still stands. -/
theorem Cursor.below {w w' : World} {b : Nat} (H : Cursor w b) (t : Below w.heap.size w w') : Cursor w' b := by
  have hlt := H.lt
  obtain ⟨ad, len, cap, n, h, H, h1, h2, h3⟩ := H
  exact ⟨ad, len, cap, n, h, by unfold CurB at H ⊢; rw [t.block b hlt]; exact H, h1, h2, h3.turns (Turns.of_below t)⟩

theorem Cursor.alloc {w : World} {b : Nat} (H : Cursor w b) (o : Obj) : Cursor (w.alloc o) b := H.below ((Below.refl _ _).alloc (Nat.le_refl _) o)
theorem Cursor.drew {w : World} {b : Nat} (H : Cursor w b) : Cursor w.drew b := H.below (Below.refl _ _).drew

/-- What leaves the cursor's block and all below it leaves the cursor. -/
theorem Cursor.low {w w' : World} {b : Nat} (H : Cursor w b) (hs : w.heap.size ≤ w'.heap.size) (h : ∀ k, k ≤ b → w'.heap[k]? = w.heap[k]?) : Cursor w' b := by
  obtain ⟨ad, len, cap, n, g, H, h1, h2, h3⟩ := H
  refine ⟨ad, len, cap, n, g, by unfold CurB at H ⊢; rw [h b (Nat.le_refl _)]; exact H, h1, h2, ?_⟩
  rcases h3 with h0 | ⟨k, off, e, hb, hk, hc⟩
  · exact .inl h0
  · refine .inr ⟨k, off, e, hb, Nat.lt_of_lt_of_le hk hs, fun j hj => ?_⟩
    obtain ⟨c, c0, c1, hcc⟩ := hc j hj
    exact ⟨c, c0, c1, by rw [World.cell?_of_block (w := w) (h k (Nat.le_of_lt hb))]; exact hcc⟩

theorem and255 (n : Int) : bits .and .i64 n 255 = n % 256 := by
  have h255 : (BitVec.ofInt 64 255).toNat = 2 ^ 8 - 1 := by decide
  have key : (BitVec.ofInt 64 n &&& BitVec.ofInt 64 255).toNat = (n % ((2 ^ 64 : Nat) : Int)).toNat % 2 ^ 8 := by
    rw [BitVec.toNat_and, BitVec.toNat_ofInt, h255, Nat.and_two_pow_sub_one_eq_mod]
  show IntKind.i64.wrap ((BitVec.ofInt 64 n &&& BitVec.ofInt 64 255).toNat : Nat) = n % 256
  rw [key, IntKind.wrap_i64]
  omega

theorem and30 (n : Int) : bits .and .i64 n 1073741823 = n % 1073741824 := by
  have h255 : (BitVec.ofInt 64 1073741823).toNat = 2 ^ 30 - 1 := by decide
  have key : (BitVec.ofInt 64 n &&& BitVec.ofInt 64 1073741823).toNat = (n % ((2 ^ 64 : Nat) : Int)).toNat % 2 ^ 30 := by
    rw [BitVec.toNat_and, BitVec.toNat_ofInt, h255, Nat.and_two_pow_sub_one_eq_mod]
  show IntKind.i64.wrap ((BitVec.ofInt 64 n &&& BitVec.ofInt 64 1073741823).toNat : Nat) = n % 1073741824
  rw [key, IntKind.wrap_i64]
  omega

end Go.Proofs.Ytbhghghkgojpgaa
