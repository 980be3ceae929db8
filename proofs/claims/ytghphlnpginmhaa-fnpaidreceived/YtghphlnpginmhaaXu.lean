/- What stands by while a bill is drawn. -/
import Derived.Test.YtghphlnpginmhaaXr
import Derived.Test.YtghphlnpginmhaaBx
namespace Go.Proofs.Ytghphlnpginmhaa
open Go Go.ChangeShapes Go.WideShapes Go.ChangeAt Go.RowKit
set_option linter.unusedVariables false
set_option linter.unusedSimpArgs false

theorem ByteRow.up {w W : World} {ad : Option Addr} {len : Nat} (H : ByteRow w w.heap.size ad len) (b : Below w.heap.size w W) : ByteRow W W.heap.size ad len := by
  rcases H with h | ⟨k, off, e, h1, h2, h3⟩
  · exact .inl h
  · exact .inr ⟨k, off, e, by have := b.size; omega, by have := b.size; omega, fun j hj => by obtain ⟨c, c0, c1, hc⟩ := h3 j hj; exact ⟨c, c0, c1, by rw [World.cell?_of_block (w := w) (b.block k h2)]; exact hc⟩⟩
theorem DXBN3.other {b : Nat} {w W : World} {base g k oc : Nat} {c : Nat → BN3} (h : DXBN3 b w base g k oc c W) {tb : Nat} (ht : base ≤ tb) (hne : tb ≠ g) (o : Nat) (u : Value) : DXBN3 b w base g k oc c (W.setCell ⟨tb, o, none⟩ u) := by
  have hb := h.bb
  have hw := h.bw
  refine ⟨h.cur.low (by simp) (fun y hy => Below.heap_setCell _ _ _ _ (by show y ≠ tb; omega)), ⟨h.trn.os, h.trn.tape, h.trn.output, by simpa using h.trn.size, fun y hy hyb => (Below.heap_setCell _ _ _ _ (by show y ≠ tb; omega)).trans (h.trn.block y hy hyb)⟩, arow_block h.own (fun q hq => ?_), h.bb, h.bw⟩
  have : q = g := by simpa [Value.ownBlock] using hq.symm
  subst this
  exact Below.heap_setCell _ _ _ _ (by show q ≠ tb; omega)
theorem OLr.keep {w W : World} {g off len : Nat} {c : Nat → OL3} (H : OLr w (some ⟨g, off, none⟩) len c) (hh : W.heap[g]? = w.heap[g]?) (hs : w.heap.size ≤ W.heap.size) : OLr W (some ⟨g, off, none⟩) len c := by
  rcases H with h | ⟨k, o, e, hk, hc⟩
  · exact .inl h
  · cases e
    exact .inr ⟨g, off, rfl, Nat.lt_of_lt_of_le hk hs, fun j hj => (hc j hj).block hh⟩
theorem RCr.keep {w W : World} {g off len : Nat} {c : Nat → RC2} (H : RCr w (some ⟨g, off, none⟩) len c) (hh : W.heap[g]? = w.heap[g]?) (hs : w.heap.size ≤ W.heap.size) : RCr W (some ⟨g, off, none⟩) len c := by
  rcases H with h | ⟨k, o, e, hk, hc⟩
  · exact .inl h
  · cases e
    exact .inr ⟨g, off, rfl, Nat.lt_of_lt_of_le hk hs, fun j hj => (hc j hj).block hh⟩
theorem BNr.keep {w W : World} {g off len : Nat} {c : Nat → BN3} (H : BNr w (some ⟨g, off, none⟩) len c) (hh : W.heap[g]? = w.heap[g]?) (hs : w.heap.size ≤ W.heap.size) : BNr W (some ⟨g, off, none⟩) len c := by
  rcases H with h | ⟨k, o, e, hk, hc⟩
  · exact .inl h
  · cases e
    exact .inr ⟨g, off, rfl, Nat.lt_of_lt_of_le hk hs, fun j hj => (hc j hj).block hh⟩
/-- Bills beside the cursor, and one more in its local. -/
structure DL (b : Nat) (w3 : World) (g k oc : Nat) (c : Nat → BN3) (tb : Nat) (x y z : Int) (W : World) : Prop where
  dx : DXBN3 b w3 w3.heap.size g k oc c W
  loc : CB W tb #[.int .i64 x, .int .i64 y, .int .i64 z] 122
  tb0 : w3.heap.size ≤ tb
  tb1 : tb ≠ g
section
variable {b : Nat} {w3 W W' : World} {g k oc : Nat} {c : Nat → BN3} {tb : Nat} {x y z : Int}
theorem DL.moved (h : DL b w3 g k oc c tb x y z W) (m : Moved b W W') : DL b w3 g k oc c tb x y z W' := ⟨h.dx.moved m, h.loc.turns m.2 (by have := h.dx.bb; have := h.tb0; omega), h.tb0, h.tb1⟩
theorem DL.alloc (h : DL b w3 g k oc c tb x y z W) (o : Obj) : DL b w3 g k oc c tb x y z (W.alloc o) := ⟨h.dx.alloc o, h.loc.alloc o, h.tb0, h.tb1⟩
theorem DL.drew (h : DL b w3 g k oc c tb x y z W) : DL b w3 g k oc c tb x y z W.drew := ⟨h.dx.dr, h.loc, h.tb0, h.tb1⟩
theorem DL.put2 (h : DL b w3 g k oc c tb x y z W) (v : Int) : DL b w3 g k oc c tb x y v (W.setCell ⟨tb, 2, none⟩ (.int .i64 v)) := ⟨h.dx.other h.tb0 h.tb1 _ _, h.loc.set _ _, h.tb0, h.tb1⟩
theorem DL.new (h : DXBN3 b w3 w3.heap.size g k oc c W) : DL b w3 g k oc c W.heap.size x y z (W.alloc (.cells #[.int .i64 x, .int .i64 y, .int .i64 z] 122 (0, 0))) := ⟨h.alloc _, CB.new _ _, h.trn.size, by have := h.gge.2; omega⟩
theorem DL.all (h : DL b w3 g k oc c tb x y z W) (x' y' z' : Int) : DL b w3 g k oc c tb x' y' z' (((W.setCell ⟨tb, 0, none⟩ (.int .i64 x')).setCell ⟨tb, 1, none⟩ (.int .i64 y')).setCell ⟨tb, 2, none⟩ (.int .i64 z')) := ⟨((h.dx.other h.tb0 h.tb1 _ _).other h.tb0 h.tb1 _ _).other h.tb0 h.tb1 _ _, ((h.loc.set 0 _).set 1 _).set 2 _, h.tb0, h.tb1⟩
theorem DL.cells (h : DL b w3 g k oc c tb x y z W) : W.cell? ⟨tb, 0, none⟩ = some (.int .i64 x) ∧ W.cell? ⟨tb, 1, none⟩ = some (.int .i64 y) ∧ W.cell? ⟨tb, 2, none⟩ = some (.int .i64 z) ∧ W.frozen? ⟨tb, 0, none⟩ = false ∧ W.frozen? ⟨tb, 1, none⟩ = false ∧ W.frozen? ⟨tb, 2, none⟩ = false := ⟨(h.loc.cell 0).trans rfl, (h.loc.cell 1).trans rfl, (h.loc.cell 2).trans rfl, h.loc.fr 0, h.loc.fr 1, h.loc.fr 2⟩
end
end Go.Proofs.Ytghphlnpginmhaa
