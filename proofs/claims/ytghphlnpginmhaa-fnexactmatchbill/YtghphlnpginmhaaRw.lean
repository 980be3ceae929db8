/- What stands by while FnExactReceived is walked. -/
import Derived.Test.YtghphlnpginmhaaRi
import Derived.Test.YtghphlnpginmhaaOm
import Derived.Test.YtghphlnpginmhaaRm
namespace Go.Proofs.Ytghphlnpginmhaa
open Go.ChangeShapes Go.WideShapes Go.ChangeAt Go.RowKit
set_option linter.unusedVariables false

/-- Rows of order lines, of receipts, in blocks of their own. -/
def OLA (w : World) (b n : Nat) (c : Nat → OL3) : Prop := OLr w (some ⟨b, 0, none⟩) n c ∧ ∃ cs, CB w b cs 49 ∧ cs.size = n * 3
def RCA (w : World) (b n : Nat) (c : Nat → RC2) : Prop := RCr w (some ⟨b, 0, none⟩) n c ∧ ∃ cs, CB w b cs 157 ∧ cs.size = n * 2
section
variable {w w' : World} {b n : Nat} {c : Nat → OL3} {r : Nat → RC2}
theorem OLA.lt (H : OLA w b n c) : b < w.heap.size := by obtain ⟨_, cs, h, _⟩ := H; exact h.lt
theorem RCA.lt (H : RCA w b n r) : b < w.heap.size := by obtain ⟨_, cs, h, _⟩ := H; exact h.lt
theorem OLA.keep (H : OLA w b n c) (h : w'.heap[b]? = w.heap[b]?) (hs : w.heap.size ≤ w'.heap.size) : OLA w' b n c := by
  obtain ⟨q1, cs, q2, q3⟩ := H
  refine ⟨?_, cs, q2.keep h, q3⟩
  rcases q1 with q | ⟨kb, off, e, hk, hc⟩
  · exact .inl q
  · cases e
    exact .inr ⟨_, _, rfl, Nat.lt_of_lt_of_le hk hs, fun j hj => (hc j hj).block h⟩
theorem RCA.keep (H : RCA w b n r) (h : w'.heap[b]? = w.heap[b]?) (hs : w.heap.size ≤ w'.heap.size) : RCA w' b n r := by
  obtain ⟨q1, cs, q2, q3⟩ := H
  refine ⟨?_, cs, q2.keep h, q3⟩
  rcases q1 with q | ⟨kb, off, e, hk, hc⟩
  · exact .inl q
  · cases e
    exact .inr ⟨_, _, rfl, Nat.lt_of_lt_of_le hk hs, fun j hj => (hc j hj).block h⟩
theorem OLA.below (H : OLA w b n c) (k : Below w.heap.size w w') : OLA w' b n c := H.keep (k.block b H.lt) k.size
theorem RCA.below (H : RCA w b n r) (k : Below w.heap.size w w') : RCA w' b n r := H.keep (k.block b H.lt) k.size
end
/-- The tolerance in its box, the model's answer (behind the box, ahead of lo), the two copies, the program's answer (from hi on). -/
structure RU (w : World) (M : Nat) (XS : List Value) (vo vg : Value) (xb n : Nat) (c : Nat → OL3) (yb m : Nat) (r : Nat → RC2) (tol : Array Value) (lo hi : Nat) (W : World) : Prop where
  bl : Below w.heap.size w W
  t : CB W w.heap.size tol 75
  o : W.ownsRow (w.heap.size + 1) 3 1 vo M XS
  ob : ∀ q, vo.ownBlock = some q → q < lo
  x : OLA W xb n c
  y : RCA W yb m r
  g : W.ownsRow hi 3 1 vg M XS
  l1 : w.heap.size < lo
  l2 : lo ≤ xb
  l3 : xb < yb
  l4 : yb < hi
structure RV (w : World) (M : Nat) (XS : List Value) (vo vg : Value) (yb m : Nat) (r : Nat → RC2) (tol : Array Value) (lo hi : Nat) (W : World) : Prop where
  bl : Below w.heap.size w W
  t : CB W w.heap.size tol 75
  o : W.ownsRow (w.heap.size + 1) 3 1 vo M XS
  ob : ∀ q, vo.ownBlock = some q → q < lo
  y : RCA W yb m r
  g : W.ownsRow hi 3 1 vg M XS
  l1 : w.heap.size < lo
  l3 : lo < yb
  l4 : yb < hi
structure RW (w : World) (M : Nat) (XS : List Value) (vo vg : Value) (tol : Array Value) (lo hi : Nat) (W : World) : Prop where
  bl : Below w.heap.size w W
  t : CB W w.heap.size tol 75
  o : W.ownsRow (w.heap.size + 1) 3 1 vo M XS
  ob : ∀ q, vo.ownBlock = some q → q < lo
  g : W.ownsRow hi 3 1 vg M XS
  l1 : w.heap.size < lo
  l4 : lo < hi
/-- Behind the marks: the box, the model's answer, the marked answer. -/
structure RX (w : World) (M : Nat) (XS : List Value) (vo : Value) (adg : Option Addr) (tol : Array Value) (W : World) : Prop where
  bl : Below w.heap.size w W
  t : CB W w.heap.size tol 75
  o : W.ownsRow (w.heap.size + 1) 3 1 vo M XS
  h : IR W adg M (fun j => (j : Int) + 1)
section
variable {w W W' : World} {M : Nat} {XS : List Value} {vo vg : Value} {xb n : Nat} {c : Nat → OL3} {yb m : Nat} {r : Nat → RC2} {tol : Array Value} {lo hi : Nat} {adg : Option Addr} {capg : Nat}
theorem RU.below (h : RU w M XS vo vg xb n c yb m r tol lo hi W) (b : Below W.heap.size W W') : RU w M XS vo vg xb n c yb m r tol lo hi W' := ⟨bel_on h.bl b, h.t.below b h.t.lt, row_below h.o b, h.ob, h.x.below b, h.y.below b, row_below h.g b, h.l1, h.l2, h.l3, h.l4⟩
theorem RW.below (h : RW w M XS vo vg tol lo hi W) (b : Below W.heap.size W W') : RW w M XS vo vg tol lo hi W' := ⟨bel_on h.bl b, h.t.below b h.t.lt, row_below h.o b, h.ob, row_below h.g b, h.l1, h.l4⟩
theorem RX.below (h : RX w M XS vo adg tol W) (b : Below W.heap.size W W') : RX w M XS vo adg tol W' := ⟨bel_on h.bl b, h.t.below b h.t.lt, row_below h.o b, h.h.below b⟩
theorem RU.marked (h : RU w M XS vo vg xb n c yb m r tol lo hi W) (kk : ∀ y, y < W.heap.size → y ≠ xb → W'.heap[y]? = W.heap[y]?) (b : Below xb W W') : RV w M XS vo vg yb m r tol lo hi W' := by
  have l1 := h.l1; have l2 := h.l2; have l3 := h.l3; have l4 := h.l4
  exact ⟨h.bl.trans (b.mono (by omega)), h.t.keep (kk _ h.t.lt (by omega)), row_block h.o (fun q hq => kk q (h.o.lt q hq).2 (by have := h.ob q hq; omega)), h.ob, h.y.keep (kk _ h.y.lt (by omega)) b.size, row_block h.g (fun q hq => kk q (h.g.lt q hq).2 (by have := (h.g.lt q hq).1; omega)), h.l1, by omega, h.l4⟩
theorem RV.marked (h : RV w M XS vo vg yb m r tol lo hi W) (kk : ∀ y, y < W.heap.size → y ≠ yb → W'.heap[y]? = W.heap[y]?) (b : Below yb W W') : RW w M XS vo vg tol lo hi W' := by
  have l1 := h.l1; have l3 := h.l3; have l4 := h.l4
  exact ⟨h.bl.trans (b.mono (by omega)), h.t.keep (kk _ h.t.lt (by omega)), row_block h.o (fun q hq => kk q (h.o.lt q hq).2 (by have := h.ob q hq; omega)), h.ob, row_block h.g (fun q hq => kk q (h.g.lt q hq).2 (by have := (h.g.lt q hq).1; omega)), h.l1, by omega⟩
theorem RW.marked (h : RW w M XS vo (.slice adg M capg) tol lo hi W) (gb : IR W' adg M (fun j => (j : Int) + 1)) (kk : ∀ y, y < W.heap.size → some y ≠ Value.ownBlock (.slice adg M capg) → W'.heap[y]? = W.heap[y]?) (b : Below hi W W') : RX w M XS vo adg tol W' := by
  have l1 := h.l1; have l4 := h.l4
  exact ⟨h.bl.trans (b.mono (by omega)), h.t.keep (kk _ h.t.lt (fun e => by have := (h.g.lt _ e.symm).1; omega)), row_block h.o (fun q hq => kk q (h.o.lt q hq).2 (fun e => by have h1 := h.ob q hq; have h2 := (h.g.lt q e.symm).1; omega)), gb⟩
end
theorem toTol_any (x y z : Int) (w : World) : Calls Try.prog 41 #[.agg #[.int .i64 x, .int .i64 y, .int .i64 z]] w fun e w' => e = .returned (.agg #[.int .i64 x, .int .i64 y, .int .i64 z]) ∧ Below w.heap.size w w' := by
  go_enter Try.func41, Try.ntmps41
  go_wp2
  go_returns
  exact ⟨rfl, by go_grown⟩
theorem step_bt {w W W' : World} {tol : Array Value} {t : TypeId} (h : Below w.heap.size w W ∧ CB W w.heap.size tol t) (b : Below W.heap.size W W') : Below w.heap.size w W' ∧ CB W' w.heap.size tol t := ⟨bel_on h.1 b, h.2.below b h.2.lt⟩
end Go.Proofs.Ytghphlnpginmhaa
