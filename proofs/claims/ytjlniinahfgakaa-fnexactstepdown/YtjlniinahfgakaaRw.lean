/- What stands by while FnExactStepDown is walked. -/
import Derived.Test.YtjlniinahfgakaaRq
import Derived.Test.YtjlniinahfgakaaHz
import Derived.Test.YtjlniinahfgakaaSf
namespace Go.Proofs.Ytjlniinahfgakaa
open Go.ChangeShapes Go.WideShapes Go.ChangeAt Go.RowKit
set_option linter.unusedVariables false

structure SW (w : World) (M : Nat) (XS : List Value) (vo vg : Value) (lo hi : Nat) (W : World) : Prop where
  bl : Below w.heap.size w W
  o : W.ownsRow w.heap.size 3 1 vo M XS
  ob : ∀ q, vo.ownBlock = some q → q < lo
  g : W.ownsRow hi 3 1 vg M XS
structure SV (w : World) (M : Nat) (XS : List Value) (vo vg : Value) (yb m : Nat) (rs : Nat → R3) (bt bw : Nat → Nat) (lo hi : Nat) (W : World) : Prop where
  bl : Below w.heap.size w W
  o : W.ownsRow w.heap.size 3 1 vo M XS
  ob : ∀ q, vo.ownBlock = some q → q < lo
  y : OR3 W yb m m rs bt bw
  g : W.ownsRow hi 3 1 vg M XS
structure SU (w : World) (M : Nat) (XS : List Value) (vo vg : Value) (xb n : Nat) (z : Nat → Int) (yb m : Nat) (rs : Nat → R3) (bt bw : Nat → Nat) (lo hi : Nat) (W : World) : Prop where
  bl : Below w.heap.size w W
  o : W.ownsRow w.heap.size 3 1 vo M XS
  ob : ∀ q, vo.ownBlock = some q → q < lo
  x : RowAt W xb n z
  y : OR3 W yb m m rs bt bw
  g : W.ownsRow hi 3 1 vg M XS
section
variable {w W W' : World} {M : Nat} {XS : List Value} {vo vg : Value} {xb n : Nat} {z : Nat → Int} {yb m : Nat} {rs : Nat → R3} {bt bw : Nat → Nat} {lo hi : Nat}
theorem SW.below (h : SW w M XS vo vg lo hi W) (b : Below W.heap.size W W') : SW w M XS vo vg lo hi W' := ⟨bel_on h.bl b, row_below h.o b, h.ob, row_below h.g b⟩
theorem SU.below (h : SU w M XS vo vg xb n z yb m rs bt bw lo hi W) (b : Below W.heap.size W W') : SU w M XS vo vg xb n z yb m rs bt bw lo hi W' := ⟨bel_on h.bl b, row_below h.o b, h.ob, h.x.below b, h.y.below b, row_below h.g b⟩
theorem OR3.keep (H : OR3 W yb m m rs bt bw) (h : ∀ y, yb ≤ y → W'.heap[y]? = W.heap[y]?) (hs : W.heap.size ≤ W'.heap.size) : OR3 W' yb m m rs bt bw := by
  have row : ∀ {b k : Nat} {z : Nat → Int}, yb ≤ b → RowAt W b k z → RowAt W' b k z := fun hb q => by
    obtain ⟨q1, cs, q2, q3⟩ := q
    refine ⟨?_, cs, q2.keep (h _ hb), q3⟩
    rcases q1 with q | ⟨kb, off, e, hk, hc⟩
    · exact .inl q
    · cases e
      exact .inr ⟨_, _, rfl, Nat.lt_of_lt_of_le hk hs, fun j hj => by rw [World.cell?_of_block (w := W) (h _ hb)]; exact hc j hj⟩
  obtain ⟨cs, c1, c2⟩ := H.main
  exact ⟨⟨cs, c1.keep (h _ (Nat.le_refl _)), c2⟩, fun j hj => row (by have := H.ap j hj; omega) (H.t j hj), fun j hj => row (by have := H.ap j hj; omega) (H.u j hj), H.ap, H.inc⟩
theorem SU.marked (h : SU w M XS vo vg lo n z yb m rs bt bw lo hi W) (kk : ∀ y, y ≠ lo → W'.heap[y]? = W.heap[y]?) (b : Below lo W W') (h1 : yb > lo) (h2 : lo < hi) (h3 : w.heap.size ≤ lo) : SV w M XS vo vg yb m rs bt bw lo hi W' := by
  have hx := h.x.lt
  refine ⟨h.bl.trans (b.mono h3), row_block h.o (fun q hq => kk q (by have := h.ob q hq; omega)), h.ob, h.y.keep (fun y hy => kk y (by omega)) b.size, row_block h.g (fun q hq => kk q ?_)⟩
  have := (h.g.lt q hq).1
  omega
theorem SV.marked (h : SV w M XS vo vg yb m rs bt bw lo hi W) (kk : ∀ y, y < W.heap.size → (y < yb ∨ hi ≤ y) → W'.heap[y]? = W.heap[y]?) (b : Below yb W W') (h1 : yb > lo) (h2 : lo < hi) (h3 : w.heap.size ≤ lo) : SW w M XS vo vg lo hi W' :=
  ⟨h.bl.trans (b.mono (by omega)), row_block h.o (fun q hq => kk q (h.o.lt q hq).2 (by have := h.ob q hq; omega)), h.ob, row_block h.g (fun q hq => kk q (h.g.lt q hq).2 (by have := (h.g.lt q hq).1; omega))⟩
end
end Go.Proofs.Ytjlniinahfgakaa
