/- What stands by while FnExactSettle is walked. -/
import Derived.Test.YtnglofgcckdbmaaUf
import Derived.Test.YtnglofgcckdbmaaOc
import Derived.Test.YtnglofgcckdbmaaPc
namespace Go.Proofs.Ytnglofgcckdbmaa
open Go Go.ChangeShapes Go.WideShapes Go.ChangeAt Go.RowKit
set_option linter.unusedVariables false
set_option linter.unusedSimpArgs false

/-- A row in a block of its own. -/
def AOI2 (w : World) (b n : Nat) (c : Nat → OI2) : Prop := OIr w (some ⟨b, 0, none⟩) n c ∧ ∃ cs, CB w b cs 60 ∧ cs.size = n * 2
section
variable {w w' : World} {b n : Nat} {c : Nat → OI2}
theorem AOI2.lt (H : AOI2 w b n c) : b < w.heap.size := by obtain ⟨_, cs, h, _⟩ := H; exact h.lt
theorem AOI2.keep (H : AOI2 w b n c) (h : w'.heap[b]? = w.heap[b]?) (hs : w.heap.size ≤ w'.heap.size) : AOI2 w' b n c := by
  obtain ⟨q1, cs, q2, q3⟩ := H
  refine ⟨?_, cs, q2.keep h, q3⟩
  rcases q1 with q | ⟨kb, off, e, hk, hc⟩
  · exact .inl q
  · cases e
    exact .inr ⟨_, _, rfl, Nat.lt_of_lt_of_le hk hs, fun j hj => (hc j hj).block h⟩
theorem AOI2.below (H : AOI2 w b n c) (k : Below w.heap.size w w') : AOI2 w' b n c := H.keep (k.block b H.lt) k.size
end
structure LeU (w : World) (M : Nat) (F : Nat → PA3) (ado adg : Option Addr) (lo hi hg xb n : Nat) (c : Nat → OI2) (yb m : Nat) (d : Nat → OI2) (W : World) : Prop where
  bl : Below w.heap.size w W
  o : OwnM W w.heap.size lo ado M F
  x : AOI2 W xb n c
  y : AOI2 W yb m d
  g : OwnM W hi hg adg M F
  l : w.heap.size ≤ lo ∧ lo ≤ xb ∧ xb < yb ∧ yb < hi
structure LeV (w : World) (M : Nat) (F : Nat → PA3) (ado adg : Option Addr) (lo hi hg yb m : Nat) (d : Nat → OI2) (W : World) : Prop where
  bl : Below w.heap.size w W
  o : OwnM W w.heap.size lo ado M F
  y : AOI2 W yb m d
  g : OwnM W hi hg adg M F
  l : w.heap.size ≤ lo ∧ lo ≤ yb ∧ yb < hi
structure LeW (w : World) (M : Nat) (F : Nat → PA3) (ado adg : Option Addr) (lo hi hg : Nat) (W : World) : Prop where
  bl : Below w.heap.size w W
  o : OwnM W w.heap.size lo ado M F
  g : OwnM W hi hg adg M F
  l : w.heap.size ≤ lo ∧ lo < hi
structure LeX (w : World) (M : Nat) (F : Nat → PA3) (ado adg : Option Addr) (lo : Nat) (W : World) : Prop where
  bl : Below w.heap.size w W
  o : OwnM W w.heap.size lo ado M F
  h : PAr W adg M (mkPA3M 1)
section
variable {w W W' : World} {M : Nat} {F : Nat → PA3} {ado adg : Option Addr} {lo hi hg xb n : Nat} {c : Nat → OI2} {yb m : Nat} {d : Nat → OI2}
theorem LeU.below (h : LeU w M F ado adg lo hi hg xb n c yb m d W) (b : Below W.heap.size W W') : LeU w M F ado adg lo hi hg xb n c yb m d W' := ⟨bel_on h.bl b, h.o.below b, h.x.below b, h.y.below b, h.g.below b, h.l⟩
theorem LeW.below (h : LeW w M F ado adg lo hi hg W) (b : Below W.heap.size W W') : LeW w M F ado adg lo hi hg W' := ⟨bel_on h.bl b, h.o.below b, h.g.below b, h.l⟩
theorem LeX.below (h : LeX w M F ado adg lo W) (b : Below W.heap.size W W') : LeX w M F ado adg lo W' := ⟨bel_on h.bl b, h.o.below b, h.h.below b⟩
theorem LeU.marked (h : LeU w M F ado adg lo hi hg xb n c yb m d W) (kk : ∀ y, y < W.heap.size → y ≠ xb → W'.heap[y]? = W.heap[y]?) (b : Below xb W W') : LeV w M F ado adg lo hi hg yb m d W' := by
  obtain ⟨l1, l2, l3, l4⟩ := h.l
  exact ⟨h.bl.trans (b.mono (by omega)), h.o.keep (fun g _ h2 h3 => kk g h3 (by omega)), h.y.keep (kk _ h.y.lt (by omega)) b.size, h.g.keep (fun g h1 _ h3 => kk g h3 (by omega)), l1, by omega, l4⟩
theorem LeV.marked (h : LeV w M F ado adg lo hi hg yb m d W) (kk : ∀ y, y < W.heap.size → y ≠ yb → W'.heap[y]? = W.heap[y]?) (b : Below yb W W') : LeW w M F ado adg lo hi hg W' := by
  obtain ⟨l1, l2, l3⟩ := h.l
  exact ⟨h.bl.trans (b.mono (by omega)), h.o.keep (fun g _ h2 h3 => kk g h3 (by omega)), h.g.keep (fun g h1 _ h3 => kk g h3 (by omega)), l1, by omega⟩
theorem LeW.marked (h : LeW w M F ado adg lo hi hg W) (r : PAr W' adg M (mkPA3M 1)) (kk : ∀ y, y < W.heap.size → (y < hi ∨ hg ≤ y) → W'.heap[y]? = W.heap[y]?) (b : Below hi W W') : LeX w M F ado adg lo W' := by
  obtain ⟨l1, l2⟩ := h.l
  exact ⟨h.bl.trans (b.mono (by omega)), h.o.keep (fun g _ h2 h3 => kk g h3 (Or.inl (by omega))), r⟩
end
end Go.Proofs.Ytnglofgcckdbmaa
