/- What stands by while FnExactBest is walked. -/
import Derived.Test.YtogolmbgboihdaaBb
import Derived.Test.YtogolmbgboihdaaJw
import Derived.Test.YtogolmbgboihdaaJb
import Derived.Test.YtogolmbgboihdaaMb
import Derived.Test.YtogolmbgboihdaaIn
namespace Go.Proofs.Ytogolmbgboihdaa
open Go Go.ChangeShapes Go.WideShapes Go.ChangeAt Go.RowKit
set_option linter.unusedVariables false
set_option linter.unusedSimpArgs false
/-- A row in a block of its own. -/
def AMA3 (w : World) (b n : Nat) (c : Nat → MA3) : Prop := MAr w (some ⟨b, 0, none⟩) n c ∧ ∃ cs, CB w b cs 43 ∧ cs.size = n * 3
section
variable {w w' : World} {b n : Nat} {c : Nat → MA3}
theorem AMA3.lt (H : AMA3 w b n c) : b < w.heap.size := by obtain ⟨_, cs, h, _⟩ := H; exact h.lt
theorem AMA3.keep (H : AMA3 w b n c) (h : w'.heap[b]? = w.heap[b]?) (hs : w.heap.size ≤ w'.heap.size) : AMA3 w' b n c := by
  obtain ⟨q1, cs, q2, q3⟩ := H
  refine ⟨?_, cs, q2.keep h, q3⟩
  rcases q1 with q | ⟨kb, off, e, hk, hc⟩
  · exact .inl q
  · cases e
    exact .inr ⟨_, _, rfl, Nat.lt_of_lt_of_le hk hs, fun j hj => (hc j hj).block h⟩
theorem AMA3.below (H : AMA3 w b n c) (k : Below w.heap.size w w') : AMA3 w' b n c := H.keep (k.block b H.lt) k.size
end
structure BU0 (w : World) (M : Nat) (F : Nat → Int) (ado adg : Option Addr) (lo hi hg : Nat) (x0 m0 : Nat) (c0 : Nat → MA3) (x1 m1 : Nat) (c1 : Nat → JB) (W : World) : Prop where
  bl : Below w.heap.size w W
  o : OwnMI W w.heap.size lo ado M F
  g : OwnMI W hi hg adg M F
  r0 : AMA3 W x0 m0 c0
  r1 : AJB W x1 (hi) m1 c1
  l : w.heap.size ≤ lo ∧ lo ≤ x0 ∧ x0 < x1 ∧ x1 < hi
structure BU1 (w : World) (M : Nat) (F : Nat → Int) (ado adg : Option Addr) (lo hi hg : Nat) (x1 m1 : Nat) (c1 : Nat → JB) (W : World) : Prop where
  bl : Below w.heap.size w W
  o : OwnMI W w.heap.size lo ado M F
  g : OwnMI W hi hg adg M F
  r1 : AJB W x1 (hi) m1 c1
  l : w.heap.size ≤ lo ∧ lo ≤ x1 ∧ x1 < hi
structure BU2 (w : World) (M : Nat) (F : Nat → Int) (ado adg : Option Addr) (lo hi hg : Nat)  (W : World) : Prop where
  bl : Below w.heap.size w W
  o : OwnMI W w.heap.size lo ado M F
  g : OwnMI W hi hg adg M F
  l : w.heap.size ≤ lo ∧ lo ≤ hi
structure BUX (w : World) (M : Nat) (F : Nat → Int) (ado adg : Option Addr) (lo : Nat) (W : World) : Prop where
  bl : Below w.heap.size w W
  o : OwnMI W w.heap.size lo ado M F
  h : IR W adg M (fun j => (j : Int) + 1)
section
variable {w W W' : World} {M : Nat} {F : Nat → Int} {ado adg : Option Addr} {lo hi hg : Nat} {x0 m0 : Nat} {c0 : Nat → MA3} {x1 m1 : Nat} {c1 : Nat → JB}
theorem BU0.below (h : BU0 w M F ado adg lo hi hg x0 m0 c0 x1 m1 c1 W) (b : Below W.heap.size W W') : BU0 w M F ado adg lo hi hg x0 m0 c0 x1 m1 c1 W' := ⟨bel_on h.bl b, h.o.below b, h.g.below b, h.r0.below b, h.r1.below b, h.l⟩
theorem BU1.below (h : BU1 w M F ado adg lo hi hg x1 m1 c1 W) (b : Below W.heap.size W W') : BU1 w M F ado adg lo hi hg x1 m1 c1 W' := ⟨bel_on h.bl b, h.o.below b, h.g.below b, h.r1.below b, h.l⟩
theorem BU2.below (h : BU2 w M F ado adg lo hi hg  W) (b : Below W.heap.size W W') : BU2 w M F ado adg lo hi hg  W' := ⟨bel_on h.bl b, h.o.below b, h.g.below b, h.l⟩
theorem BUX.below (h : BUX w M F ado adg lo W) (b : Below W.heap.size W W') : BUX w M F ado adg lo W' := ⟨bel_on h.bl b, h.o.below b, h.h.below b⟩
theorem BU0.marked (h : BU0 w M F ado adg lo hi hg x0 m0 c0 x1 m1 c1 W) (kk : ∀ y, y < W.heap.size → y ≠ x0 → W'.heap[y]? = W.heap[y]?) (b : Below x0 W W') : BU1 w M F ado adg lo hi hg x1 m1 c1 W' := by
  have l := h.l
  exact ⟨h.bl.trans (b.mono (by omega)), h.o.keep (fun g _ h2 h3 => kk g h3 (by omega)), h.g.keep (fun g h1 _ h3 => kk g h3 (by omega)), h.r1.keep (fun y h1 h2 h3 => kk y h3 (by omega)) b.size, by omega⟩
theorem BU1.marked (h : BU1 w M F ado adg lo hi hg x1 m1 c1 W) (kk : ∀ y, y < W.heap.size → (y < x1 ∨ hi ≤ y) → W'.heap[y]? = W.heap[y]?) (b : Below x1 W W') : BU2 w M F ado adg lo hi hg  W' := by
  have l := h.l
  exact ⟨h.bl.trans (b.mono (by omega)), h.o.keep (fun g _ h2 h3 => kk g h3 (by omega)), h.g.keep (fun g h1 _ h3 => kk g h3 (by omega)), by omega⟩
theorem BU2.marked (h : BU2 w M F ado adg lo hi hg W) (r : IR W' adg M (fun j => (j : Int) + 1)) (kk : ∀ y, y < W.heap.size → (y < hi ∨ hg ≤ y) → W'.heap[y]? = W.heap[y]?) (b : Below hi W W') : BUX w M F ado adg lo W' := by
  have l := h.l
  exact ⟨h.bl.trans (b.mono (by omega)), h.o.keep (fun g _ h2 h3 => kk g h3 (Or.inl (by omega))), r⟩
end
end Go.Proofs.Ytogolmbgboihdaa
