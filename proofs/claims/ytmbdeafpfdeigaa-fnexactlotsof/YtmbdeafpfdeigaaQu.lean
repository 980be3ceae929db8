/- What stands by while FnExactLotsOf is walked. -/
import Derived.Test.YtmbdeafpfdeigaaQt
namespace Go.Proofs.Ytmbdeafpfdeigaa
open Go Go.ChangeShapes Go.WideShapes Go.ChangeAt Go.RowKit
set_option linter.unusedVariables false
set_option linter.unusedSimpArgs false
/-- A row in a block of its own. -/
def AI (w : World) (b n : Nat) (c : Nat → Int) : Prop := IR w (some ⟨b, 0, none⟩) n c ∧ ∃ cs, CB w b cs 3 ∧ cs.size = n
section
variable {w w' : World} {b n : Nat} {c : Nat → Int}
theorem AI.lt (H : AI w b n c) : b < w.heap.size := by obtain ⟨_, cs, h, _⟩ := H; exact h.lt
theorem AI.keep (H : AI w b n c) (h : w'.heap[b]? = w.heap[b]?) (hs : w.heap.size ≤ w'.heap.size) : AI w' b n c := by
  obtain ⟨q1, cs, q2, q3⟩ := H
  refine ⟨?_, cs, q2.keep h, q3⟩
  rcases q1 with q | ⟨kb, off, e, hk, hc⟩
  · exact .inl q
  · cases e
    exact .inr ⟨_, _, rfl, Nat.lt_of_lt_of_le hk hs, fun j hj => (World.cell?_of_block (w := w) h).trans (hc j hj)⟩
theorem AI.below (H : AI w b n c) (k : Below w.heap.size w w') : AI w' b n c := H.keep (k.block b H.lt) k.size
end
structure KL0 (w : World) (M : Nat) (F : Nat → Int) (ado adg : Option Addr) (lo hi hg : Nat) (x0 m0 : Nat) (c0 : Nat → Int) (W : World) : Prop where
  bl : Below w.heap.size w W
  o : OwnMI W w.heap.size lo ado M F
  g : OwnMI W hi hg adg M F
  r0 : AI W x0 m0 c0
  l : w.heap.size ≤ lo ∧ lo ≤ x0 ∧ x0 < hi
structure KL1 (w : World) (M : Nat) (F : Nat → Int) (ado adg : Option Addr) (lo hi hg : Nat)  (W : World) : Prop where
  bl : Below w.heap.size w W
  o : OwnMI W w.heap.size lo ado M F
  g : OwnMI W hi hg adg M F
  l : w.heap.size ≤ lo ∧ lo ≤ hi
structure KLX (w : World) (M : Nat) (F : Nat → Int) (ado adg : Option Addr) (lo : Nat) (W : World) : Prop where
  bl : Below w.heap.size w W
  o : OwnMI W w.heap.size lo ado M F
  h : IR W adg M (fun j => (j : Int) + 1)
section
variable {w W W' : World} {M : Nat} {F : Nat → Int} {ado adg : Option Addr} {lo hi hg : Nat} {x0 m0 : Nat} {c0 : Nat → Int}
theorem KL0.below (h : KL0 w M F ado adg lo hi hg x0 m0 c0 W) (b : Below W.heap.size W W') : KL0 w M F ado adg lo hi hg x0 m0 c0 W' := ⟨bel_on h.bl b, h.o.below b, h.g.below b, h.r0.below b, h.l⟩
theorem KL1.below (h : KL1 w M F ado adg lo hi hg  W) (b : Below W.heap.size W W') : KL1 w M F ado adg lo hi hg  W' := ⟨bel_on h.bl b, h.o.below b, h.g.below b, h.l⟩
theorem KLX.below (h : KLX w M F ado adg lo W) (b : Below W.heap.size W W') : KLX w M F ado adg lo W' := ⟨bel_on h.bl b, h.o.below b, h.h.below b⟩
theorem KL0.marked (h : KL0 w M F ado adg lo hi hg x0 m0 c0 W) (kk : ∀ y, y < W.heap.size → y ≠ x0 → W'.heap[y]? = W.heap[y]?) (b : Below x0 W W') : KL1 w M F ado adg lo hi hg  W' := by
  have l := h.l
  exact ⟨h.bl.trans (b.mono (by omega)), h.o.keep (fun g _ h2 h3 => kk g h3 (by omega)), h.g.keep (fun g h1 _ h3 => kk g h3 (by omega)), by omega⟩
theorem KL1.marked (h : KL1 w M F ado adg lo hi hg W) (r : IR W' adg M (fun j => (j : Int) + 1)) (kk : ∀ y, y < W.heap.size → (y < hi ∨ hg ≤ y) → W'.heap[y]? = W.heap[y]?) (b : Below hi W W') : KLX w M F ado adg lo W' := by
  have l := h.l
  exact ⟨h.bl.trans (b.mono (by omega)), h.o.keep (fun g _ h2 h3 => kk g h3 (Or.inl (by omega))), r⟩
end
end Go.Proofs.Ytmbdeafpfdeigaa
