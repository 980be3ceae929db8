/- What stands by while FnExactRank is walked. -/
import Derived.Test.YtogolmbgboihdaaRc
import Derived.Test.YtogolmbgboihdaaJw
namespace Go.Proofs.Ytogolmbgboihdaa
open Go Go.ChangeShapes Go.WideShapes Go.ChangeAt Go.RowKit
set_option linter.unusedVariables false
set_option linter.unusedSimpArgs false
structure RU0 (w : World) (M : Nat) (F : Nat → Int) (ado adg : Option Addr) (lo hi hg : Nat) (x0 m0 : Nat) (c0 : Nat → JB) (W : World) : Prop where
  bl : Below w.heap.size w W
  o : OwnMI W w.heap.size lo ado M F
  g : OwnMI W hi hg adg M F
  r0 : AJB W x0 (hi) m0 c0
  l : w.heap.size ≤ lo ∧ lo ≤ x0 ∧ x0 < hi
structure RU1 (w : World) (M : Nat) (F : Nat → Int) (ado adg : Option Addr) (lo hi hg : Nat)  (W : World) : Prop where
  bl : Below w.heap.size w W
  o : OwnMI W w.heap.size lo ado M F
  g : OwnMI W hi hg adg M F
  l : w.heap.size ≤ lo ∧ lo ≤ hi
structure RUX (w : World) (M : Nat) (F : Nat → Int) (ado adg : Option Addr) (lo : Nat) (W : World) : Prop where
  bl : Below w.heap.size w W
  o : OwnMI W w.heap.size lo ado M F
  h : IR W adg M (fun j => (j : Int) + 1)
section
variable {w W W' : World} {M : Nat} {F : Nat → Int} {ado adg : Option Addr} {lo hi hg : Nat} {x0 m0 : Nat} {c0 : Nat → JB}
theorem RU0.below (h : RU0 w M F ado adg lo hi hg x0 m0 c0 W) (b : Below W.heap.size W W') : RU0 w M F ado adg lo hi hg x0 m0 c0 W' := ⟨bel_on h.bl b, h.o.below b, h.g.below b, h.r0.below b, h.l⟩
theorem RU1.below (h : RU1 w M F ado adg lo hi hg  W) (b : Below W.heap.size W W') : RU1 w M F ado adg lo hi hg  W' := ⟨bel_on h.bl b, h.o.below b, h.g.below b, h.l⟩
theorem RUX.below (h : RUX w M F ado adg lo W) (b : Below W.heap.size W W') : RUX w M F ado adg lo W' := ⟨bel_on h.bl b, h.o.below b, h.h.below b⟩
theorem RU0.marked (h : RU0 w M F ado adg lo hi hg x0 m0 c0 W) (kk : ∀ y, y < W.heap.size → (y < x0 ∨ hi ≤ y) → W'.heap[y]? = W.heap[y]?) (b : Below x0 W W') : RU1 w M F ado adg lo hi hg  W' := by
  have l := h.l
  exact ⟨h.bl.trans (b.mono (by omega)), h.o.keep (fun g _ h2 h3 => kk g h3 (by omega)), h.g.keep (fun g h1 _ h3 => kk g h3 (by omega)), by omega⟩
theorem RU1.marked (h : RU1 w M F ado adg lo hi hg W) (r : IR W' adg M (fun j => (j : Int) + 1)) (kk : ∀ y, y < W.heap.size → (y < hi ∨ hg ≤ y) → W'.heap[y]? = W.heap[y]?) (b : Below hi W W') : RUX w M F ado adg lo W' := by
  have l := h.l
  exact ⟨h.bl.trans (b.mono (by omega)), h.o.keep (fun g _ h2 h3 => kk g h3 (Or.inl (by omega))), r⟩
end
end Go.Proofs.Ytogolmbgboihdaa
