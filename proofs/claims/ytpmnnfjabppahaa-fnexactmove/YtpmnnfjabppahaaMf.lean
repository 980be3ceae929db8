/- What stands by while FnExactMove is walked. -/
import Derived.Test.YtpmnnfjabppahaaBg
import Derived.Test.YtpmnnfjabppahaaMe
namespace Go.Proofs.Ytpmnnfjabppahaa
open Go Go.ChangeShapes Go.WideShapes Go.ChangeAt Go.RowKit
set_option linter.unusedVariables false
set_option linter.unusedSimpArgs false
structure KM0 (w : World) (M : Nat) (F : Nat → CE6) (ado adg : Option Addr) (lo hi hg : Nat) (x0 m0 : Nat) (c0 : Nat → CE6) (W : World) : Prop where
  bl : Below w.heap.size w W
  o : OwnM W w.heap.size lo ado M F
  g : OwnM W hi hg adg M F
  r0 : ACE6 W x0 m0 c0
  l : w.heap.size ≤ lo ∧ lo ≤ x0 ∧ x0 < hi
structure KM1 (w : World) (M : Nat) (F : Nat → CE6) (ado adg : Option Addr) (lo hi hg : Nat)  (W : World) : Prop where
  bl : Below w.heap.size w W
  o : OwnM W w.heap.size lo ado M F
  g : OwnM W hi hg adg M F
  l : w.heap.size ≤ lo ∧ lo ≤ hi
structure KMX (w : World) (M : Nat) (F : Nat → CE6) (ado adg : Option Addr) (lo : Nat) (W : World) : Prop where
  bl : Below w.heap.size w W
  o : OwnM W w.heap.size lo ado M F
  h : CEr W adg M (mkCE6M 1)
section
variable {w W W' : World} {M : Nat} {F : Nat → CE6} {ado adg : Option Addr} {lo hi hg : Nat} {x0 m0 : Nat} {c0 : Nat → CE6}
theorem KM0.below (h : KM0 w M F ado adg lo hi hg x0 m0 c0 W) (b : Below W.heap.size W W') : KM0 w M F ado adg lo hi hg x0 m0 c0 W' := ⟨bel_on h.bl b, h.o.below b, h.g.below b, h.r0.below b, h.l⟩
theorem KM1.below (h : KM1 w M F ado adg lo hi hg  W) (b : Below W.heap.size W W') : KM1 w M F ado adg lo hi hg  W' := ⟨bel_on h.bl b, h.o.below b, h.g.below b, h.l⟩
theorem KMX.below (h : KMX w M F ado adg lo W) (b : Below W.heap.size W W') : KMX w M F ado adg lo W' := ⟨bel_on h.bl b, h.o.below b, h.h.below b⟩
theorem KM0.marked (h : KM0 w M F ado adg lo hi hg x0 m0 c0 W) (kk : ∀ y, y < W.heap.size → y ≠ x0 → W'.heap[y]? = W.heap[y]?) (b : Below x0 W W') : KM1 w M F ado adg lo hi hg  W' := by
  have l := h.l
  exact ⟨h.bl.trans (b.mono (by omega)), h.o.keep (fun g _ h2 h3 => kk g h3 (by omega)), h.g.keep (fun g h1 _ h3 => kk g h3 (by omega)), by omega⟩
theorem KM1.marked (h : KM1 w M F ado adg lo hi hg W) (r : CEr W' adg M (mkCE6M 1)) (kk : ∀ y, y < W.heap.size → (y < hi ∨ hg ≤ y) → W'.heap[y]? = W.heap[y]?) (b : Below hi W W') : KMX w M F ado adg lo W' := by
  have l := h.l
  exact ⟨h.bl.trans (b.mono (by omega)), h.o.keep (fun g _ h2 h3 => kk g h3 (Or.inl (by omega))), r⟩
end
end Go.Proofs.Ytpmnnfjabppahaa
