/- What stands by while FnExactShip is walked. -/
import Derived.Test.YtpmnnfjabppahaaSc
import Derived.Test.YtpmnnfjabppahaaSd
import Derived.Test.YtpmnnfjabppahaaCm
import Derived.Test.YtpmnnfjabppahaaCs
import Derived.Test.YtpmnnfjabppahaaPq
import Derived.Test.YtpmnnfjabppahaaSe
namespace Go.Proofs.Ytpmnnfjabppahaa
open Go Go.ChangeShapes Go.WideShapes Go.ChangeAt Go.RowKit
set_option linter.unusedVariables false
set_option linter.unusedSimpArgs false
structure KS0 (w : World) (M : Nat) (F : Nat → CE6) (ado adg : Option Addr) (lo hi hg : Nat) (x0 m0 : Nat) (c0 : Nat → CE6) (x1 m1 : Nat) (c1 : Nat → PK2) (W : World) : Prop where
  bl : Below w.heap.size w W
  o : OwnM W w.heap.size lo ado M F
  g : OwnM W hi hg adg M F
  r0 : ACE6 W x0 m0 c0
  r1 : APK2 W x1 m1 c1
  l : w.heap.size ≤ lo ∧ lo ≤ x0 ∧ x0 < x1 ∧ x1 < hi
structure KS1 (w : World) (M : Nat) (F : Nat → CE6) (ado adg : Option Addr) (lo hi hg : Nat) (x1 m1 : Nat) (c1 : Nat → PK2) (W : World) : Prop where
  bl : Below w.heap.size w W
  o : OwnM W w.heap.size lo ado M F
  g : OwnM W hi hg adg M F
  r1 : APK2 W x1 m1 c1
  l : w.heap.size ≤ lo ∧ lo ≤ x1 ∧ x1 < hi
structure KS2 (w : World) (M : Nat) (F : Nat → CE6) (ado adg : Option Addr) (lo hi hg : Nat)  (W : World) : Prop where
  bl : Below w.heap.size w W
  o : OwnM W w.heap.size lo ado M F
  g : OwnM W hi hg adg M F
  l : w.heap.size ≤ lo ∧ lo ≤ hi
structure KSX (w : World) (M : Nat) (F : Nat → CE6) (ado adg : Option Addr) (lo : Nat) (W : World) : Prop where
  bl : Below w.heap.size w W
  o : OwnM W w.heap.size lo ado M F
  h : CEr W adg M (mkCE6M 1)
section
variable {w W W' : World} {M : Nat} {F : Nat → CE6} {ado adg : Option Addr} {lo hi hg : Nat} {x0 m0 : Nat} {c0 : Nat → CE6} {x1 m1 : Nat} {c1 : Nat → PK2}
theorem KS0.below (h : KS0 w M F ado adg lo hi hg x0 m0 c0 x1 m1 c1 W) (b : Below W.heap.size W W') : KS0 w M F ado adg lo hi hg x0 m0 c0 x1 m1 c1 W' := ⟨bel_on h.bl b, h.o.below b, h.g.below b, h.r0.below b, h.r1.below b, h.l⟩
theorem KS1.below (h : KS1 w M F ado adg lo hi hg x1 m1 c1 W) (b : Below W.heap.size W W') : KS1 w M F ado adg lo hi hg x1 m1 c1 W' := ⟨bel_on h.bl b, h.o.below b, h.g.below b, h.r1.below b, h.l⟩
theorem KS2.below (h : KS2 w M F ado adg lo hi hg  W) (b : Below W.heap.size W W') : KS2 w M F ado adg lo hi hg  W' := ⟨bel_on h.bl b, h.o.below b, h.g.below b, h.l⟩
theorem KSX.below (h : KSX w M F ado adg lo W) (b : Below W.heap.size W W') : KSX w M F ado adg lo W' := ⟨bel_on h.bl b, h.o.below b, h.h.below b⟩
theorem KS0.marked (h : KS0 w M F ado adg lo hi hg x0 m0 c0 x1 m1 c1 W) (kk : ∀ y, y < W.heap.size → y ≠ x0 → W'.heap[y]? = W.heap[y]?) (b : Below x0 W W') : KS1 w M F ado adg lo hi hg x1 m1 c1 W' := by
  have l := h.l
  exact ⟨h.bl.trans (b.mono (by omega)), h.o.keep (fun g _ h2 h3 => kk g h3 (by omega)), h.g.keep (fun g h1 _ h3 => kk g h3 (by omega)), h.r1.keep (kk _ h.r1.lt (by omega)) b.size, by omega⟩
theorem KS1.marked (h : KS1 w M F ado adg lo hi hg x1 m1 c1 W) (kk : ∀ y, y < W.heap.size → y ≠ x1 → W'.heap[y]? = W.heap[y]?) (b : Below x1 W W') : KS2 w M F ado adg lo hi hg  W' := by
  have l := h.l
  exact ⟨h.bl.trans (b.mono (by omega)), h.o.keep (fun g _ h2 h3 => kk g h3 (by omega)), h.g.keep (fun g h1 _ h3 => kk g h3 (by omega)), by omega⟩
theorem KS2.marked (h : KS2 w M F ado adg lo hi hg W) (r : CEr W' adg M (mkCE6M 1)) (kk : ∀ y, y < W.heap.size → (y < hi ∨ hg ≤ y) → W'.heap[y]? = W.heap[y]?) (b : Below hi W W') : KSX w M F ado adg lo W' := by
  have l := h.l
  exact ⟨h.bl.trans (b.mono (by omega)), h.o.keep (fun g _ h2 h3 => kk g h3 (Or.inl (by omega))), r⟩
end
end Go.Proofs.Ytpmnnfjabppahaa
