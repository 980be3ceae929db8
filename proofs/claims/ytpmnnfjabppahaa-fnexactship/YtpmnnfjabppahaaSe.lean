/- What stands by while FnExactHold is walked. -/
import Derived.Test.YtpmnnfjabppahaaSc
import Derived.Test.YtpmnnfjabppahaaSd
import Derived.Test.YtpmnnfjabppahaaCm
import Derived.Test.YtpmnnfjabppahaaCs
import Derived.Test.YtpmnnfjabppahaaPq
namespace Go.Proofs.Ytpmnnfjabppahaa
open Go Go.ChangeShapes Go.WideShapes Go.ChangeAt Go.RowKit
set_option linter.unusedVariables false
set_option linter.unusedSimpArgs false
/-- A row in a block of its own. -/
def ACE6 (w : World) (b n : Nat) (c : Nat → CE6) : Prop := CEr w (some ⟨b, 0, none⟩) n c ∧ ∃ cs, CB w b cs 28 ∧ cs.size = n * 6
section
variable {w w' : World} {b n : Nat} {c : Nat → CE6}
theorem ACE6.lt (H : ACE6 w b n c) : b < w.heap.size := by obtain ⟨_, cs, h, _⟩ := H; exact h.lt
theorem ACE6.keep (H : ACE6 w b n c) (h : w'.heap[b]? = w.heap[b]?) (hs : w.heap.size ≤ w'.heap.size) : ACE6 w' b n c := by
  obtain ⟨q1, cs, q2, q3⟩ := H
  refine ⟨?_, cs, q2.keep h, q3⟩
  rcases q1 with q | ⟨kb, off, e, hk, hc⟩
  · exact .inl q
  · cases e
    exact .inr ⟨_, _, rfl, Nat.lt_of_lt_of_le hk hs, fun j hj => (hc j hj).block h⟩
theorem ACE6.below (H : ACE6 w b n c) (k : Below w.heap.size w w') : ACE6 w' b n c := H.keep (k.block b H.lt) k.size
end
/-- A row in a block of its own. -/
def APK2 (w : World) (b n : Nat) (c : Nat → PK2) : Prop := PKr w (some ⟨b, 0, none⟩) n c ∧ ∃ cs, CB w b cs 37 ∧ cs.size = n * 2
section
variable {w w' : World} {b n : Nat} {c : Nat → PK2}
theorem APK2.lt (H : APK2 w b n c) : b < w.heap.size := by obtain ⟨_, cs, h, _⟩ := H; exact h.lt
theorem APK2.keep (H : APK2 w b n c) (h : w'.heap[b]? = w.heap[b]?) (hs : w.heap.size ≤ w'.heap.size) : APK2 w' b n c := by
  obtain ⟨q1, cs, q2, q3⟩ := H
  refine ⟨?_, cs, q2.keep h, q3⟩
  rcases q1 with q | ⟨kb, off, e, hk, hc⟩
  · exact .inl q
  · cases e
    exact .inr ⟨_, _, rfl, Nat.lt_of_lt_of_le hk hs, fun j hj => (hc j hj).block h⟩
theorem APK2.below (H : APK2 w b n c) (k : Below w.heap.size w w') : APK2 w' b n c := H.keep (k.block b H.lt) k.size
end
structure KH0 (w : World) (M : Nat) (F : Nat → CE6) (ado adg : Option Addr) (lo hi hg : Nat) (x0 m0 : Nat) (c0 : Nat → CE6) (x1 m1 : Nat) (c1 : Nat → PK2) (W : World) : Prop where
  bl : Below w.heap.size w W
  o : OwnM W w.heap.size lo ado M F
  g : OwnM W hi hg adg M F
  r0 : ACE6 W x0 m0 c0
  r1 : APK2 W x1 m1 c1
  l : w.heap.size ≤ lo ∧ lo ≤ x0 ∧ x0 < x1 ∧ x1 < hi
structure KH1 (w : World) (M : Nat) (F : Nat → CE6) (ado adg : Option Addr) (lo hi hg : Nat) (x1 m1 : Nat) (c1 : Nat → PK2) (W : World) : Prop where
  bl : Below w.heap.size w W
  o : OwnM W w.heap.size lo ado M F
  g : OwnM W hi hg adg M F
  r1 : APK2 W x1 m1 c1
  l : w.heap.size ≤ lo ∧ lo ≤ x1 ∧ x1 < hi
structure KH2 (w : World) (M : Nat) (F : Nat → CE6) (ado adg : Option Addr) (lo hi hg : Nat)  (W : World) : Prop where
  bl : Below w.heap.size w W
  o : OwnM W w.heap.size lo ado M F
  g : OwnM W hi hg adg M F
  l : w.heap.size ≤ lo ∧ lo ≤ hi
structure KHX (w : World) (M : Nat) (F : Nat → CE6) (ado adg : Option Addr) (lo : Nat) (W : World) : Prop where
  bl : Below w.heap.size w W
  o : OwnM W w.heap.size lo ado M F
  h : CEr W adg M (mkCE6M 1)
section
variable {w W W' : World} {M : Nat} {F : Nat → CE6} {ado adg : Option Addr} {lo hi hg : Nat} {x0 m0 : Nat} {c0 : Nat → CE6} {x1 m1 : Nat} {c1 : Nat → PK2}
theorem KH0.below (h : KH0 w M F ado adg lo hi hg x0 m0 c0 x1 m1 c1 W) (b : Below W.heap.size W W') : KH0 w M F ado adg lo hi hg x0 m0 c0 x1 m1 c1 W' := ⟨bel_on h.bl b, h.o.below b, h.g.below b, h.r0.below b, h.r1.below b, h.l⟩
theorem KH1.below (h : KH1 w M F ado adg lo hi hg x1 m1 c1 W) (b : Below W.heap.size W W') : KH1 w M F ado adg lo hi hg x1 m1 c1 W' := ⟨bel_on h.bl b, h.o.below b, h.g.below b, h.r1.below b, h.l⟩
theorem KH2.below (h : KH2 w M F ado adg lo hi hg  W) (b : Below W.heap.size W W') : KH2 w M F ado adg lo hi hg  W' := ⟨bel_on h.bl b, h.o.below b, h.g.below b, h.l⟩
theorem KHX.below (h : KHX w M F ado adg lo W) (b : Below W.heap.size W W') : KHX w M F ado adg lo W' := ⟨bel_on h.bl b, h.o.below b, h.h.below b⟩
theorem KH0.marked (h : KH0 w M F ado adg lo hi hg x0 m0 c0 x1 m1 c1 W) (kk : ∀ y, y < W.heap.size → y ≠ x0 → W'.heap[y]? = W.heap[y]?) (b : Below x0 W W') : KH1 w M F ado adg lo hi hg x1 m1 c1 W' := by
  have l := h.l
  exact ⟨h.bl.trans (b.mono (by omega)), h.o.keep (fun g _ h2 h3 => kk g h3 (by omega)), h.g.keep (fun g h1 _ h3 => kk g h3 (by omega)), h.r1.keep (kk _ h.r1.lt (by omega)) b.size, by omega⟩
theorem KH1.marked (h : KH1 w M F ado adg lo hi hg x1 m1 c1 W) (kk : ∀ y, y < W.heap.size → y ≠ x1 → W'.heap[y]? = W.heap[y]?) (b : Below x1 W W') : KH2 w M F ado adg lo hi hg  W' := by
  have l := h.l
  exact ⟨h.bl.trans (b.mono (by omega)), h.o.keep (fun g _ h2 h3 => kk g h3 (by omega)), h.g.keep (fun g h1 _ h3 => kk g h3 (by omega)), by omega⟩
theorem KH2.marked (h : KH2 w M F ado adg lo hi hg W) (r : CEr W' adg M (mkCE6M 1)) (kk : ∀ y, y < W.heap.size → (y < hi ∨ hg ≤ y) → W'.heap[y]? = W.heap[y]?) (b : Below hi W W') : KHX w M F ado adg lo W' := by
  have l := h.l
  exact ⟨h.bl.trans (b.mono (by omega)), h.o.keep (fun g _ h2 h3 => kk g h3 (Or.inl (by omega))), r⟩
end
end Go.Proofs.Ytpmnnfjabppahaa
