/- What stands by while FnExactReceive is walked. -/
import Derived.Test.YtpmnnfjabppahaaBe
import Derived.Test.YtpmnnfjabppahaaCm
import Derived.Test.YtpmnnfjabppahaaCs
namespace Go.Proofs.Ytpmnnfjabppahaa
open Go Go.ChangeShapes Go.WideShapes Go.ChangeAt Go.RowKit
set_option linter.unusedVariables false
set_option linter.unusedSimpArgs false
/-- A row in a block of its own. -/
def ACE6 (w : World) (b n : Nat) (c : Nat → CE6) : Prop := CEr w (some ⟨b, 0, none⟩) n c ∧ ∃ cs, CB w b cs 28 ∧ cs.size = n * 6
section
variable {w w' : World} {b n : Nat} {c : Nat → CE6}
theorem ACE6.lt (H : ACE6 w b n c) : b < w.heap.size := by obtain ⟨_, cs, h, _⟩ := H; exact h.lt
theorem ACE6.keep (H : ACE6 w b n c) (h : w'.heap[b]? = w.heap[b]?) (hs : w.heap.size ≤ w'.heap.size) : ACE6 w' b n c := by
  obtain ⟨q1, cs, q2, q3⟩ := H
  refine ⟨?_, cs, q2.keep h, q3⟩
  rcases q1 with q | ⟨kb, off, e, hk, hc⟩
  · exact .inl q
  · cases e
    exact .inr ⟨_, _, rfl, Nat.lt_of_lt_of_le hk hs, fun j hj => (hc j hj).block h⟩
theorem ACE6.below (H : ACE6 w b n c) (k : Below w.heap.size w w') : ACE6 w' b n c := H.keep (k.block b H.lt) k.size
end
structure KR0 (w : World) (M : Nat) (F : Nat → CE6) (ado adg : Option Addr) (lo hi hg : Nat) (x0 m0 : Nat) (c0 : Nat → CE6) (W : World) : Prop where
  bl : Below w.heap.size w W
  o : OwnM W w.heap.size lo ado M F
  g : OwnM W hi hg adg M F
  r0 : ACE6 W x0 m0 c0
  l : w.heap.size ≤ lo ∧ lo ≤ x0 ∧ x0 < hi
structure KR1 (w : World) (M : Nat) (F : Nat → CE6) (ado adg : Option Addr) (lo hi hg : Nat)  (W : World) : Prop where
  bl : Below w.heap.size w W
  o : OwnM W w.heap.size lo ado M F
  g : OwnM W hi hg adg M F
  l : w.heap.size ≤ lo ∧ lo ≤ hi
structure KRX (w : World) (M : Nat) (F : Nat → CE6) (ado adg : Option Addr) (lo : Nat) (W : World) : Prop where
  bl : Below w.heap.size w W
  o : OwnM W w.heap.size lo ado M F
  h : CEr W adg M (mkCE6M 1)
section
variable {w W W' : World} {M : Nat} {F : Nat → CE6} {ado adg : Option Addr} {lo hi hg : Nat} {x0 m0 : Nat} {c0 : Nat → CE6}
theorem KR0.below (h : KR0 w M F ado adg lo hi hg x0 m0 c0 W) (b : Below W.heap.size W W') : KR0 w M F ado adg lo hi hg x0 m0 c0 W' := ⟨bel_on h.bl b, h.o.below b, h.g.below b, h.r0.below b, h.l⟩
theorem KR1.below (h : KR1 w M F ado adg lo hi hg  W) (b : Below W.heap.size W W') : KR1 w M F ado adg lo hi hg  W' := ⟨bel_on h.bl b, h.o.below b, h.g.below b, h.l⟩
theorem KRX.below (h : KRX w M F ado adg lo W) (b : Below W.heap.size W W') : KRX w M F ado adg lo W' := ⟨bel_on h.bl b, h.o.below b, h.h.below b⟩
theorem KR0.marked (h : KR0 w M F ado adg lo hi hg x0 m0 c0 W) (kk : ∀ y, y < W.heap.size → y ≠ x0 → W'.heap[y]? = W.heap[y]?) (b : Below x0 W W') : KR1 w M F ado adg lo hi hg  W' := by
  have l := h.l
  exact ⟨h.bl.trans (b.mono (by omega)), h.o.keep (fun g _ h2 h3 => kk g h3 (by omega)), h.g.keep (fun g h1 _ h3 => kk g h3 (by omega)), by omega⟩
theorem KR1.marked (h : KR1 w M F ado adg lo hi hg W) (r : CEr W' adg M (mkCE6M 1)) (kk : ∀ y, y < W.heap.size → (y < hi ∨ hg ≤ y) → W'.heap[y]? = W.heap[y]?) (b : Below hi W W') : KRX w M F ado adg lo W' := by
  have l := h.l
  exact ⟨h.bl.trans (b.mono (by omega)), h.o.keep (fun g _ h2 h3 => kk g h3 (Or.inl (by omega))), r⟩
end
end Go.Proofs.Ytpmnnfjabppahaa
