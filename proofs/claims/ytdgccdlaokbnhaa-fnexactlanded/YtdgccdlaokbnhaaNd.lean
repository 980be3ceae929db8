/- What stands by while FnExactLanded is walked. -/
import Derived.Test.YtdgccdlaokbnhaaNc
namespace Go.Proofs.Ytdgccdlaokbnhaa
open Go Go.ChangeShapes Go.WideShapes Go.ChangeAt Go.RowKit
set_option linter.unusedVariables false
set_option linter.unusedSimpArgs false

/-- A row in a block of its own. -/
def ALA (w : World) (b n : Nat) (c : Nat → LA2) : Prop := LAr w (some ⟨b, 0, none⟩) n c ∧ ∃ cs, CB w b cs 40 ∧ cs.size = n * 2
section
variable {w w' : World} {b n : Nat} {c : Nat → LA2}
theorem ALA.lt (H : ALA w b n c) : b < w.heap.size := by obtain ⟨_, cs, h, _⟩ := H; exact h.lt
theorem ALA.keep (H : ALA w b n c) (h : w'.heap[b]? = w.heap[b]?) (hs : w.heap.size ≤ w'.heap.size) : ALA w' b n c := by
  obtain ⟨q1, cs, q2, q3⟩ := H
  refine ⟨?_, cs, q2.keep h, q3⟩
  rcases q1 with q | ⟨kb, off, e, hk, hc⟩
  · exact .inl q
  · cases e
    exact .inr ⟨_, _, rfl, Nat.lt_of_lt_of_le hk hs, fun j hj => (hc j hj).block h⟩
theorem ALA.below (H : ALA w b n c) (k : Below w.heap.size w w') : ALA w' b n c := H.keep (k.block b H.lt) k.size
end
structure LdU (w : World) (M : Nat) (F : Nat → LA2) (ado adg : Option Addr) (lo hi hg xb n : Nat) (c : Nat → LA2) (W : World) : Prop where
  bl : Below w.heap.size w W
  o : OwnM W w.heap.size lo ado M F
  x : ALA W xb n c
  g : OwnM W hi hg adg M F
  l : w.heap.size ≤ lo ∧ lo ≤ xb ∧ xb < hi
structure LdW (w : World) (M : Nat) (F : Nat → LA2) (ado adg : Option Addr) (lo hi hg : Nat) (W : World) : Prop where
  bl : Below w.heap.size w W
  o : OwnM W w.heap.size lo ado M F
  g : OwnM W hi hg adg M F
  l : w.heap.size ≤ lo ∧ lo < hi
structure LdX (w : World) (M : Nat) (F : Nat → LA2) (ado adg : Option Addr) (lo : Nat) (W : World) : Prop where
  bl : Below w.heap.size w W
  o : OwnM W w.heap.size lo ado M F
  h : LAr W adg M (mkLA2M 1)
section
variable {w W W' : World} {M : Nat} {F : Nat → LA2} {ado adg : Option Addr} {lo hi hg xb n : Nat} {c : Nat → LA2}
theorem LdU.below (h : LdU w M F ado adg lo hi hg xb n c W) (b : Below W.heap.size W W') : LdU w M F ado adg lo hi hg xb n c W' := ⟨bel_on h.bl b, h.o.below b, h.x.below b, h.g.below b, h.l⟩
theorem LdW.below (h : LdW w M F ado adg lo hi hg W) (b : Below W.heap.size W W') : LdW w M F ado adg lo hi hg W' := ⟨bel_on h.bl b, h.o.below b, h.g.below b, h.l⟩
theorem LdX.below (h : LdX w M F ado adg lo W) (b : Below W.heap.size W W') : LdX w M F ado adg lo W' := ⟨bel_on h.bl b, h.o.below b, h.h.below b⟩
theorem LdU.marked (h : LdU w M F ado adg lo hi hg xb n c W) (kk : ∀ y, y < W.heap.size → y ≠ xb → W'.heap[y]? = W.heap[y]?) (b : Below xb W W') : LdW w M F ado adg lo hi hg W' := by
  obtain ⟨l1, l2, l3⟩ := h.l
  exact ⟨h.bl.trans (b.mono (by omega)), h.o.keep (fun g _ h2 h3 => kk g h3 (by omega)), h.g.keep (fun g h1 _ h3 => kk g h3 (by omega)), l1, by omega⟩
theorem LdW.marked (h : LdW w M F ado adg lo hi hg W) (r : LAr W' adg M (mkLA2M 1)) (kk : ∀ y, y < W.heap.size → (y < hi ∨ hg ≤ y) → W'.heap[y]? = W.heap[y]?) (b : Below hi W W') : LdX w M F ado adg lo W' := by
  obtain ⟨l1, l2⟩ := h.l
  exact ⟨h.bl.trans (b.mono (by omega)), h.o.keep (fun g _ h2 h3 => kk g h3 (Or.inl (by omega))), r⟩
end
end Go.Proofs.Ytdgccdlaokbnhaa
