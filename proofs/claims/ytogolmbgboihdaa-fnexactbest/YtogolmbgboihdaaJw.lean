/- Jobs in a block of their own, their tasks behind it, all of it up to some block. -/
import Derived.Test.YtogolmbgboihdaaJb
import Derived.Test.YtogolmbgboihdaaMb
namespace Go.Proofs.Ytogolmbgboihdaa
open Go Go.ChangeShapes Go.WideShapes Go.ChangeAt Go.RowKit
set_option linter.unusedVariables false
set_option linter.unusedSimpArgs false

def AJB (w : World) (b hi n : Nat) (c : Nat → JB) : Prop := ∃ bt, OJB w b n n c bt ∧ (∀ j, j < n → bt j < hi) ∧ b < hi
section
variable {w w' : World} {b hi n : Nat} {c : Nat → JB}
theorem AJB.lt (h : AJB w b hi n c) : b < w.heap.size := by obtain ⟨bt, h, _⟩ := h; exact h.lt
theorem AJB.row (h : AJB w b hi n c) : JBr w (some ⟨b, 0, none⟩) n c := by obtain ⟨bt, h, _⟩ := h; exact h.row
theorem AJB.below (h : AJB w b hi n c) (k : Below w.heap.size w w') : AJB w' b hi n c := by obtain ⟨bt, h, h2⟩ := h; exact ⟨bt, h.below k, h2⟩
theorem AJB.keep (h : AJB w b hi n c) (hk : ∀ y, b ≤ y → y < hi → y < w.heap.size → w'.heap[y]? = w.heap[y]?) (hs : w.heap.size ≤ w'.heap.size) : AJB w' b hi n c := by
  obtain ⟨bt, ⟨⟨cs, c1, c2⟩, t, ap, inc⟩, h2, h3⟩ := h
  refine ⟨bt, ⟨⟨cs, c1.keep (hk b (Nat.le_refl _) h3 c1.lt), c2⟩, fun j hj => ?_, ap, inc⟩, h2, h3⟩
  obtain ⟨q1, ds, q2, q3⟩ := t j hj
  have hb := hk (bt j) (by have := ap j hj; omega) (h2 j hj) q2.lt
  refine ⟨?_, ds, q2.keep hb, q3⟩
  rcases q1 with q | ⟨kb, off, e, hl, hc⟩
  · exact .inl q
  · cases e
    exact .inr ⟨_, _, rfl, Nat.lt_of_lt_of_le hl hs, fun i hi => (hc i hi).block hb⟩
end
end Go.Proofs.Ytogolmbgboihdaa
