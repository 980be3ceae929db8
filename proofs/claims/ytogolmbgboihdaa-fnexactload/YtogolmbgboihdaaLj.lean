/- What stands by while FnExactLoad is walked. -/
import Derived.Test.YtogolmbgboihdaaLh
import Derived.Test.YtogolmbgboihdaaLi
import Derived.Test.YtogolmbgboihdaaJw
import Derived.Test.YtogolmbgboihdaaSc
import Derived.Test.YtogolmbgboihdaaJb
import Derived.Test.YtogolmbgboihdaaMb
import Derived.Test.YtogolmbgboihdaaIn
namespace Go.Proofs.Ytogolmbgboihdaa
open Go Go.ChangeShapes Go.WideShapes Go.ChangeAt Go.RowKit
set_option linter.unusedVariables false
set_option linter.unusedSimpArgs false
theorem ldM_bd {n : Nat} {c : Nat → MA3} {m : Nat} {d : Nat → JB} {no : Nat} {o : Nat → Int} : ((ldM n c m d no o : Nat) : Int) ≤ 1048576 := by
  by_cases H : LdP n c m d no o
  · have h3 := (lo_p H.1).2.2.1
    have hk := kN_bd (d := d) (o := o) (m := m) (fun j hj => (jbB_p (h3.2 j hj)).2.1) (fun i hi => H.2.1.2.1 i (by have := H.2.1.1; omega)) (Nat.le_refl m)
    have := h3.1
    rw [(ld_yes H).2]; omega
  · rw [(ld_no H).2]; omega
/-- A row in a block of its own. -/
def AMA3 (w : World) (b n : Nat) (c : Nat → MA3) : Prop := MAr w (some ⟨b, 0, none⟩) n c ∧ ∃ cs, CB w b cs 43 ∧ cs.size = n * 3
section
variable {w w' : World} {b n : Nat} {c : Nat → MA3}
theorem AMA3.lt (H : AMA3 w b n c) : b < w.heap.size := by obtain ⟨_, cs, h, _⟩ := H; exact h.lt
theorem AMA3.keep (H : AMA3 w b n c) (h : w'.heap[b]? = w.heap[b]?) (hs : w.heap.size ≤ w'.heap.size) : AMA3 w' b n c := by
  obtain ⟨q1, cs, q2, q3⟩ := H
  refine ⟨?_, cs, q2.keep h, q3⟩
  rcases q1 with q | ⟨kb, off, e, hk, hc⟩
  · exact .inl q
  · cases e
    exact .inr ⟨_, _, rfl, Nat.lt_of_lt_of_le hk hs, fun j hj => (hc j hj).block h⟩
theorem AMA3.below (H : AMA3 w b n c) (k : Below w.heap.size w w') : AMA3 w' b n c := H.keep (k.block b H.lt) k.size
end
/-- A row in a block of its own. -/
def AI (w : World) (b n : Nat) (c : Nat → Int) : Prop := IR w (some ⟨b, 0, none⟩) n c ∧ ∃ cs, CB w b cs 3 ∧ cs.size = n
section
variable {w w' : World} {b n : Nat} {c : Nat → Int}
theorem AI.lt (H : AI w b n c) : b < w.heap.size := by obtain ⟨_, cs, h, _⟩ := H; exact h.lt
theorem AI.keep (H : AI w b n c) (h : w'.heap[b]? = w.heap[b]?) (hs : w.heap.size ≤ w'.heap.size) : AI w' b n c := by
  obtain ⟨q1, cs, q2, q3⟩ := H
  refine ⟨?_, cs, q2.keep h, q3⟩
  rcases q1 with q | ⟨kb, off, e, hk, hc⟩
  · exact .inl q
  · cases e
    exact .inr ⟨_, _, rfl, Nat.lt_of_lt_of_le hk hs, fun j hj => (World.cell?_of_block (w := w) h).trans (hc j hj)⟩
theorem AI.below (H : AI w b n c) (k : Below w.heap.size w w') : AI w' b n c := H.keep (k.block b H.lt) k.size
end
structure LU0 (w : World) (M : Nat) (F : Nat → SL5) (ado adg : Option Addr) (lo hi hg : Nat) (x0 m0 : Nat) (c0 : Nat → MA3) (x1 m1 : Nat) (c1 : Nat → JB) (x2 m2 : Nat) (c2 : Nat → Int) (W : World) : Prop where
  bl : Below w.heap.size w W
  o : OwnM W w.heap.size lo ado M F
  g : OwnM W hi hg adg M F
  r0 : AMA3 W x0 m0 c0
  r1 : AJB W x1 (x2) m1 c1
  r2 : AI W x2 m2 c2
  l : w.heap.size ≤ lo ∧ lo ≤ x0 ∧ x0 < x1 ∧ x1 < x2 ∧ x2 < hi
structure LU1 (w : World) (M : Nat) (F : Nat → SL5) (ado adg : Option Addr) (lo hi hg : Nat) (x1 m1 : Nat) (c1 : Nat → JB) (x2 m2 : Nat) (c2 : Nat → Int) (W : World) : Prop where
  bl : Below w.heap.size w W
  o : OwnM W w.heap.size lo ado M F
  g : OwnM W hi hg adg M F
  r1 : AJB W x1 (x2) m1 c1
  r2 : AI W x2 m2 c2
  l : w.heap.size ≤ lo ∧ lo ≤ x1 ∧ x1 < x2 ∧ x2 < hi
structure LU2 (w : World) (M : Nat) (F : Nat → SL5) (ado adg : Option Addr) (lo hi hg : Nat) (x2 m2 : Nat) (c2 : Nat → Int) (W : World) : Prop where
  bl : Below w.heap.size w W
  o : OwnM W w.heap.size lo ado M F
  g : OwnM W hi hg adg M F
  r2 : AI W x2 m2 c2
  l : w.heap.size ≤ lo ∧ lo ≤ x2 ∧ x2 < hi
structure LU3 (w : World) (M : Nat) (F : Nat → SL5) (ado adg : Option Addr) (lo hi hg : Nat)  (W : World) : Prop where
  bl : Below w.heap.size w W
  o : OwnM W w.heap.size lo ado M F
  g : OwnM W hi hg adg M F
  l : w.heap.size ≤ lo ∧ lo ≤ hi
structure LUX (w : World) (M : Nat) (F : Nat → SL5) (ado adg : Option Addr) (lo : Nat) (W : World) : Prop where
  bl : Below w.heap.size w W
  o : OwnM W w.heap.size lo ado M F
  h : SLr W adg M (mkSL5M 1)
section
variable {w W W' : World} {M : Nat} {F : Nat → SL5} {ado adg : Option Addr} {lo hi hg : Nat} {x0 m0 : Nat} {c0 : Nat → MA3} {x1 m1 : Nat} {c1 : Nat → JB} {x2 m2 : Nat} {c2 : Nat → Int}
theorem LU0.below (h : LU0 w M F ado adg lo hi hg x0 m0 c0 x1 m1 c1 x2 m2 c2 W) (b : Below W.heap.size W W') : LU0 w M F ado adg lo hi hg x0 m0 c0 x1 m1 c1 x2 m2 c2 W' := ⟨bel_on h.bl b, h.o.below b, h.g.below b, h.r0.below b, h.r1.below b, h.r2.below b, h.l⟩
theorem LU1.below (h : LU1 w M F ado adg lo hi hg x1 m1 c1 x2 m2 c2 W) (b : Below W.heap.size W W') : LU1 w M F ado adg lo hi hg x1 m1 c1 x2 m2 c2 W' := ⟨bel_on h.bl b, h.o.below b, h.g.below b, h.r1.below b, h.r2.below b, h.l⟩
theorem LU2.below (h : LU2 w M F ado adg lo hi hg x2 m2 c2 W) (b : Below W.heap.size W W') : LU2 w M F ado adg lo hi hg x2 m2 c2 W' := ⟨bel_on h.bl b, h.o.below b, h.g.below b, h.r2.below b, h.l⟩
theorem LU3.below (h : LU3 w M F ado adg lo hi hg  W) (b : Below W.heap.size W W') : LU3 w M F ado adg lo hi hg  W' := ⟨bel_on h.bl b, h.o.below b, h.g.below b, h.l⟩
theorem LUX.below (h : LUX w M F ado adg lo W) (b : Below W.heap.size W W') : LUX w M F ado adg lo W' := ⟨bel_on h.bl b, h.o.below b, h.h.below b⟩
theorem LU0.marked (h : LU0 w M F ado adg lo hi hg x0 m0 c0 x1 m1 c1 x2 m2 c2 W) (kk : ∀ y, y < W.heap.size → y ≠ x0 → W'.heap[y]? = W.heap[y]?) (b : Below x0 W W') : LU1 w M F ado adg lo hi hg x1 m1 c1 x2 m2 c2 W' := by
  have l := h.l
  exact ⟨h.bl.trans (b.mono (by omega)), h.o.keep (fun g _ h2 h3 => kk g h3 (by omega)), h.g.keep (fun g h1 _ h3 => kk g h3 (by omega)), h.r1.keep (fun y h1 h2 h3 => kk y h3 (by omega)) b.size, h.r2.keep (kk _ h.r2.lt (by omega)) b.size, by omega⟩
theorem LU1.marked (h : LU1 w M F ado adg lo hi hg x1 m1 c1 x2 m2 c2 W) (kk : ∀ y, y < W.heap.size → (y < x1 ∨ x2 ≤ y) → W'.heap[y]? = W.heap[y]?) (b : Below x1 W W') : LU2 w M F ado adg lo hi hg x2 m2 c2 W' := by
  have l := h.l
  exact ⟨h.bl.trans (b.mono (by omega)), h.o.keep (fun g _ h2 h3 => kk g h3 (by omega)), h.g.keep (fun g h1 _ h3 => kk g h3 (by omega)), h.r2.keep (kk _ h.r2.lt (by omega)) b.size, by omega⟩
theorem LU2.marked (h : LU2 w M F ado adg lo hi hg x2 m2 c2 W) (kk : ∀ y, y < W.heap.size → y ≠ x2 → W'.heap[y]? = W.heap[y]?) (b : Below x2 W W') : LU3 w M F ado adg lo hi hg  W' := by
  have l := h.l
  exact ⟨h.bl.trans (b.mono (by omega)), h.o.keep (fun g _ h2 h3 => kk g h3 (by omega)), h.g.keep (fun g h1 _ h3 => kk g h3 (by omega)), by omega⟩
theorem LU3.marked (h : LU3 w M F ado adg lo hi hg W) (r : SLr W' adg M (mkSL5M 1)) (kk : ∀ y, y < W.heap.size → (y < hi ∨ hg ≤ y) → W'.heap[y]? = W.heap[y]?) (b : Below hi W W') : LUX w M F ado adg lo W' := by
  have l := h.l
  exact ⟨h.bl.trans (b.mono (by omega)), h.o.keep (fun g _ h2 h3 => kk g h3 (Or.inl (by omega))), r⟩
end
end Go.Proofs.Ytogolmbgboihdaa
