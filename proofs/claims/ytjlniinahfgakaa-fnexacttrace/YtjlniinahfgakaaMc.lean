/- Lists of lists that came in, read; what stands by while FnExactMutual is walked. -/
import Derived.Test.YtjlniinahfgakaaMb
import Derived.Test.YtjlniinahfgakaaIo
import Derived.OpenShut
import Derived.ChangeSlices
import Derived.OneCell
import Derived.Deep.Slices
import Derived.Deep.SlicePairs
namespace Go.Proofs.Ytjlniinahfgakaa
open Go Go.ChangeShapes Go.WideShapes Go.ChangeAt Go.RowKit
set_option linter.unusedVariables false

theorem intsAt {H : Type} {enc : TypeId × Value → H} {P : Program} {w : World} {sp : Nat → Bool} {held : Bool} {t e : TypeId} {fuel : Nat} {v : Value} {x : DataW H × List MemPlace}
    (ht : P.underlying t = some (.slice e)) (he : P.underlying e = some (.int .i64)) (hc : P.cellsOf e = 1) (h : DataW.trod enc P w 0 sp held fuel t [v] = some x) : ∃ ad len cap z, v = .slice ad len cap ∧ len ≤ maxLen ∧ IR w ad len z := by
  have hcap : ∃ ad len cap, v = .slice ad len cap := by
    rcases Go.Deep.open_slice ht h with ⟨hcs, _⟩ | ⟨a, l, c, m, k, D, Pl, hcs, _, hl, _⟩
    · exact ⟨none, 0, 0, by simpa using hcs⟩
    · exact ⟨some a, l, c, by simpa using hcs⟩
  obtain ⟨ad, len, cap, rfl⟩ := hcap
  obtain ⟨z, h1, h2⟩ := ints_of ht he hc (⟨fuel, by simpa [Value.cells] using h⟩ : DataW.Trod enc P w 0 sp held t (.slice ad len cap) x.1 x.2)
  exact ⟨ad, len, cap, z, rfl, h1, h2⟩
theorem lists_of {H : Type} {enc : TypeId × Value → H} {P : Program} {w : World} {sp : Nat → Bool} {held : Bool} {t e i : TypeId} {ad : Option Addr} {len cap : Nat} {d : DataW H} {p : List MemPlace}
    (ht : P.underlying t = some (.slice e)) (ce : P.cellsOf e = 1) (te : P.underlying e = some (.slice i)) (ti : P.underlying i = some (.int .i64)) (ci : P.cellsOf i = 1)
    (h : DataW.Trod enc P w 0 sp held t (.slice ad len cap) d p) : ∃ (ln : Nat → Nat) (z : Nat → Nat → Int), len ≤ maxLen ∧ (∀ j, ln j ≤ maxLen) ∧ SR w ad len ln z := by
  obtain ⟨fuel, hf⟩ := h
  rcases Go.Deep.open_slice ht hf with ⟨hcs, _⟩ | ⟨a, l, c, m, k, D, Pl, hcs, _, hl, hm, hmm, _, hx⟩
  · simp [Value.cells] at hcs
    obtain ⟨rfl, rfl, rfl⟩ := hcs
    exact ⟨fun _ => 0, fun _ _ => 0, Nat.zero_le _, fun _ => Nat.zero_le _, .inl rfl⟩
  · simp [Value.cells] at hcs
    obtain ⟨rfl, rfl, rfl⟩ := hcs
    have hlm : len ≤ m := by rw [hmm]; split <;> omega
    rw [ce] at hx
    by_cases h0 : len = 0
    · exact ⟨fun _ => 0, fun _ _ => 0, Nat.le_trans hl hm, fun _ => Nat.zero_le _, .inl h0⟩
    · obtain ⟨b, off, spot⟩ := a
      have key : ∀ j, j < len → ∃ v fu x, w.cell? ((Addr.mk b off spot).add (j * 1) |>.add 0) = some v ∧ DataW.trod enc P w 0 sp held fu e [v] = some x := fun j hj => by
        obtain ⟨cs', h1, h2⟩ := hx j (by omega)
        obtain ⟨_, hlen, hcell⟩ := World.cells?_some h1
        obtain ⟨v, rfl⟩ : ∃ v, cs' = [v] := by
          match cs', hlen with
          | [v], _ => exact ⟨v, rfl⟩
        exact ⟨v, _, _, hcell 0 (by omega), h2⟩
      have hspot : spot = none := by
        obtain ⟨v, _, _, hv, _⟩ := key 0 (by omega)
        simpa [Addr.add] using World.cell?_spot hv
      subst hspot
      have hlt : b < w.heap.size := by
        obtain ⟨v, _, _, hv, _⟩ := key 0 (by omega)
        simp only [Nat.zero_mul, Addr.add, if_true, World.cell?] at hv
        cases hh : w.heap[b]? with
        | none => simp [hh] at hv
        | some o => exact lt_of_block hh
      have key2 : ∀ j, ∃ x : Nat × (Nat → Int), x.1 ≤ maxLen ∧ (j < len → ∃ a cp, w.cell? ⟨b, off + j, none⟩ = some (.slice a x.1 cp) ∧ IR w a x.1 x.2) := fun j => by
        by_cases hj : j < len
        · obtain ⟨v, fu, x, hv, hx2⟩ := key j hj
          obtain ⟨a1, n1, k1, z1, rfl, l1, r1⟩ := intsAt te ti ci hx2
          refine ⟨(n1, z1), l1, fun _ => ⟨a1, k1, ?_, r1⟩⟩
          rw [← hv]
          congr 1
          simp only [Addr.add]
          by_cases q1 : j * 1 = 0 <;> simp_all
        · exact ⟨(0, fun _ => 0), Nat.zero_le _, fun h => absurd h hj⟩
      exact ⟨fun j => (Classical.choose (key2 j)).1, fun j => (Classical.choose (key2 j)).2, Nat.le_trans hl hm, fun j => (Classical.choose_spec (key2 j)).1, .inr ⟨b, off, rfl, hlt, fun j hj => (Classical.choose_spec (key2 j)).2 hj⟩⟩

structure UW (w : World) (M : Nat) (XS : List Value) (vo vg : Value) (lo hi : Nat) (W : World) : Prop where
  bl : Below w.heap.size w W
  o : W.ownsRow w.heap.size 3 1 vo M XS
  ob : ∀ q, vo.ownBlock = some q → q < lo
  g : W.ownsRow hi 3 1 vg M XS
structure UV (w : World) (M : Nat) (XS : List Value) (vo vg : Value) (yb m : Nat) (ln : Nat → Nat) (zz : Nat → Nat → Int) (bt : Nat → Nat) (lo hi : Nat) (W : World) : Prop where
  bl : Below w.heap.size w W
  o : W.ownsRow w.heap.size 3 1 vo M XS
  ob : ∀ q, vo.ownBlock = some q → q < lo
  y : OS W yb m m ln zz bt
  g : W.ownsRow hi 3 1 vg M XS
structure UU (w : World) (M : Nat) (XS : List Value) (vo vg : Value) (xb n : Nat) (z : Nat → Int) (yb m : Nat) (ln : Nat → Nat) (zz : Nat → Nat → Int) (bt : Nat → Nat) (lo hi : Nat) (W : World) : Prop where
  bl : Below w.heap.size w W
  o : W.ownsRow w.heap.size 3 1 vo M XS
  ob : ∀ q, vo.ownBlock = some q → q < lo
  x : RowAt W xb n z
  y : OS W yb m m ln zz bt
  g : W.ownsRow hi 3 1 vg M XS
section
variable {w W W' : World} {M : Nat} {XS : List Value} {vo vg : Value} {xb n : Nat} {z : Nat → Int} {yb m : Nat} {ln : Nat → Nat} {zz : Nat → Nat → Int} {bt : Nat → Nat} {lo hi : Nat}
theorem UW.below (h : UW w M XS vo vg lo hi W) (b : Below W.heap.size W W') : UW w M XS vo vg lo hi W' := ⟨bel_on h.bl b, row_below h.o b, h.ob, row_below h.g b⟩
theorem UU.below (h : UU w M XS vo vg xb n z yb m ln zz bt lo hi W) (b : Below W.heap.size W W') : UU w M XS vo vg xb n z yb m ln zz bt lo hi W' := ⟨bel_on h.bl b, row_below h.o b, h.ob, h.x.below b, h.y.below b, row_below h.g b⟩
theorem OS.keep (H : OS W yb m m ln zz bt) (h : ∀ y, yb ≤ y → W'.heap[y]? = W.heap[y]?) (hs : W.heap.size ≤ W'.heap.size) : OS W' yb m m ln zz bt := by
  have row : ∀ {b k : Nat} {z : Nat → Int}, yb ≤ b → RowAt W b k z → RowAt W' b k z := fun hb q => by
    obtain ⟨q1, cs, q2, q3⟩ := q
    refine ⟨?_, cs, q2.keep (h _ hb), q3⟩
    rcases q1 with q | ⟨kb, off, e, hk, hc⟩
    · exact .inl q
    · cases e
      exact .inr ⟨_, _, rfl, Nat.lt_of_lt_of_le hk hs, fun j hj => by rw [World.cell?_of_block (w := W) (h _ hb)]; exact hc j hj⟩
  obtain ⟨cs, c1, c2⟩ := H.main
  exact ⟨⟨cs, c1.keep (h _ (Nat.le_refl _)), c2⟩, fun j hj => row (by have := H.ap j hj; omega) (H.t j hj), H.ap, H.inc⟩
theorem UU.marked (h : UU w M XS vo vg lo n z yb m ln zz bt lo hi W) (kk : ∀ y, y ≠ lo → W'.heap[y]? = W.heap[y]?) (b : Below lo W W') (h1 : yb > lo) (h2 : lo < hi) (h3 : w.heap.size ≤ lo) : UV w M XS vo vg yb m ln zz bt lo hi W' := by
  have hx := h.x.lt
  refine ⟨h.bl.trans (b.mono h3), row_block h.o (fun q hq => kk q (by have := h.ob q hq; omega)), h.ob, h.y.keep (fun y hy => kk y (by omega)) b.size, row_block h.g (fun q hq => kk q ?_)⟩
  have := (h.g.lt q hq).1
  omega
theorem UV.marked (h : UV w M XS vo vg yb m ln zz bt lo hi W) (kk : ∀ y, y < W.heap.size → (y < yb ∨ hi ≤ y) → W'.heap[y]? = W.heap[y]?) (b : Below yb W W') (h1 : yb > lo) (h2 : lo < hi) (h3 : w.heap.size ≤ lo) : UW w M XS vo vg lo hi W' :=
  ⟨h.bl.trans (b.mono (by omega)), row_block h.o (fun q hq => kk q (h.o.lt q hq).2 (by have := h.ob q hq; omega)), h.ob, row_block h.g (fun q hq => kk q (h.g.lt q hq).2 (by have := (h.g.lt q hq).1; omega))⟩
end
end Go.Proofs.Ytjlniinahfgakaa
