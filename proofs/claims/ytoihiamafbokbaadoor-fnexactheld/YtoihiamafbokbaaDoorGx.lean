/- A group that came in, read. -/
import Derived.Test.YtoihiamafbokbaaDoorMa
import Derived.Test.YtoihiamafbokbaaDoorRf
import Derived.Test.YtoihiamafbokbaaDoorIo
import Derived.OpenShut
import Derived.ChangeSlices
import Derived.OneCell
import Derived.Deep.Slices
import Derived.Deep.SlicePairs
import Derived.Lib.SmallJoins
namespace Go.Proofs.YtoihiamafbokbaaDoor
open Go.ChangeShapes Go.WideShapes Go.ChangeAt Go.RowKit
set_option linter.unusedVariables false

theorem size_small {n : Nat} (h : n ≤ maxLen) : (n : Int) ≤ 9223372036854775807 := by unfold maxLen at h; omega
theorem slice_of {H : Type} {enc : TypeId × Value → H} {P : Program} {w : World} {sp : Nat → Bool} {held : Bool} {t e : TypeId} {fuel : Nat} {v : Value} {x : DataW H × List MemPlace}
    (ht : P.underlying t = some (.slice e)) (h : DataW.trod enc P w 0 sp held fuel t [v] = some x) : ∃ ad len cap, v = .slice ad len cap ∧ DataW.Trod enc P w 0 sp held t (.slice ad len cap) x.1 x.2 := by
  rcases Go.Deep.open_slice ht h with ⟨hcs, _⟩ | ⟨a, l, c, m, k, D, Pl, hcs, _⟩
  · have hv : v = .slice none 0 0 := by simpa using hcs
    subst hv
    exact ⟨none, 0, 0, rfl, fuel, by simpa [Value.cells] using h⟩
  · have hv : v = .slice (some a) l c := by simpa using hcs
    subst hv
    exact ⟨some a, l, c, rfl, fuel, by simpa [Value.cells] using h⟩
theorem ints_at {H : Type} {enc : TypeId × Value → H} {P : Program} {w : World} {sp : Nat → Bool} {held : Bool} {t e : TypeId} {fuel : Nat} {v : Value} {x : DataW H × List MemPlace}
    (ht : P.underlying t = some (.slice e)) (he : P.underlying e = some (.int .i64)) (hc : P.cellsOf e = 1) (h : DataW.trod enc P w 0 sp held fuel t [v] = some x) : ∃ ad len cap z, v = .slice ad len cap ∧ len ≤ maxLen ∧ IR w ad len z := by
  obtain ⟨ad, len, cap, rfl, hT⟩ := slice_of ht h
  obtain ⟨z, h1, h2⟩ := ints_of ht he hc hT
  exact ⟨ad, len, cap, z, rfl, h1, h2⟩
theorem members_of {H : Type} {enc : TypeId × Value → H} {P : Program} {w : World} {sp : Nat → Bool} {held : Bool} {t e i : TypeId} {f0 f1 f2 f3 : Field} {ad : Option Addr} {len cap : Nat} {d : DataW H} {p : List MemPlace}
    (ht : P.underlying t = some (.slice e)) (he : P.underlying e = some (.struct #[f0, f1, f2, f3])) (ce : P.cellsOf e = 4)
    (ho : f0.offset = 0 ∧ f1.offset = 1 ∧ f2.offset = 2 ∧ f3.offset = 3) (hc : P.cellsOf f0.type = 1 ∧ P.cellsOf f1.type = 1 ∧ P.cellsOf f2.type = 1 ∧ P.cellsOf f3.type = 1)
    (t0 : P.underlying f0.type = some (.int .i64)) (t1 : P.underlying f1.type = some (.int .i64)) (t2 : P.underlying f2.type = some (.int .i64)) (t3 : P.underlying f3.type = some (.slice i)) (ti : P.underlying i = some (.int .i64)) (ci : P.cellsOf i = 1)
    (h : DataW.Trod enc P w 0 sp held t (.slice ad len cap) d p) : ∃ r : Nat → M4, len ≤ maxLen ∧ (∀ j, (r j).tn ≤ maxLen) ∧ MR w ad len r := by
  obtain ⟨hl, h0 | ⟨b, off, e1, hb, hx⟩⟩ := structs_of ht he ce (by omega) (fun i f hf => by
    match i, hf with
    | 0, hf => simp at hf; subst hf; exact ⟨ho.1, hc.1, by omega⟩
    | 1, hf => simp at hf; subst hf; exact ⟨ho.2.1, hc.2.1, by omega⟩
    | 2, hf => simp at hf; subst hf; exact ⟨ho.2.2.1, hc.2.2.1, by omega⟩
    | 3, hf => simp at hf; subst hf; exact ⟨ho.2.2.2, hc.2.2.2, by omega⟩
    | n + 4, hf => simp at hf) h
  · exact ⟨fun _ => ⟨0, 0, 0, 0, fun _ => 0⟩, hl, fun j => Nat.zero_le _, .inl h0⟩
  · have key : ∀ j, ∃ x : M4, x.tn ≤ maxLen ∧ (j < len → MeAt w b (off + j * 4) x) := fun j => by
      by_cases hj : j < len
      · obtain ⟨v0, fu0, y0, c0, g0⟩ := hx j hj 0 f0 rfl
        obtain ⟨v1, fu1, y1, c1, g1⟩ := hx j hj 1 f1 rfl
        obtain ⟨v2, fu2, y2, c2, g2⟩ := hx j hj 2 f2 rfl
        obtain ⟨v3, fu3, y3, c3, g3⟩ := hx j hj 3 f3 rfl
        obtain ⟨d0, e0, _, _⟩ := DataW.trod_int t0 g0
        obtain rfl : v0 = .int .i64 d0 := by simpa using e0
        obtain ⟨d1, e1', _, _⟩ := DataW.trod_int t1 g1
        obtain rfl : v1 = .int .i64 d1 := by simpa using e1'
        obtain ⟨d2, e2, _, _⟩ := DataW.trod_int t2 g2
        obtain rfl : v2 = .int .i64 d2 := by simpa using e2
        obtain ⟨a1, n1, k1, z1, rfl, l1, r1⟩ := ints_at t3 ti ci g3
        exact ⟨⟨d0, d1, d2, n1, z1⟩, l1, fun _ => ⟨a1, k1, c0, c1, c2, c3, r1⟩⟩
      · exact ⟨⟨0, 0, 0, 0, fun _ => 0⟩, Nat.zero_le _, fun h => absurd h hj⟩
    exact ⟨fun j => Classical.choose (key j), hl, fun j => (Classical.choose_spec (key j)).1, .inr ⟨b, off, e1, hb, fun j hj => (Classical.choose_spec (key j)).2 hj⟩⟩
/-- A struct of five fields of one cell each, opened. -/
theorem open_five {H : Type} {enc : TypeId × Value → H} {P : Program} {w : World} {sp : Nat → Bool} {held : Bool} {r : Reach} {b0 : Nat} {t : TypeId} {f0 f1 f2 f3 f4 : Field} {v : Value} {d : DataW H} {p : List MemPlace} (hs : P.underlying t = some (.struct #[f0, f1, f2, f3, f4])) (hC : P.cellsOf t = 5)
    (ho : f0.offset = 0 ∧ f1.offset = 1 ∧ f2.offset = 2 ∧ f3.offset = 3 ∧ f4.offset = 4) (hc : P.cellsOf f0.type = 1 ∧ P.cellsOf f1.type = 1 ∧ P.cellsOf f2.type = 1 ∧ P.cellsOf f3.type = 1 ∧ P.cellsOf f4.type = 1)
    (hv : Value.okWide P w r b0 t v) (h : DataW.Trod enc P w 0 sp held t v d p) :
    ∃ (v0 v1 v2 v3 v4 : Value) (y0 y1 y2 y3 y4 : DataW H × List MemPlace) (n : Nat), v = .agg #[v0, v1, v2, v3, v4] ∧
      DataW.trod enc P w 0 sp held n f0.type [v0] = some y0 ∧ DataW.trod enc P w 0 sp held n f1.type [v1] = some y1 ∧ DataW.trod enc P w 0 sp held n f2.type [v2] = some y2 ∧ DataW.trod enc P w 0 sp held n f3.type [v3] = some y3 ∧ DataW.trod enc P w 0 sp held n f4.type [v4] = some y4 := by
  obtain ⟨cs, rfl, hsz⟩ := okWide_struct hs hv
  obtain ⟨fuel, hf⟩ := h
  obtain ⟨xs, n, _, _, hl, hlen, hg⟩ := DataW.trod_struct hs hf
  rw [hC] at hsz
  obtain ⟨l⟩ := cs
  match l, hsz, xs, hlen with
  | [c0, c1, c2, c3, c4], _, [y0, y1, y2, y3, y4], _ =>
    have g0 := hg 0 f0 rfl
    have g1 := hg 1 f1 rfl
    have g2 := hg 2 f2 rfl
    have g3 := hg 3 f3 rfl
    have g4 := hg 4 f4 rfl
    rw [ho.1, hc.1] at g0
    rw [ho.2.1, hc.2.1] at g1
    rw [ho.2.2.1, hc.2.2.1] at g2
    rw [ho.2.2.2.1, hc.2.2.2.1] at g3
    rw [ho.2.2.2.2, hc.2.2.2.2] at g4
    exact ⟨c0, c1, c2, c3, c4, y0, y1, y2, y3, y4, n, rfl, by simpa [Value.cells] using g0, by simpa [Value.cells] using g1, by simpa [Value.cells] using g2, by simpa [Value.cells] using g3, by simpa [Value.cells] using g4⟩
end Go.Proofs.YtoihiamafbokbaaDoor
