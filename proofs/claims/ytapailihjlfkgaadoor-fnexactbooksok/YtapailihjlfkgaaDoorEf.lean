/- Slices of lines and of entries that came in, read as rows. Nothing of the program. -/
import Derived.Test.YtapailihjlfkgaaDoorRf
import Derived.Test.YtapailihjlfkgaaDoorLr
namespace Go.Proofs.YtapailihjlfkgaaDoor
open Go.ChangeShapes Go.WideShapes Go.ChangeAt Go.RowKit
set_option linter.unusedVariables false

theorem slice_of {H : Type} {enc : TypeId × Value → H} {P : Program} {w : World} {sp : Nat → Bool} {held : Bool} {t e : TypeId} {fuel : Nat} {v : Value} {x : DataW H × List MemPlace}
    (ht : P.underlying t = some (.slice e)) (h : DataW.trod enc P w 0 sp held fuel t [v] = some x) : ∃ ad len cap, v = .slice ad len cap ∧ DataW.Trod enc P w 0 sp held t (.slice ad len cap) x.1 x.2 := by
  rcases Go.Deep.open_slice ht h with ⟨hcs, _⟩ | ⟨a, l, c, m, k, D, Pl, hcs, _⟩
  · have hv : v = .slice none 0 0 := by simpa using hcs
    subst hv
    exact ⟨none, 0, 0, rfl, fuel, by simpa [Value.cells] using h⟩
  · have hv : v = .slice (some a) l c := by simpa using hcs
    subst hv
    exact ⟨some a, l, c, rfl, fuel, by simpa [Value.cells] using h⟩

theorem lines_of {H : Type} {enc : TypeId × Value → H} {P : Program} {w : World} {sp : Nat → Bool} {held : Bool} {t e : TypeId} {f0 f1 f2 f3 f4 : Field} {ad : Option Addr} {len cap : Nat} {d : DataW H} {p : List MemPlace}
    (ht : P.underlying t = some (.slice e)) (he : P.underlying e = some (.struct #[f0, f1, f2, f3, f4])) (ce : P.cellsOf e = 5)
    (ho : f0.offset = 0 ∧ f1.offset = 1 ∧ f2.offset = 2 ∧ f3.offset = 3 ∧ f4.offset = 4) (hc : P.cellsOf f0.type = 1 ∧ P.cellsOf f1.type = 1 ∧ P.cellsOf f2.type = 1 ∧ P.cellsOf f3.type = 1 ∧ P.cellsOf f4.type = 1)
    (t0 : P.underlying f0.type = some (.int .i64)) (t1 : P.underlying f1.type = some (.int .i64)) (t2 : P.underlying f2.type = some (.int .i64)) (t3 : P.underlying f3.type = some (.int .i64)) (t4 : P.underlying f4.type = some (.int .i64))
    (h : DataW.Trod enc P w 0 sp held t (.slice ad len cap) d p) : ∃ r : Nat → L5, len ≤ maxLen ∧ LR w ad len r := by
  obtain ⟨hl, h0 | ⟨b, off, e1, hb, hx⟩⟩ := structs_of ht he ce (by omega) (fun i f hf => by
    match i, hf with
    | 0, hf => simp at hf; subst hf; exact ⟨ho.1, hc.1, by omega⟩
    | 1, hf => simp at hf; subst hf; exact ⟨ho.2.1, hc.2.1, by omega⟩
    | 2, hf => simp at hf; subst hf; exact ⟨ho.2.2.1, hc.2.2.1, by omega⟩
    | 3, hf => simp at hf; subst hf; exact ⟨ho.2.2.2.1, hc.2.2.2.1, by omega⟩
    | 4, hf => simp at hf; subst hf; exact ⟨ho.2.2.2.2, hc.2.2.2.2, by omega⟩
    | n + 5, hf => simp at hf) h
  · exact ⟨fun _ => L5.zero, hl, .inl h0⟩
  · let V (o : Nat) : Int := intAt ((w.cell? ⟨b, o, none⟩).getD undef)
    have get : ∀ (f : Field) (i j : Nat), P.underlying f.type = some (.int .i64) → (∃ v fuel y, w.cell? ⟨b, off + j * 5 + i, none⟩ = some v ∧ DataW.trod enc P w 0 sp held fuel f.type [v] = some y) → w.cell? ⟨b, off + j * 5 + i, none⟩ = some (.int .i64 (V (off + j * 5 + i))) := fun f i j tf ⟨v, fuel, y, hv, hy⟩ => by
      obtain ⟨u, eu, _, _⟩ := DataW.trod_int tf hy
      have ev : v = .int .i64 u := by simpa using eu
      subst ev
      simp only [V, hv, Option.getD_some, intAt]
    refine ⟨fun j => ⟨V (off + j * 5), V (off + j * 5 + 1), V (off + j * 5 + 2), V (off + j * 5 + 3), V (off + j * 5 + 4)⟩, hl, .inr ⟨b, off, e1, hb, fun j hj => ⟨?_, ?_, ?_, ?_, ?_⟩⟩⟩
    · exact get f0 0 j t0 (hx j hj 0 f0 rfl)
    · exact get f1 1 j t1 (hx j hj 1 f1 rfl)
    · exact get f2 2 j t2 (hx j hj 2 f2 rfl)
    · exact get f3 3 j t3 (hx j hj 3 f3 rfl)
    · exact get f4 4 j t4 (hx j hj 4 f4 rfl)

/-- What the fields of a line are told to be. -/
structure LineT (P : Program) (tl : TypeId) : Prop where
  out : ∃ el f0 f1 f2 f3 f4, P.underlying tl = some (.slice el) ∧ P.underlying el = some (.struct #[f0, f1, f2, f3, f4]) ∧ P.cellsOf el = 5 ∧
    (f0.offset = 0 ∧ f1.offset = 1 ∧ f2.offset = 2 ∧ f3.offset = 3 ∧ f4.offset = 4) ∧ (P.cellsOf f0.type = 1 ∧ P.cellsOf f1.type = 1 ∧ P.cellsOf f2.type = 1 ∧ P.cellsOf f3.type = 1 ∧ P.cellsOf f4.type = 1) ∧
    P.underlying f0.type = some (.int .i64) ∧ P.underlying f1.type = some (.int .i64) ∧ P.underlying f2.type = some (.int .i64) ∧ P.underlying f3.type = some (.int .i64) ∧ P.underlying f4.type = some (.int .i64)

theorem lines_at {H : Type} {enc : TypeId × Value → H} {P : Program} {w : World} {sp : Nat → Bool} {held : Bool} {t : TypeId} {fuel : Nat} {v : Value} {x : DataW H × List MemPlace}
    (hL : LineT P t) (h : DataW.trod enc P w 0 sp held fuel t [v] = some x) : ∃ ad len cap r, v = .slice ad len cap ∧ len ≤ maxLen ∧ LR w ad len r := by
  obtain ⟨el, f0, f1, f2, f3, f4, a1, a2, a3, a4, a5, a6, a7, a8, a9, a10⟩ := hL.out
  obtain ⟨ad, len, cap, rfl, hT⟩ := slice_of a1 h
  obtain ⟨r, hl, hr⟩ := lines_of a1 a2 a3 a4 a5 a6 a7 a8 a9 a10 hT
  exact ⟨ad, len, cap, r, rfl, hl, hr⟩

theorem entries_of {H : Type} {enc : TypeId × Value → H} {P : Program} {w : World} {sp : Nat → Bool} {held : Bool} {t e : TypeId} {f0 f1 f2 f3 : Field} {ad : Option Addr} {len cap : Nat} {d : DataW H} {p : List MemPlace}
    (ht : P.underlying t = some (.slice e)) (he : P.underlying e = some (.struct #[f0, f1, f2, f3])) (ce : P.cellsOf e = 4)
    (ho : f0.offset = 0 ∧ f1.offset = 1 ∧ f2.offset = 2 ∧ f3.offset = 3) (hc : P.cellsOf f0.type = 1 ∧ P.cellsOf f1.type = 1 ∧ P.cellsOf f2.type = 1 ∧ P.cellsOf f3.type = 1)
    (t0 : P.underlying f0.type = some (.int .i64)) (t1 : P.underlying f1.type = some (.int .i64)) (t2 : P.underlying f2.type = some .string) (t3 : LineT P f3.type)
    (h : DataW.Trod enc P w 0 sp held t (.slice ad len cap) d p) : ∃ r : Nat → E4, len ≤ maxLen ∧ (∀ j, (r j).text.size ≤ maxLen ∧ (r j).n ≤ maxLen) ∧ ER w ad len r := by
  obtain ⟨hl, h0 | ⟨b, off, e1, hb, hx⟩⟩ := structs_of ht he ce (by omega) (fun i f hf => by
    match i, hf with
    | 0, hf => simp at hf; subst hf; exact ⟨ho.1, hc.1, by omega⟩
    | 1, hf => simp at hf; subst hf; exact ⟨ho.2.1, hc.2.1, by omega⟩
    | 2, hf => simp at hf; subst hf; exact ⟨ho.2.2.1, hc.2.2.1, by omega⟩
    | 3, hf => simp at hf; subst hf; exact ⟨ho.2.2.2, hc.2.2.2, by omega⟩
    | n + 4, hf => simp at hf) h
  · exact ⟨fun _ => E4.zero, hl, fun j => ⟨Nat.zero_le _, Nat.zero_le _⟩, .inl h0⟩
  · have key : ∀ j, ∃ x : E4, x.text.size ≤ maxLen ∧ x.n ≤ maxLen ∧ (j < len → AtE w b (off + j * 4) x) := fun j => by
      by_cases hj : j < len
      · obtain ⟨v0, fu0, y0, c0, g0⟩ := hx j hj 0 f0 rfl
        obtain ⟨v1, fu1, y1, c1, g1⟩ := hx j hj 1 f1 rfl
        obtain ⟨v2, fu2, y2, c2, g2⟩ := hx j hj 2 f2 rfl
        obtain ⟨v3, fu3, y3, c3, g3⟩ := hx j hj 3 f3 rfl
        obtain ⟨d0, e0, _, _⟩ := DataW.trod_int t0 g0
        obtain rfl : v0 = .int .i64 d0 := by simpa using e0
        obtain ⟨d1, e1, _, _⟩ := DataW.trod_int t1 g1
        obtain rfl : v1 = .int .i64 d1 := by simpa using e1
        obtain ⟨s, e2, _, hs⟩ := DataW.trod_string t2 g2
        obtain rfl : v2 = .string s := by simpa using e2
        obtain ⟨ad', n', cap', r, rfl, hn, hr⟩ := lines_at t3 g3
        exact ⟨⟨d0, d1, s, n', r⟩, hs, hn, fun _ => ⟨c0, c1, c2, ad', cap', c3, hr⟩⟩
      · exact ⟨E4.zero, Nat.zero_le _, Nat.zero_le _, fun h => absurd h hj⟩
    exact ⟨fun j => Classical.choose (key j), hl, fun j => ⟨(Classical.choose_spec (key j)).1, (Classical.choose_spec (key j)).2.1⟩, .inr ⟨b, off, e1, hb, fun j hj => (Classical.choose_spec (key j)).2.2 hj⟩⟩

end Go.Proofs.YtapailihjlfkgaaDoor
