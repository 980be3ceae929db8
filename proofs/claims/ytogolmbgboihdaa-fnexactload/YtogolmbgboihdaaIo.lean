/- A slice of whole numbers that came in, read as a row. -/
import Derived.Test.YtogolmbgboihdaaIr
import Derived.OpenShut
import Derived.ChangeSlices
import Derived.OneCell
namespace Go.Proofs.Ytogolmbgboihdaa
open Go.ChangeShapes Go.WideShapes Go.ChangeAt Go.RowKit
set_option linter.unusedVariables false

theorem ints_of0 {H : Type} {enc : TypeId × Value → H} {P : Program} {w : World} {sp : Nat → Bool} {held : Bool} {n : Nat} {t e : TypeId} {v : Value} {y : DataW H × List MemPlace}
    (ht : P.underlying t = some (.slice e)) (he : P.underlying e = some (.int .i64)) (hc : P.cellsOf e = 1)
    (h : DataW.trod enc P w 0 sp held n t [v] = some y) : ∃ (ad : Option Addr) (len cap : Nat) (z : Nat → Int), v = .slice ad len cap ∧ len ≤ maxLen ∧ IR w ad len z := by
  rcases open_ints ht he hc h with ⟨hcs, _⟩ | ⟨x, l, c, zs, hcs, _, hl, hm, hz, _, hcell, hwz⟩
  · refine ⟨none, 0, 0, fun _ => 0, by simpa using hcs, Nat.zero_le _, .inl rfl⟩
  · refine ⟨some x, l, c, fun j => zs.getD j 0, by simpa using hcs, Nat.le_trans hl hm, ?_⟩
    by_cases h0 : l = 0
    · exact .inl h0
    · have hzl : l ≤ zs.length := by rw [hz]; split <;> omega
      obtain ⟨b, off, spot⟩ := x
      have hc0 := hcell 0 (by omega)
      have hspot : spot = none := by simpa [Addr.add] using World.cell?_spot hc0
      subst hspot
      have hlt : b < w.heap.size := by
        simp only [Addr.add, World.cell?] at hc0
        cases hh : w.heap[b]? with
        | none => simp [hh] at hc0
        | some o => exact lt_of_block hh
      refine .inr ⟨b, off, rfl, hlt, fun j hj => ?_⟩
      have hcj := hcell j (by omega)
      by_cases hj0 : j = 0
      · subst hj0; simpa [Addr.add] using hcj
      · simpa [Addr.add, hj0] using hcj

theorem ints_of {H : Type} {enc : TypeId × Value → H} {P : Program} {w : World} {sp : Nat → Bool} {held : Bool} {t e : TypeId} {ad : Option Addr} {len cap : Nat} {d : DataW H} {p : List MemPlace}
    (ht : P.underlying t = some (.slice e)) (he : P.underlying e = some (.int .i64)) (hc : P.cellsOf e = 1)
    (h : DataW.Trod enc P w 0 sp held t (.slice ad len cap) d p) : ∃ z : Nat → Int, len ≤ maxLen ∧ IR w ad len z := by
  obtain ⟨fuel, hf⟩ := h
  obtain ⟨a, l, cp, z, e1, h1, h2⟩ := ints_of0 (v := .slice ad len cap) ht he hc (by simpa [Value.cells] using hf)
  simp only [Value.slice.injEq] at e1
  obtain ⟨rfl, rfl, rfl⟩ := e1
  exact ⟨z, h1, h2⟩

end Go.Proofs.Ytogolmbgboihdaa
