/- A slice of pairs of whole numbers that came in, read as a row of pairs. -/
import Derived.Test.YtadjdpoplaknkaaPr
import Derived.OpenShut
import Derived.ChangeSlices
import Derived.OneCell
import Derived.Deep.SlicePairs
namespace Go.Proofs.Ytadjdpoplaknkaa
open Go.ChangeShapes Go.WideShapes Go.ChangeAt Go.RowKit
set_option linter.unusedVariables false

def intAt (v : Value) : Int := match v with | .int _ n => n | _ => 0

theorem pairs_of {H : Type} {enc : TypeId × Value → H} {P : Program} {w : World} {sp : Nat → Bool} {held : Bool} {t e : TypeId} {f0 f1 : Field} {ad : Option Addr} {len cap : Nat} {d : DataW H} {p : List MemPlace}
    (ht : P.underlying t = some (.slice e)) (he : P.underlying e = some (.struct #[f0, f1])) (ce : P.cellsOf e = 2) (o0 : f0.offset = 0) (o1 : f1.offset = 1) (c0 : P.cellsOf f0.type = 1) (c1 : P.cellsOf f1.type = 1)
    (t0 : P.underlying f0.type = some (.int .i64)) (t1 : P.underlying f1.type = some (.int .i64))
    (h : DataW.Trod enc P w 0 sp held t (.slice ad len cap) d p) : ∃ x y : Nat → Int, len ≤ maxLen ∧ PR w ad len x y := by
  obtain ⟨fuel, hf⟩ := h
  rcases Go.Deep.open_slice_pairs ht he ce o0 o1 c0 c1 hf with ⟨hcs, _⟩ | ⟨a, l, c, m, n, V0, V1, D0, D1, P0, P1, hcs, _, hl, hm, hmm, _, hcell⟩
  · simp [Value.cells] at hcs
    obtain ⟨rfl, rfl, rfl⟩ := hcs
    exact ⟨fun _ => 0, fun _ => 0, Nat.zero_le _, .inl rfl⟩
  · simp [Value.cells] at hcs
    obtain ⟨rfl, rfl, rfl⟩ := hcs
    have hlm : len ≤ m := by rw [hmm]; split <;> omega
    refine ⟨fun j => intAt (V0 j), fun j => intAt (V1 j), Nat.le_trans hl hm, ?_⟩
    by_cases h0 : len = 0
    · exact .inl h0
    · obtain ⟨b, off, spot⟩ := a
      have hc0 := (hcell 0 (by omega)).1
      have hspot : spot = none := by simpa [Addr.add] using World.cell?_spot hc0
      subst hspot
      have hlt : b < w.heap.size := by
        simp only [Addr.add, World.cell?] at hc0
        cases hh : w.heap[b]? with
        | none => simp [hh] at hc0
        | some o => exact lt_of_block hh
      refine .inr ⟨b, off, rfl, hlt, fun j hj => ?_⟩
      obtain ⟨q0, q1, r0, r1⟩ := hcell j (by omega)
      obtain ⟨u0, e0, _, _⟩ := DataW.trod_int t0 r0
      obtain ⟨u1, e1, _, _⟩ := DataW.trod_int t1 r1
      have v0 : V0 j = .int .i64 u0 := by simpa using e0
      have v1 : V1 j = .int .i64 u1 := by simpa using e1
      rw [v0] at q0
      rw [v1] at q1
      simp only [v0, v1, intAt]
      constructor
      · by_cases hj0 : j = 0
        · subst hj0; simpa [Addr.add] using q0
        · have hj2 : ¬ j * 2 = 0 := by omega
          simpa [Addr.add, hj0, hj2] using q0
      · simpa [Addr.add, Nat.add_assoc] using q1

end Go.Proofs.Ytadjdpoplaknkaa
