/- A slice of pairs of whole numbers that came in, read as a row of pairs. -/
import Derived.Test.YtapailihjlfkgaaDoorPsV
import Derived.OpenShut
import Derived.ChangeSlices
import Derived.OneCell
import Derived.Deep.SlicePairs
namespace Go.Proofs.YtapailihjlfkgaaDoor
open Go.ChangeShapes Go.WideShapes Go.ChangeAt Go.RowKit
set_option linter.unusedVariables false

def intAtP (v : Value) : Int := match v with | .int _ n => n | _ => 0

theorem wf_bd {n : Int} (h : (Lit.int .i64 n).wf = true) : -9223372036854775808 ≤ n ∧ n ≤ 9223372036854775807 := by
  have h2 : (decide (IntKind.i64.min ≤ n) && decide (n ≤ IntKind.i64.max)) = true := h
  have e1 : IntKind.i64.min = -9223372036854775808 := by decide
  have e2 : IntKind.i64.max = 9223372036854775807 := by decide
  rw [e1, e2] at h2
  simpa using h2
theorem pairs_of {H : Type} {enc : TypeId × Value → H} {P : Program} {w : World} {sp : Nat → Bool} {held : Bool} {t e : TypeId} {f0 f1 : Field} {ad : Option Addr} {len cap : Nat} {d : DataW H} {p : List MemPlace}
    (ht : P.underlying t = some (.slice e)) (he : P.underlying e = some (.struct #[f0, f1])) (ce : P.cellsOf e = 2) (o0 : f0.offset = 0) (o1 : f1.offset = 1) (c0 : P.cellsOf f0.type = 1) (c1 : P.cellsOf f1.type = 1)
    (t0 : P.underlying f0.type = some (.int .i64)) (t1 : P.underlying f1.type = some (.int .i64))
    (h : DataW.Trod enc P w 0 sp held t (.slice ad len cap) d p) : ∃ x y : Nat → Int, len ≤ maxLen ∧ PR w ad len x y ∧ (∀ j, -9223372036854775808 ≤ x j ∧ x j ≤ 9223372036854775807) ∧ ∀ j, len ≤ j → x j = 0 ∧ y j = 0 := by
  obtain ⟨fuel, hf⟩ := h
  rcases Go.Deep.open_slice_pairs ht he ce o0 o1 c0 c1 hf with ⟨hcs, _⟩ | ⟨a, l, c, m, n, V0, V1, D0, D1, P0, P1, hcs, _, hl, hm, hmm, _, hcell⟩
  · simp [Value.cells] at hcs
    obtain ⟨rfl, rfl, rfl⟩ := hcs
    exact ⟨fun _ => 0, fun _ => 0, Nat.zero_le _, .inl rfl, fun _ => (by show (-9223372036854775808 : Int) ≤ 0 ∧ (0 : Int) ≤ 9223372036854775807; omega), fun _ _ => ⟨rfl, rfl⟩⟩
  · simp [Value.cells] at hcs
    obtain ⟨rfl, rfl, rfl⟩ := hcs
    have hlm : len ≤ m := by rw [hmm]; split <;> omega
    have cell : ∀ j, j < len → ∃ u0 u1 : Int, w.cell? (a.add (j * 2)) = some (.int .i64 u0) ∧ w.cell? (a.add (j * 2 + 1)) = some (.int .i64 u1) ∧ intAtP (V0 j) = u0 ∧ intAtP (V1 j) = u1 ∧ (-9223372036854775808 ≤ u0 ∧ u0 ≤ 9223372036854775807) := fun j hj => by
      obtain ⟨q0, q1, r0, r1⟩ := hcell j (by omega)
      obtain ⟨u0, e0, _, g0⟩ := DataW.trod_int t0 r0
      obtain ⟨u1, e1, _, _⟩ := DataW.trod_int t1 r1
      have v0 : V0 j = .int .i64 u0 := by simpa using e0
      have v1 : V1 j = .int .i64 u1 := by simpa using e1
      rw [v0] at q0
      rw [v1] at q1
      exact ⟨u0, u1, by simpa using q0, by simpa [Nat.add_assoc] using q1, by rw [v0]; rfl, by rw [v1]; rfl, wf_bd g0⟩
    refine ⟨fun j => if j < len then intAtP (V0 j) else 0, fun j => if j < len then intAtP (V1 j) else 0, Nat.le_trans hl hm, ?_, fun j => ?_, fun j hj => ⟨if_neg (by omega), if_neg (by omega)⟩⟩
    · by_cases h0 : len = 0
      · exact .inl h0
      · obtain ⟨b, off, spot⟩ := a
        obtain ⟨_, _, hc0, _⟩ := cell 0 (by omega)
        have hspot : spot = none := by simpa [Addr.add] using World.cell?_spot hc0
        subst hspot
        have hlt : b < w.heap.size := by
          simp only [Addr.add, World.cell?] at hc0
          cases hh : w.heap[b]? with
          | none => simp [hh] at hc0
          | some o => exact lt_of_block hh
        refine .inr ⟨b, off, rfl, hlt, fun j hj => ?_⟩
        obtain ⟨u0, u1, q0, q1, i0, i1, _⟩ := cell j hj
        show w.cell? ⟨b, off + j * 2, none⟩ = some (.int .i64 (if j < len then intAtP (V0 j) else 0)) ∧ w.cell? ⟨b, off + j * 2 + 1, none⟩ = some (.int .i64 (if j < len then intAtP (V1 j) else 0))
        rw [if_pos hj, if_pos hj, i0, i1]
        constructor
        · by_cases hj0 : j = 0
          · subst hj0; simpa [Addr.add] using q0
          · have hj2 : ¬ j * 2 = 0 := by omega
            simpa [Addr.add, hj0, hj2] using q0
        · simpa [Addr.add, Nat.add_assoc] using q1
    · show -9223372036854775808 ≤ (if j < len then intAtP (V0 j) else 0) ∧ (if j < len then intAtP (V0 j) else 0) ≤ 9223372036854775807
      by_cases hj : j < len
      · obtain ⟨u0, u1, _, _, i0, _, hb⟩ := cell j hj
        rw [if_pos hj, i0]; exact hb
      · rw [if_neg hj]; omega

end Go.Proofs.YtapailihjlfkgaaDoor
