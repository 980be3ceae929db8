/- A struct of six one-cell fields that came in, opened. Nothing of the program. -/
import Derived.Test.YtpmnnfjabppahaaBg
namespace Go.Proofs.Ytpmnnfjabppahaa
open Go.ChangeShapes Go.WideShapes Go.ChangeAt Go.RowKit
set_option linter.unusedVariables false
theorem open_six {H : Type} {enc : TypeId × Value → H} {P : Program} {w : World} {sp : Nat → Bool} {held : Bool} {r : Reach} {b0 : Nat} {t : TypeId} {f0 f1 f2 f3 f4 f5 : Field} {v : Value} {d : DataW H} {p : List MemPlace} (hs : P.underlying t = some (.struct #[f0, f1, f2, f3, f4, f5])) (hC : P.cellsOf t = 6)
    (ho : f0.offset = 0 ∧ f1.offset = 1 ∧ f2.offset = 2 ∧ f3.offset = 3 ∧ f4.offset = 4 ∧ f5.offset = 5) (hc : P.cellsOf f0.type = 1 ∧ P.cellsOf f1.type = 1 ∧ P.cellsOf f2.type = 1 ∧ P.cellsOf f3.type = 1 ∧ P.cellsOf f4.type = 1 ∧ P.cellsOf f5.type = 1)
    (hv : Value.okWide P w r b0 t v) (h : DataW.Trod enc P w 0 sp held t v d p) :
    ∃ (v0 v1 v2 v3 v4 v5 : Value) (y0 y1 y2 y3 y4 y5 : DataW H × List MemPlace) (n : Nat), v = .agg #[v0, v1, v2, v3, v4, v5] ∧ DataW.trod enc P w 0 sp held n f0.type [v0] = some y0 ∧ DataW.trod enc P w 0 sp held n f1.type [v1] = some y1 ∧ DataW.trod enc P w 0 sp held n f2.type [v2] = some y2 ∧ DataW.trod enc P w 0 sp held n f3.type [v3] = some y3 ∧ DataW.trod enc P w 0 sp held n f4.type [v4] = some y4 ∧ DataW.trod enc P w 0 sp held n f5.type [v5] = some y5 := by
  obtain ⟨cs, rfl, hsz⟩ := okWide_struct hs hv
  obtain ⟨fuel, hf⟩ := h
  obtain ⟨xs, n, _, _, hl, hlen, hg⟩ := DataW.trod_struct hs hf
  rw [hC] at hsz
  obtain ⟨l⟩ := cs
  match l, hsz, xs, hlen with
  | [c0, c1, c2, c3, c4, c5], _, [y0, y1, y2, y3, y4, y5], _ =>
    have g0 := hg 0 f0 rfl
    have g1 := hg 1 f1 rfl
    have g2 := hg 2 f2 rfl
    have g3 := hg 3 f3 rfl
    have g4 := hg 4 f4 rfl
    have g5 := hg 5 f5 rfl
    obtain ⟨o0, o1, o2, o3, o4, o5⟩ := ho
    obtain ⟨q0, q1, q2, q3, q4, q5⟩ := hc
    rw [o0, q0] at g0
    rw [o1, q1] at g1
    rw [o2, q2] at g2
    rw [o3, q3] at g3
    rw [o4, q4] at g4
    rw [o5, q5] at g5
    exact ⟨c0, c1, c2, c3, c4, c5, y0, y1, y2, y3, y4, y5, n, rfl, by simpa [Value.cells] using g0, by simpa [Value.cells] using g1, by simpa [Value.cells] using g2, by simpa [Value.cells] using g3, by simpa [Value.cells] using g4, by simpa [Value.cells] using g5⟩
end Go.Proofs.Ytpmnnfjabppahaa
