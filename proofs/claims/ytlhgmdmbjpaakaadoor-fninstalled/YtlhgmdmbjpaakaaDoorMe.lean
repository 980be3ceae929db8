/- The contracts of MonthEnd, in the program and in the model: what 'mendV' says at every number. -/
import Derived.Test.YtlhgmdmbjpaakaaDoorDz
import Derived.Deep.RegionHeld3
namespace Go.Proofs.YtlhgmdmbjpaakaaDoor.Dt
open Go.ChangeShapes Go.WideShapes Go.ChangeAt Go.RowKit
set_option linter.unusedVariables false
set_option linter.unusedSimpArgs false

theorem ML.set {w : World} (h : ML w) {b o : Nat} (hb : 0 < b) (v : Value) : ML (w.setCell ⟨b, o, none⟩ v) := h.below (B := b) ((Below.refl _ _).setCell (by simp) _) hb

theorem keep_cell {W W' : World} {b o : Nat} {v : Value} (h : Below W.heap.size W W') (hc : W.cell? ⟨b, o, none⟩ = some v) : W'.cell? ⟨b, o, none⟩ = some v := by
  have hlt : b < W.heap.size := by
    unfold World.cell? at hc
    rcases Nat.lt_or_ge b W.heap.size with g | g
    · exact g
    · simp [Array.getElem?_eq_none g] at hc
  rw [World.cell?_of_block (w := W) (h.block b hlt)]; exact hc
theorem bel_on {A W W' : World} (h : Below A.heap.size A W) (k : Below W.heap.size W W') : Below A.heap.size A W' := h.trans (k.mono h.size)

/-- The last day of a day's month; -1 where it is none. -/
noncomputable def mendV (day : Int) : Int := if 0 ≤ day ∧ day ≤ 40000 then dayV (dat day).1 (dat day).2.1 (md (dat day).1 (dat day).2.1) else -1

theorem mendV_in {day y m d : Int} (h1 : 0 ≤ day) (h2 : day ≤ 40000) (h : dat day = (y, m, d)) : mendV day = dayV y m (md y m) := by
  unfold mendV; rw [if_pos ⟨h1, h2⟩, h]
theorem mendV_out {day : Int} (h : ¬ (0 ≤ day ∧ day ≤ 40000)) : mendV day = -1 := if_neg h

theorem dat_open {day : Int} (h1 : 0 ≤ day) (h2 : day ≤ 40000) : ∃ y m d, dat day = (y, m, d) ∧ dateA (dat day) = .agg #[.int .i64 y, .int .i64 m, .int .i64 d] ∧ 2000 ≤ y ∧ y ≤ 2109 ∧ 1 ≤ m ∧ m ≤ 12 ∧ 1 ≤ d ∧ d ≤ md y m := by
  have h := dat_is h1 h2
  obtain ⟨b1, b2, b3, b4, b5, b6⟩ := h.bounds h1 h2
  exact ⟨_, _, _, rfl, rfl, b1, b2, b3, b4, b5, b6⟩

end Go.Proofs.YtlhgmdmbjpaakaaDoor.Dt
