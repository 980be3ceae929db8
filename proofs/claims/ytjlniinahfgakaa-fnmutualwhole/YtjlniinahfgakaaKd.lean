/- compareRests. -/
import Derived.Test.YtjlniinahfgakaaKc
import Derived.Deep.RegionHeld3
namespace Go.Proofs.Ytjlniinahfgakaa
open Go.ChangeShapes Go.WideShapes Go.ChangeAt Go.RowKit
set_option linter.unusedVariables false
set_option linter.unusedSimpArgs false

set_option maxHeartbeats 1000000 in
theorem compareRests_any (a b : Int × Int) (w : World) :
    Calls Try.prog 52 #[.agg #[.int .i64 a.1, .int .i64 a.2], .agg #[.int .i64 b.1, .int .i64 b.2]] w fun e w' => e = .returned (.int .i64 (crV a b)) ∧ Below w.heap.size w w' := by
  obtain ⟨d, f⟩ := a
  obtain ⟨d2, f2⟩ := b
  go_enter Try.func52, Try.ntmps52
  go_wp2
  go_region_held3 (fun w' => w'.cell? ⟨w.heap.size, 0, none⟩ = some (.int .i64 d) ∧ w'.cell? ⟨w.heap.size, 1, none⟩ = some (.int .i64 f) ∧ w'.cell? ⟨w.heap.size + 1, 0, none⟩ = some (.int .i64 d2) ∧ w'.cell? ⟨w.heap.size + 1, 1, none⟩ = some (.int .i64 f2))
    (go_keep)
    (first
    | (go_at_call 75; refine (compare_any _ _ _).mono ?_; rintro e w2 ⟨rfl, rfl⟩)
    | (go_at_call 74; refine (or_any (cm d2 d) (cm f f2) _ _ _ ((CB.newAt (by simp) _ _).cell 0) ((CB.newAt (by simp) _ _).cell 1)).mono ?_; rintro e w2 ⟨rfl, rfl⟩))
  go_wp2
  go_returns
  exact ⟨rfl, by first | (refine Below.drew ?_; go_grown) | go_grown⟩
end Go.Proofs.Ytjlniinahfgakaa
