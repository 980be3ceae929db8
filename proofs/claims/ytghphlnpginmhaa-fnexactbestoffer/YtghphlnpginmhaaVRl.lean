/- RatesOk in the program and in the model: both answer 'ratesB'. -/
import Derived.Test.YtghphlnpginmhaaVRk
namespace Go.Proofs.Ytghphlnpginmhaa.Rt
open Go.ChangeShapes Go.WideShapes Go.ChangeAt Go.RowKit
set_option linter.unusedVariables false
set_option linter.unusedSimpArgs false
theorem bel_ad {A W : World} (h : Below A.heap.size A W.drew) (o : Obj) : Below A.heap.size A (W.alloc o).drew := (show Below A.heap.size A W from ⟨h.os, h.tape, h.output, h.size, h.block⟩).alloc h.size o |>.drew
set_option maxHeartbeats 1000000 in
theorem rCompare_any (d f n e d2 f2 n2 e2 : Int) (w : World) :
    Calls Try.prog 149 #[.agg #[.int .i64 d, .int .i64 f, .int .i64 n, .int .i64 e], .agg #[.int .i64 d2, .int .i64 f2, .int .i64 n2, .int .i64 e2]] w fun e' w' => e' = .returned (.int .i64 (cmpV d f d2 f2)) ∧ Below w.heap.size w w' := by
  go_enter Try.func149, Try.ntmps149
  go_wp2
  go_region_held3 (fun w' => w'.cell? ⟨w.heap.size, 0, none⟩ = some (.int .i64 d) ∧ w'.cell? ⟨w.heap.size, 1, none⟩ = some (.int .i64 f) ∧ w'.cell? ⟨w.heap.size + 1, 0, none⟩ = some (.int .i64 d2) ∧ w'.cell? ⟨w.heap.size + 1, 1, none⟩ = some (.int .i64 f2))
    (go_keep)
    (first
    | (go_at_call 158; refine (compare_any _ _ _).mono ?_; rintro e w2 ⟨rfl, rfl⟩)
    | (go_at_call 157; refine (or_any _ (cmpI d d2) (cmpI f f2) _ ((CB.newAt (by simp) _ _).cell 0) ((CB.newAt (by simp) _ _).cell 1)).mono ?_; rintro e w2 ⟨rfl, rfl⟩))
  go_wp2
  go_returns
  exact ⟨rfl, by first | (refine Below.drew ?_; go_grown) | go_grown⟩
end Go.Proofs.Ytghphlnpginmhaa.Rt
