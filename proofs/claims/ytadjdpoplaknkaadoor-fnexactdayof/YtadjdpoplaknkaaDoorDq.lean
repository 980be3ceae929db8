/- Contracts of the laws' own small functions over dates. -/
import Derived.Test.YtadjdpoplaknkaaDoorDz
namespace Go.Proofs.YtadjdpoplaknkaaDoor
open Go.ChangeShapes Go.WideShapes Go.ChangeAt Go.RowKit
set_option linter.unusedVariables false
set_option linter.unusedSimpArgs false

theorem eqDate_same (a b c : Int) (w : World) : Calls Tryd.prog 27 #[.agg #[.int .i64 a, .int .i64 b, .int .i64 c], .agg #[.int .i64 a, .int .i64 b, .int .i64 c]] w fun e w' => e = .returned (.bool true) ∧ Below w.heap.size w w' := by
  go_enter Tryd.func27, Tryd.ntmps27
  go_wp2
  go_returns
  exact ⟨rfl, by go_grown⟩

theorem toDate_any (a b c : Int) (w : World) : Calls Tryd.prog 25 #[.agg #[.int .i64 a, .int .i64 b, .int .i64 c]] w fun e w' => e = .returned (.agg #[.int .i64 a, .int .i64 b, .int .i64 c]) ∧ Below w.heap.size w w' := by
  go_enter Tryd.func25, Tryd.ntmps25
  go_wp2
  go_returns
  exact ⟨rfl, by go_grown⟩

/-- Block b holds these three numbers, as a date of the laws. -/
def DA (w : World) (b : Nat) (x y z : Int) : Prop := w.heap[b]? = some (.cells #[.int .i64 x, .int .i64 y, .int .i64 z] 40 (0, 0))
section
variable {w w' : World} {b : Nat} {x y z : Int}
theorem DA.c0 (H : DA w b x y z) : w.cell? ⟨b, 0, none⟩ = some (.int .i64 x) := by unfold DA at H; simp [World.cell?, H]
theorem DA.c1 (H : DA w b x y z) : w.cell? ⟨b, 1, none⟩ = some (.int .i64 y) := by unfold DA at H; simp [World.cell?, H]
theorem DA.c2 (H : DA w b x y z) : w.cell? ⟨b, 2, none⟩ = some (.int .i64 z) := by unfold DA at H; simp [World.cell?, H]
theorem DA.below {B : Nat} (H : DA w b x y z) (t : Below B w w') (h : b < B) : DA w' b x y z := by
  unfold DA at H ⊢
  rw [t.block b h]; exact H
theorem DA.new (x y z : Int) : DA (w.alloc (.cells #[.int .i64 x, .int .i64 y, .int .i64 z] 40 (0, 0))) w.heap.size x y z := by
  unfold DA
  show (w.heap.push _)[w.heap.size]? = _
  simp
end

end Go.Proofs.YtadjdpoplaknkaaDoor
