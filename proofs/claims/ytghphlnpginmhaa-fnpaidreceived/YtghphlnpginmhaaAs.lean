/- The two arrays of a bill: made, built, stored and loaded as a whole. -/
import Derived.Test.YtghphlnpginmhaaAr
namespace Go.Proofs.Ytghphlnpginmhaa
open Go.ChangeShapes Go.WideShapes Go.ChangeAt Go.RowKit
set_option linter.unusedVariables false
set_option linter.unusedSimpArgs false

def z120 : Array Value := Array.replicate 120 (.int .i64 0)
theorem z120_size : z120.size = 120 := by simp [z120]
theorem z120_get {j : Nat} (h : j < 120) : z120[j]? = some (.int .i64 0) := by unfold z120; rw [Array.getElem?_replicate, if_pos h]
theorem z120_one : z120.all (·.oneCell') = true := by kernel_rfl
theorem info_bi : (Try.prog.info? 130).map (fun i => (i.zero, i.size)) = some (some (.agg z120), 120) := by kernel_rfl
theorem size_bi : (Try.prog.info? 130).map (·.size) = some 120 := by kernel_rfl
theorem built_bi : Try.prog.built 130 [] = some z120 := by kernel_rfl
section
variable {ops : Array Oper} {rest : List Oper} {o : Oper} {a : Act} {w : World} {Q : Exit → Act → World → Prop}
theorem wpB_build (hg : o.guard = none) (ho : o.op = .build 130 #[]) (h : wpList Try.prog ops Q rest (a.put o.dst (.agg z120)) w) : wpList Try.prog ops Q (o :: rest) a w := by
  refine wpList_build hg 130 #[] ho (by rw [show (#[].map fun (x : Nat × Operand) => (x.1, a.eval x.2)).toList = [] by simp, built_bi]; rfl) ?_
  rw [show (#[].map fun (x : Nat × Operand) => (x.1, a.eval x.2)).toList = [] by simp, built_bi]
  exact h
theorem wpB_alloc (hg : o.guard = none) (ho : o.op = .alloc 130) (h : wpList Try.prog ops Q rest (a.put o.dst (.pointer (some ⟨w.heap.size, 0, none⟩))) (w.alloc (.cells z120 130 (0, 0)))) : wpList Try.prog ops Q (o :: rest) a w := by
  refine wpList_plain hg fun K hK => ?_
  have hz := (zero_of_info info_bi).1
  have hn : Sem.run Try.prog (newVar 130 (.agg z120)) w = .ok ⟨w.heap.size, 0, none⟩ (w.alloc (.cells z120 130 (0, 0))) := rfl
  unfold Oper.wp execOp
  simp only [ho, Instr.alloc, Sem.run_bind, hz, Result.andThen_ok, hn, Sem.run_pure]
  exact hK _ _ h
theorem wpB_store (hg : o.guard = none) {x y : Operand} (ho : o.op = .store 130 x y) {g : Nat} {cells old : Array Value} (hx : a.eval x = .pointer (some ⟨g, 0, none⟩)) (hy : a.eval y = .agg cells) (hC : CB w g old 130) (hs : cells.size = 120) (hold : old.size = 120) (h1 : cells.all (·.oneCell') = true)
    (h : wpList Try.prog ops Q rest (a.put o.dst undef) (w.setRow g cells)) : wpList Try.prog ops Q (o :: rest) a w :=
  wpList_store_row hg _ x y ho g cells hx hy _ old hC (by rw [hs]; exact size_bi) (by omega) h1 h
theorem wpB_load (hg : o.guard = none) {x : Operand} (ho : o.op = .load 130 x) {g : Nat} {cs : Array Value} (hx : a.eval x = .pointer (some ⟨g, 0, none⟩)) (hC : CB w g cs 130) (hs : cs.size = 120)
    (h : wpList Try.prog ops Q rest (a.put o.dst (.agg cs)) w) : wpList Try.prog ops Q (o :: rest) a w :=
  wpList_load_row hg _ x ho g hx _ cs (0, 0) _ hC Try.underlying130 rfl (by rw [hs]; exact size_bi) h
end
end Go.Proofs.Ytghphlnpginmhaa
