/- Arrays by line: made, built, stored and loaded as a whole. -/
import Derived.Test.YtghphlnpginmhaaRy
import Derived.Laws.Tables
import Derived.Laws.Rows
import Derived.Deep.WholeRow
namespace Go.Proofs.Ytghphlnpginmhaa
open Go.ChangeShapes Go.WideShapes Go.ChangeAt Go.RowKit
set_option linter.unusedVariables false
set_option linter.unusedSimpArgs false

def z60 : Array Value := Array.replicate 60 (.int .i64 0)
theorem z60_size : z60.size = 60 := by simp [z60]
theorem z60_get {j : Nat} (h : j < 60) : z60[j]? = some (.int .i64 0) := by unfold z60; rw [Array.getElem?_replicate, if_pos h]
theorem z60_one : z60.all (·.oneCell') = true := by kernel_rfl
theorem info_by : (Try.prog.info? 128).map (fun i => (i.zero, i.size)) = some (some (.agg z60), 60) := by kernel_rfl
theorem size_by : (Try.prog.info? 128).map (·.size) = some 60 := by kernel_rfl
theorem built_by : Try.prog.built 128 [] = some z60 := by kernel_rfl
section
variable {ops : Array Oper} {rest : List Oper} {o : Oper} {a : Act} {w : World} {Q : Exit → Act → World → Prop}
theorem wpL_build (hg : o.guard = none) (ho : o.op = .build 128 #[]) (h : wpList Try.prog ops Q rest (a.put o.dst (.agg z60)) w) : wpList Try.prog ops Q (o :: rest) a w := by
  refine wpList_build hg 128 #[] ho (by rw [show (#[].map fun (x : Nat × Operand) => (x.1, a.eval x.2)).toList = [] by simp, built_by]; rfl) ?_
  rw [show (#[].map fun (x : Nat × Operand) => (x.1, a.eval x.2)).toList = [] by simp, built_by]
  exact h
theorem wpL_alloc (hg : o.guard = none) (ho : o.op = .alloc 128) (h : wpList Try.prog ops Q rest (a.put o.dst (.pointer (some ⟨w.heap.size, 0, none⟩))) (w.alloc (.cells z60 128 (0, 0)))) : wpList Try.prog ops Q (o :: rest) a w := by
  refine wpList_plain hg fun K hK => ?_
  have hz := (zero_of_info info_by).1
  have hn : Sem.run Try.prog (newVar 128 (.agg z60)) w = .ok ⟨w.heap.size, 0, none⟩ (w.alloc (.cells z60 128 (0, 0))) := rfl
  unfold Oper.wp execOp
  simp only [ho, Instr.alloc, Sem.run_bind, hz, Result.andThen_ok, hn, Sem.run_pure]
  exact hK _ _ h
theorem wpL_store (hg : o.guard = none) {x y : Operand} (ho : o.op = .store 128 x y) {g : Nat} {cells old : Array Value} (hx : a.eval x = .pointer (some ⟨g, 0, none⟩)) (hy : a.eval y = .agg cells) (hC : CB w g old 128) (hs : cells.size = 60) (hold : old.size = 60) (h1 : cells.all (·.oneCell') = true)
    (h : wpList Try.prog ops Q rest (a.put o.dst undef) (w.setRow g cells)) : wpList Try.prog ops Q (o :: rest) a w :=
  wpList_store_row hg _ x y ho g cells hx hy _ old hC (by rw [hs]; exact size_by) (by omega) h1 h
theorem wpL_load (hg : o.guard = none) {x : Operand} (ho : o.op = .load 128 x) {g : Nat} {cs : Array Value} (hx : a.eval x = .pointer (some ⟨g, 0, none⟩)) (hC : CB w g cs 128) (hs : cs.size = 60)
    (h : wpList Try.prog ops Q rest (a.put o.dst (.agg cs)) w) : wpList Try.prog ops Q (o :: rest) a w :=
  wpList_load_row hg _ x ho g hx _ cs (0, 0) _ hC Try.underlying128 rfl (by rw [hs]; exact size_by) h
end
theorem CB.setRow {w : World} {g : Nat} {old cs : Array Value} {t : TypeId} (H : CB w g old t) : CB (w.setRow g cs) g cs t := setRow_heap w g old cs t (0, 0) H
theorem CB.rowOther {w : World} {g k : Nat} {cs ds : Array Value} {t : TypeId} (H : CB w k ds t) (h : k ≠ g) : CB (w.setRow g cs) k ds t := by
  unfold CB at H ⊢; rw [setRow_other w g k cs h]; exact H
theorem bel_row {n : Nat} {w w' : World} (h : Below n w w') {g : Nat} (cs : Array Value) (hg : n ≤ g) : Below n w (w'.setRow g cs) :=
  ⟨h.os, h.tape, h.output, by simpa using h.size, fun k hk => by rw [setRow_other _ _ _ _ (by omega)]; exact h.block k hk⟩
theorem setRow_new {w : World} {g : Nat} {c c' : Array Value} {t : TypeId} (h : w.heap.size = g) : (w.alloc (.cells c t (0, 0))).setRow g c' = w.alloc (.cells c' t (0, 0)) := by subst h; exact World.setRow_alloc_new w c c' t
end Go.Proofs.Ytghphlnpginmhaa
