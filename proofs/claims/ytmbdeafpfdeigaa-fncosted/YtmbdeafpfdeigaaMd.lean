/- Contracts of the functions that multiply, divide and round, in the program and in the model. -/
import Derived.Test.YtmbdeafpfdeigaaProg
import Derived.WalkKit
import Derived.ProofKit
import Derived.WalkLawsBesides
import Derived.Handy
import Derived.Outline
import Derived.Laws.EntriesVeiled
namespace Go.Proofs.Ytmbdeafpfdeigaa
open Go.ChangeShapes Go.WideShapes Go.ChangeAt Go.RowKit
set_option linter.unusedVariables false
set_option linter.unusedSimpArgs false

theorem bcell {W w1 : World} (hb : Below W.heap.size W w1) : (∀ b o, b < W.heap.size → w1.cell? ⟨b, o, none⟩ = W.cell? ⟨b, o, none⟩) ∧ (∀ b o, b < W.heap.size → w1.frozen? ⟨b, o, none⟩ = W.frozen? ⟨b, o, none⟩) :=
  ⟨fun b o h => hb.cell (p := ⟨b, o, none⟩) h, fun b o h => hb.frozen (p := ⟨b, o, none⟩) h⟩

def fv (k : Nat) : Value := .func (.func k) #[] #[]
def rrow (m : Int) (k : Nat) : Value := .agg #[.int .i64 m, .func (.func k) #[] #[]]
def rtab : Value := .agg #[.int .i64 1, .func (.func 168) #[] #[], .int .i64 2, .func (.func 169) #[] #[], .int .i64 3, .func (.func 170) #[] #[], .int .i64 4, .func (.func 171) #[] #[], .int .i64 5, .func (.func 172) #[] #[], .int .i64 6, .func (.func 173) #[] #[]]

theorem idx0 (w : World) : (Instr.index 160 rtab (.int .i64 0)).run Try.prog w = .ok (.agg #[.int .i64 1, .func (.func 168) #[] #[]]) w := by kernel_rfl
theorem idx1 (w : World) : (Instr.index 160 rtab (.int .i64 1)).run Try.prog w = .ok (.agg #[.int .i64 2, .func (.func 169) #[] #[]]) w := by kernel_rfl
theorem idx2 (w : World) : (Instr.index 160 rtab (.int .i64 2)).run Try.prog w = .ok (.agg #[.int .i64 3, .func (.func 170) #[] #[]]) w := by kernel_rfl
theorem idx3 (w : World) : (Instr.index 160 rtab (.int .i64 3)).run Try.prog w = .ok (.agg #[.int .i64 4, .func (.func 171) #[] #[]]) w := by kernel_rfl
theorem idx4 (w : World) : (Instr.index 160 rtab (.int .i64 4)).run Try.prog w = .ok (.agg #[.int .i64 5, .func (.func 172) #[] #[]]) w := by kernel_rfl
theorem idx5 (w : World) : (Instr.index 160 rtab (.int .i64 5)).run Try.prog w = .ok (.agg #[.int .i64 6, .func (.func 173) #[] #[]]) w := by kernel_rfl

theorem roundings_any (w : World) :
    Calls Try.prog 164 #[] w fun e w' => e = .returned rtab ∧ Below w.heap.size w w' := by
  go_enter Try.func164, Try.ntmps164
  go_wp2
  go_returns
  exact ⟨rfl, by go_grown⟩

theorem res_cells {w w1 : World} (hb : Below (w.alloc (.cells #[.int .i64 0, .nilFunc] 149)).heap.size (w.alloc (.cells #[.int .i64 0, .nilFunc] 149)) w1) :
    w1.cell? ⟨w.heap.size, 0, none⟩ = some (.int .i64 0) ∧ w1.cell? ⟨w.heap.size, 1, none⟩ = some .nilFunc ∧ w1.frozen? ⟨w.heap.size, 0, none⟩ = false ∧ w1.frozen? ⟨w.heap.size, 1, none⟩ = false ∧ w.heap.size < w1.heap.size ∧ w.heap.size < w1.heap.size + 1 ∧ w.heap.size < w1.heap.size + 1 + 1 ∧ w.heap.size < w1.heap.size + 1 + 1 + 1 ∧ w.heap.size < w1.heap.size + 1 + 1 + 1 + 1 ∧ w.heap.size < w1.heap.size + 1 + 1 + 1 + 1 + 1 ∧ w.heap.size < w1.heap.size + 1 + 1 + 1 + 1 + 1 + 1 ∧ Below w.heap.size w w1 := by
  obtain ⟨hc, hf⟩ := bcell hb
  have hz := hb.size
  simp at hz
  refine ⟨?_, ?_, ?_, ?_, by omega, by omega, by omega, by omega, by omega, by omega, by omega, ((Below.refl _ _).alloc (Nat.le_refl _) _).trans (hb.mono (by simp))⟩
  · rw [hc _ _ (by simp)]; simp [go_sem]
  · rw [hc _ _ (by simp)]; simp [go_sem]
  · rw [hf _ _ (by simp)]; simp [go_sem]
  · rw [hf _ _ (by simp)]; simp [go_sem]

set_option maxHeartbeats 1000000 in
theorem roundingOf_1 (w : World) :
    Calls Try.prog 156 #[.int .i64 1] w fun e w' => e = .returned (.tuple #[.agg #[.int .i64 1, .func (.func 168) #[] #[]], .bool true]) ∧ Below w.heap.size w w' := by
  have i0 := idx0
  go_enter Try.func156, Try.ntmps156
  go_wp2_with (go_at_call 164; refine (roundings_any _).mono ?_; rintro e w1 ⟨rfl, hb⟩; obtain ⟨h0, h1, f0, f1, hz, z1, z2, z3, z4, z5, z6, hbw⟩ := res_cells hb; clear hb)
  refine wp_loop_rounds 1 ?_
  rw [rounds_succ]
  go_wp2_with fail
  exact bodyPost_ret (v := .tuple #[.agg #[.int .i64 1, .func (.func 168) #[] #[]], .bool true]) (by simp [results, Try.results156, go_sem, h0, h1, hz, z1, z2, z3, z4, z5, z6]) rfl ⟨rfl, by go_grown⟩

set_option maxHeartbeats 1000000 in
theorem roundingOf_2 (w : World) :
    Calls Try.prog 156 #[.int .i64 2] w fun e w' => e = .returned (.tuple #[.agg #[.int .i64 2, .func (.func 169) #[] #[]], .bool true]) ∧ Below w.heap.size w w' := by
  have i0 := idx0
  have i1 := idx1
  go_enter Try.func156, Try.ntmps156
  go_wp2_with (go_at_call 164; refine (roundings_any _).mono ?_; rintro e w1 ⟨rfl, hb⟩; obtain ⟨h0, h1, f0, f1, hz, z1, z2, z3, z4, z5, z6, hbw⟩ := res_cells hb; clear hb)
  refine wp_loop_rounds 2 ?_
  rw [rounds_succ]
  go_wp2_with fail
  rw [rounds_succ]
  go_wp2_with fail
  exact bodyPost_ret (v := .tuple #[.agg #[.int .i64 2, .func (.func 169) #[] #[]], .bool true]) (by simp [results, Try.results156, go_sem, h0, h1, hz, z1, z2, z3, z4, z5, z6]) rfl ⟨rfl, by go_grown⟩

set_option maxHeartbeats 1000000 in
theorem roundingOf_3 (w : World) :
    Calls Try.prog 156 #[.int .i64 3] w fun e w' => e = .returned (.tuple #[.agg #[.int .i64 3, .func (.func 170) #[] #[]], .bool true]) ∧ Below w.heap.size w w' := by
  have i0 := idx0
  have i1 := idx1
  have i2 := idx2
  go_enter Try.func156, Try.ntmps156
  go_wp2_with (go_at_call 164; refine (roundings_any _).mono ?_; rintro e w1 ⟨rfl, hb⟩; obtain ⟨h0, h1, f0, f1, hz, z1, z2, z3, z4, z5, z6, hbw⟩ := res_cells hb; clear hb)
  refine wp_loop_rounds 3 ?_
  rw [rounds_succ]
  go_wp2_with fail
  rw [rounds_succ]
  go_wp2_with fail
  rw [rounds_succ]
  go_wp2_with fail
  exact bodyPost_ret (v := .tuple #[.agg #[.int .i64 3, .func (.func 170) #[] #[]], .bool true]) (by simp [results, Try.results156, go_sem, h0, h1, hz, z1, z2, z3, z4, z5, z6]) rfl ⟨rfl, by go_grown⟩

set_option maxHeartbeats 1000000 in
theorem roundingOf_4 (w : World) :
    Calls Try.prog 156 #[.int .i64 4] w fun e w' => e = .returned (.tuple #[.agg #[.int .i64 4, .func (.func 171) #[] #[]], .bool true]) ∧ Below w.heap.size w w' := by
  have i0 := idx0
  have i1 := idx1
  have i2 := idx2
  have i3 := idx3
  go_enter Try.func156, Try.ntmps156
  go_wp2_with (go_at_call 164; refine (roundings_any _).mono ?_; rintro e w1 ⟨rfl, hb⟩; obtain ⟨h0, h1, f0, f1, hz, z1, z2, z3, z4, z5, z6, hbw⟩ := res_cells hb; clear hb)
  refine wp_loop_rounds 4 ?_
  rw [rounds_succ]
  go_wp2_with fail
  rw [rounds_succ]
  go_wp2_with fail
  rw [rounds_succ]
  go_wp2_with fail
  rw [rounds_succ]
  go_wp2_with fail
  exact bodyPost_ret (v := .tuple #[.agg #[.int .i64 4, .func (.func 171) #[] #[]], .bool true]) (by simp [results, Try.results156, go_sem, h0, h1, hz, z1, z2, z3, z4, z5, z6]) rfl ⟨rfl, by go_grown⟩

set_option maxHeartbeats 1000000 in
theorem roundingOf_5 (w : World) :
    Calls Try.prog 156 #[.int .i64 5] w fun e w' => e = .returned (.tuple #[.agg #[.int .i64 5, .func (.func 172) #[] #[]], .bool true]) ∧ Below w.heap.size w w' := by
  have i0 := idx0
  have i1 := idx1
  have i2 := idx2
  have i3 := idx3
  have i4 := idx4
  go_enter Try.func156, Try.ntmps156
  go_wp2_with (go_at_call 164; refine (roundings_any _).mono ?_; rintro e w1 ⟨rfl, hb⟩; obtain ⟨h0, h1, f0, f1, hz, z1, z2, z3, z4, z5, z6, hbw⟩ := res_cells hb; clear hb)
  refine wp_loop_rounds 5 ?_
  rw [rounds_succ]
  go_wp2_with fail
  rw [rounds_succ]
  go_wp2_with fail
  rw [rounds_succ]
  go_wp2_with fail
  rw [rounds_succ]
  go_wp2_with fail
  rw [rounds_succ]
  go_wp2_with fail
  exact bodyPost_ret (v := .tuple #[.agg #[.int .i64 5, .func (.func 172) #[] #[]], .bool true]) (by simp [results, Try.results156, go_sem, h0, h1, hz, z1, z2, z3, z4, z5, z6]) rfl ⟨rfl, by go_grown⟩

set_option maxHeartbeats 1000000 in
theorem roundingOf_6 (w : World) :
    Calls Try.prog 156 #[.int .i64 6] w fun e w' => e = .returned (.tuple #[.agg #[.int .i64 6, .func (.func 173) #[] #[]], .bool true]) ∧ Below w.heap.size w w' := by
  have i0 := idx0
  have i1 := idx1
  have i2 := idx2
  have i3 := idx3
  have i4 := idx4
  have i5 := idx5
  go_enter Try.func156, Try.ntmps156
  go_wp2_with (go_at_call 164; refine (roundings_any _).mono ?_; rintro e w1 ⟨rfl, hb⟩; obtain ⟨h0, h1, f0, f1, hz, z1, z2, z3, z4, z5, z6, hbw⟩ := res_cells hb; clear hb)
  refine wp_loop_rounds 6 ?_
  rw [rounds_succ]
  go_wp2_with fail
  rw [rounds_succ]
  go_wp2_with fail
  rw [rounds_succ]
  go_wp2_with fail
  rw [rounds_succ]
  go_wp2_with fail
  rw [rounds_succ]
  go_wp2_with fail
  rw [rounds_succ]
  go_wp2_with fail
  exact bodyPost_ret (v := .tuple #[.agg #[.int .i64 6, .func (.func 173) #[] #[]], .bool true]) (by simp [results, Try.results156, go_sem, h0, h1, hz, z1, z2, z3, z4, z5, z6]) rfl ⟨rfl, by go_grown⟩

set_option maxHeartbeats 2000000 in
theorem roundingOf_none (m : Int) (w : World) (hm : m < 1 ∨ 6 < m) :
    Calls Try.prog 156 #[.int .i64 m] w fun e w' => e = .returned (.tuple #[.agg #[.int .i64 0, .nilFunc], .bool false]) ∧ Below w.heap.size w w' := by
  have i0 := idx0
  have n1 : ((1 : Int) == m) = false := by simp; omega
  have i1 := idx1
  have n2 : ((2 : Int) == m) = false := by simp; omega
  have i2 := idx2
  have n3 : ((3 : Int) == m) = false := by simp; omega
  have i3 := idx3
  have n4 : ((4 : Int) == m) = false := by simp; omega
  have i4 := idx4
  have n5 : ((5 : Int) == m) = false := by simp; omega
  have i5 := idx5
  have n6 : ((6 : Int) == m) = false := by simp; omega
  clear hm
  go_enter Try.func156, Try.ntmps156
  go_wp2_with (go_at_call 164; refine (roundings_any _).mono ?_; rintro e w1 ⟨rfl, hb⟩; obtain ⟨h0, h1, f0, f1, hz, z1, z2, z3, z4, z5, z6, hbw⟩ := res_cells hb; clear hb)
  refine wp_loop_rounds 7 ?_
  rw [rounds_succ]
  go_wp2_with fail
  rw [rounds_succ]
  go_wp2_with fail
  rw [rounds_succ]
  go_wp2_with fail
  rw [rounds_succ]
  go_wp2_with fail
  rw [rounds_succ]
  go_wp2_with fail
  rw [rounds_succ]
  go_wp2_with fail
  rw [rounds_succ]
  go_wp2_with fail
  exact bodyPost_ret (v := .tuple #[.agg #[.int .i64 0, .nilFunc], .bool false]) (by simp [results, Try.results156, go_sem, h0, h1, hz, z1, z2, z3, z4, z5, z6]) rfl ⟨rfl, by go_grown⟩

end Go.Proofs.Ytmbdeafpfdeigaa
