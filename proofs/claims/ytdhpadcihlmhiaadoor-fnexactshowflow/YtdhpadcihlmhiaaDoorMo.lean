/- Maps by whole numbers: what a lookup tells. The papers of a register counted in such a map. Nothing of the program but the numbers of its types. -/
import Derived.Test.YtdhpadcihlmhiaaDoorMp
import Derived.Test.YtdhpadcihlmhiaaDoorSd
namespace Go.Proofs.YtdhpadcihlmhiaaDoor
open Go.ChangeShapes Go.WideShapes Go.ChangeAt Go.RowKit
set_option linter.unusedVariables false
set_option linter.unusedSimpArgs false

theorem wpList_lookup_mp {P : Program} (w : World) {ops : Array Oper} {rest : List Oper} {o : Oper} {a : Act} {Q : Exit → Act → World → Prop}
    (hg : o.guard = none) (m x : Operand) (t : TypeId) (hop : o.op = Op.lookup t m x false)
    (k e : TypeId) (KK : Go.Maps.Keyed P k) (hk : P.underlying k = some (.int .i64)) (ht : P.underlying t = some (.map k e)) (z : Value) (hz : (zeroValue e).run P w = .ok z w) (b n : Nat) (F : Int → Value)
    (hm : a.eval m = .map (some b)) (hown : MP P k z w b n F) (key : Int) (hx : a.eval x = .int .i64 key) (hw : (Lit.int .i64 key).wf = true) (v : Value) (hF : F key = v)
    (hK : wpList P ops Q rest (a.put o.dst v) w) : wpList P ops Q (o :: rest) a w := by
  refine wpList_plain hg fun K' hK' => ?_
  have hrun := hown.lookup KK hk ht hz key hw
  rw [hF] at hrun
  unfold Oper.wp
  simp [execOp, hop, hm, hx, hrun, Result.andThen]
  exact hK' _ _ hK
theorem oper_lookup {P : Program} {w : World} {o : Oper} {a : Act} {K : Act → World → Prop} {Q : Exit → Act → World → Prop} (m x : Operand) (t : TypeId) (hop : o.op = Op.lookup t m x false)
    (k e : TypeId) (KK : Go.Maps.Keyed P k) (hk : P.underlying k = some (.int .i64)) (ht : P.underlying t = some (.map k e)) (z : Value) (hz : (zeroValue e).run P w = .ok z w) (b n : Nat) (F : Int → Value)
    (hm : a.eval m = .map (some b)) (hown : MP P k z w b n F) (key : Int) (hx : a.eval x = .int .i64 key) (hw : (Lit.int .i64 key).wf = true) (hK : K (a.put o.dst (F key)) w) : Oper.wp P o a w K Q := by
  have hrun := hown.lookup KK hk ht hz key hw
  unfold Oper.wp
  simp [execOp, hop, hm, hx, hrun, Result.andThen]
  exact hK
theorem key3 : Go.Maps.Keyed Tryd.prog 3 := Go.Maps.int_keyed Tryd.underlying3
def endV (n : Nat) (d : Int) : Value := .agg #[.int .i64 (n : Int), .int .i64 d]
def z2 : Value := .agg #[.int .i64 0, .int .i64 0]
theorem zeroEnd (w : World) : (zeroValue 137).run Tryd.prog w = .ok z2 w := by kernel_rfl
/-- A register behind k of its papers: its block, and its map. -/
structure NowAt (w : World) (b mb : Nat) (sa : Option Addr) (ns cap k : Nat) (p : Nat → P4) : Prop where
  blk : CB w b #[.slice sa ns cap, .int .i64 (k : Int), .map (some mb)] 134
  map : MP Tryd.prog 3 z2 w mb k (fun s => endV (cntP p s k) (lstP p s k))
  ne : mb ≠ b
section
variable {w w' : World} {b mb ns cap k : Nat} {sa : Option Addr} {p : Nat → P4}
theorem NowAt.below (h : NowAt w b mb sa ns cap k p) (g : Below w.heap.size w w') : NowAt w' b mb sa ns cap k p :=
  ⟨h.blk.below g h.blk.lt, h.map.block (g.block mb h.map.lt), h.ne⟩
theorem NowAt.other (h : NowAt w b mb sa ns cap k p) {c o : Nat} (u : Value) (h1 : c ≠ b) (h2 : c ≠ mb) : NowAt (w.setCell ⟨c, o, none⟩ u) b mb sa ns cap k p :=
  ⟨h.blk.other u (fun e => h1 e.symm), h.map.block (Below.heap_setCell _ _ _ _ (fun e => h2 e.symm)), h.ne⟩
end
/-- Behind one paper more. -/
theorem ends_next {p : Nat → P4} {k : Nat} : (fun y => if y = (p k).ser then endV (cntP p (p k).ser k + 1) (p k).day else endV (cntP p y k) (lstP p y k)) = fun s => endV (cntP p s (k + 1)) (lstP p s (k + 1)) := by
  funext y
  by_cases h : y = (p k).ser
  · subst h; rw [if_pos rfl, cntP_hit rfl, lstP_hit rfl]
  · rw [if_neg h, cntP_miss (fun e => h e.symm), lstP_miss (fun e => h e.symm)]
end Go.Proofs.YtdhpadcihlmhiaaDoor
