/- Maps by whole numbers in memory: what each key holds, as a function of the key. Nothing of the program. -/
import Derived.Test.YtghphlnpginmhaaIr
import Derived.Maps.OwnOps
import Derived.Maps.Views
import Derived.Maps.AppendAt
namespace Go.Proofs.Ytghphlnpginmhaa.Rt
open Go.RowKit
open Go.Maps (Keyed)
set_option linter.unusedVariables false
def hv (v : Value) : Option (DataW Value × List MemPlace) := some (.held v, [])
/-- Block b is a map of at most n entries; at each key x it has F x (z where there is no entry). -/
def MP (P : Program) (k : TypeId) (z : Value) (w : World) (b n : Nat) (F : Int → Value) : Prop :=
  ∃ D : DataW Value, w.ownsMap P k hv b n D ∧ Go.Maps.IsMap D ∧ ∀ x : Int, D.atKey (.int .i64 x) (.held z) = .held (F x)
section
variable {P : Program} {k : TypeId} {z : Value} {w w' : World} {b n : Nat} {F : Int → Value}
theorem MP.made (P : Program) (k : TypeId) (z : Value) (w : World) : MP P k z (w.alloc (.map #[] 0)) w.heap.size 0 (fun _ => z) :=
  ⟨.map [], World.ownsMap_made w P k hv, Go.Maps.isMap_empty, fun x => by simp [DataW.atKey]⟩
theorem MP.lt (h : MP P k z w b n F) : b < w.heap.size := by obtain ⟨D, h, _⟩ := h; exact h.lt
theorem MP.kept {row : Option Nat} (h : MP P k z w b n F) (hg : w.grownBy w' row) (hne : some b ≠ row) : MP P k z w' b n F := by
  obtain ⟨D, h1, h2, h3⟩ := h
  exact ⟨D, h1.kept hg hne, h2, h3⟩
theorem MP.block (h : MP P k z w b n F) (hb : w'.heap[b]? = w.heap[b]?) : MP P k z w' b n F := by
  obtain ⟨D, ⟨es, clock, e1, e2⟩, h2, h3⟩ := h
  exact ⟨D, ⟨es, clock, hb.trans e1, e2⟩, h2, h3⟩
theorem MP.mono (h : MP P k z w b n F) {m : Nat} (hm : n ≤ m) : MP P k z w b m F := by
  obtain ⟨D, h1, h2, h3⟩ := h
  exact ⟨D, h1.mono hm, h2, h3⟩
theorem MP.lookup {t e : TypeId} (h : MP P k z w b n F) (K : Keyed P k) (hk : P.underlying k = some (.int .i64)) (ht : P.underlying t = some (.map k e)) (hz : (zeroValue e).run P w = .ok z w) (x : Int) (hx : (Lit.int .i64 x).wf = true) :
    (Instr.lookup t (.map (some b)) (.int .i64 x) false).run P w = .ok (F x) w := by
  obtain ⟨D, h1, h2, h3⟩ := h
  obtain ⟨v, ps, hrun, hv'⟩ := h1.lookup K ht hz (zd := .held z) (zp := []) rfl (Go.Maps.keyOf_int_mk hk hx)
  rw [h3] at hv'
  simp only [hv, Option.some.injEq, Prod.mk.injEq, DataW.held.injEq] at hv'
  rw [hrun, hv'.1]
theorem MP.update {t e : TypeId} (h : MP P k z w b n F) (K : Keyed P k) (hk : P.underlying k = some (.int .i64)) (ht : P.underlying t = some (.map k e)) (hn : n < maxLen) (x : Int) (hx : (Lit.int .i64 x).wf = true) (v : Value) :
    ∃ w', (Instr.mapUpdate t (.map (some b)) (.int .i64 x) v).run P w = .ok () w' ∧ MP P k z w' b (n + 1) (fun y => if y = x then v else F y) ∧ w.grownBy w' (some b) := by
  obtain ⟨D, h1, h2, h3⟩ := h
  have hkey := Go.Maps.keyOf_int_mk hk hx
  obtain ⟨w', hrun, ho, hg⟩ := h1.update K ht hn hkey (val := v) (d := .held v) (ps := []) rfl
  refine ⟨w', hrun, ⟨_, ho, h2.put _ _, fun y => ?_⟩, hg⟩
  show _ = DataW.held (if y = x then v else F y)
  by_cases hy : y = x
  · subst hy
    rw [if_pos rfl, Go.Maps.atKey_put_same h2 (by simp [WideAt.IsKeyLit])]
  · rw [if_neg hy, Go.Maps.atKey_put_other (by simpa using hy)]
    exact h3 y
end
theorem wpList_mapUpdate_mp {P : Program} (w : World) {ops : Array Oper} {rest : List Oper} {o : Oper} {a : Act} {Q : Exit → Act → World → Prop}
    (hg : o.guard = none) (m x v : Operand) (t : TypeId) (hop : o.op = Op.mapUpdate t m x v)
    (k e : TypeId) (K : Keyed P k) (hk : P.underlying k = some (.int .i64)) (ht : P.underlying t = some (.map k e)) (z : Value) (b n : Nat) (F : Int → Value)
    (hm : a.eval m = .map (some b)) (hown : MP P k z w b n F) (hn : n < maxLen) (key : Int) (val : Value) (hx : a.eval x = .int .i64 key) (hv : a.eval v = val) (hw : (Lit.int .i64 key).wf = true)
    (hK : ∀ w', MP P k z w' b (n + 1) (fun y => if y = key then val else F y) → w.grownBy w' (some b) → wpList P ops Q rest (a.put o.dst undef) w') :
    wpList P ops Q (o :: rest) a w := by
  refine wpList_plain hg fun K' hK' => ?_
  obtain ⟨w', hrun, r1, r2⟩ := hown.update K hk ht hn key hw val
  unfold Oper.wp
  simp [execOp, hop, hm, hx, hv, hrun, Result.andThen]
  exact hK' _ _ (hK w' r1 r2)
end Go.Proofs.Ytghphlnpginmhaa.Rt
