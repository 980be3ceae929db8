/- Maps by texts in memory: what each key holds, as a function of the key. Nothing of the program. -/
import Derived.Test.YtdhpadcihlmhiaaIr
import Derived.Maps.OwnOps
import Derived.Maps.OwnSet
import Derived.Maps.Views
import Derived.Maps.AppendAt
import Derived.StringKeys
namespace Go.Proofs.Ytdhpadcihlmhiaa
open Go.RowKit
open Go.Maps (Keyed)
set_option linter.unusedVariables false

def hv (v : Value) : Option (DataW Value × List MemPlace) := some (.held v, [])

/-- Block b is a map of at most n entries; at each key x it has F x. -/
def MT (P : Program) (k : TypeId) (z : Value) (w : World) (b n : Nat) (F : ByteArray → Option Value) : Prop :=
  ∃ D : DataW Value, w.ownsMap P k hv b n D ∧ Go.Maps.IsMap D ∧ ∀ x : ByteArray, D.atKey (.string x.data.toList) (.held z) = .held ((F x).getD z) ∧ Go.Maps.has D (.string x.data.toList) = (F x).isSome

section
variable {P : Program} {k : TypeId} {z : Value} {w w' : World} {b n : Nat} {F : ByteArray → Option Value}
theorem MT.made (P : Program) (k : TypeId) (z : Value) (w : World) : MT P k z (w.alloc (.map #[] 0)) w.heap.size 0 (fun _ => none) :=
  ⟨.map [], World.ownsMap_made w P k hv, Go.Maps.isMap_empty, fun x => ⟨by simp [DataW.atKey], rfl⟩⟩
theorem MT.lt (h : MT P k z w b n F) : b < w.heap.size := by obtain ⟨D, h, _⟩ := h; exact h.lt
theorem MT.kept {row : Option Nat} (h : MT P k z w b n F) (hg : w.grownBy w' row) (hne : some b ≠ row) : MT P k z w' b n F := by
  obtain ⟨D, h1, h2, h3⟩ := h
  exact ⟨D, h1.kept hg hne, h2, h3⟩
theorem MT.block (h : MT P k z w b n F) (hb : w'.heap[b]? = w.heap[b]?) : MT P k z w' b n F := by
  obtain ⟨D, ⟨es, clock, e1, e2⟩, h2, h3⟩ := h
  exact ⟨D, ⟨es, clock, hb.trans e1, e2⟩, h2, h3⟩
theorem MT.isMap (h : MT P k z w b n F) : ∃ es clock, w.heap[b]? = some (.map es clock) := by
  obtain ⟨D, ⟨es, clock, e1, e2⟩, h2, h3⟩ := h
  exact ⟨es, clock, e1⟩
theorem MT.mono (h : MT P k z w b n F) {m : Nat} (hm : n ≤ m) : MT P k z w b m F := by
  obtain ⟨D, h1, h2, h3⟩ := h
  exact ⟨D, h1.mono hm, h2, h3⟩
theorem MT.look {t e : TypeId} (h : MT P k z w b n F) (K : Keyed P k) (hk : P.underlying k = some .string) (ht : P.underlying t = some (.map k e)) (hz : (zeroValue e).run P w = .ok z w) (x : ByteArray) (hx : x.size ≤ maxLen) :
    (Instr.lookup t (.map (some b)) (.string x) true).run P w = .ok (.tuple #[(F x).getD z, .bool (F x).isSome]) w := by
  obtain ⟨D, h1, h2, h3⟩ := h
  obtain ⟨v, ps, hrun, hv'⟩ := h1.look_ok K ht hz (zd := .held z) (zp := []) rfl (Go.WideMaps.keyOf_string_mk hk hx)
  rw [(h3 x).1] at hv'
  rw [(h3 x).2] at hrun
  simp only [hv, Option.some.injEq, Prod.mk.injEq, DataW.held.injEq] at hv'
  rw [hrun, hv'.1]
theorem MT.update {t e : TypeId} (h : MT P k z w b n F) (K : Keyed P k) (hk : P.underlying k = some .string) (ht : P.underlying t = some (.map k e)) (hn : n < maxLen) (x : ByteArray) (hx : x.size ≤ maxLen) (v : Value) :
    ∃ w', (Instr.mapUpdate t (.map (some b)) (.string x) v).run P w = .ok () w' ∧ MT P k z w' b (n + 1) (fun y => if y = x then some v else F y) ∧ w.grownBy w' (some b) := by
  obtain ⟨D, h1, h2, h3⟩ := h
  have hkey := Go.WideMaps.keyOf_string_mk hk hx
  obtain ⟨w', hrun, ho, hg⟩ := h1.update K ht hn hkey (val := v) (d := .held v) (ps := []) rfl
  refine ⟨w', hrun, ⟨_, ho, h2.put _ _, fun y => ?_⟩, hg⟩
  show _ = DataW.held ((if y = x then some v else F y).getD z) ∧ _ = (if y = x then some v else F y).isSome
  have hne : ¬ y = x → Lit.string y.data.toList ≠ Lit.string x.data.toList := fun q r => q (by
    obtain ⟨⟨a⟩⟩ := y
    obtain ⟨⟨b⟩⟩ := x
    simpa using r)
  by_cases hy : y = x
  · subst hy
    rw [if_pos rfl, Go.Maps.atKey_put_same h2 (by simp [WideAt.IsKeyLit]), Go.Maps.has_put_same h2 (by simp [WideAt.IsKeyLit])]
    exact ⟨rfl, rfl⟩
  · rw [if_neg hy, Go.Maps.atKey_put_other (hne hy), Go.Maps.has_put_other (hne hy)]
    exact h3 y
end

theorem wpList_mapUpdate_mt {P : Program} (w : World) {ops : Array Oper} {rest : List Oper} {o : Oper} {a : Act} {Q : Exit → Act → World → Prop}
    (hg : o.guard = none) (m x v : Operand) (t : TypeId) (hop : o.op = Op.mapUpdate t m x v)
    (k e : TypeId) (K : Keyed P k) (hk : P.underlying k = some .string) (ht : P.underlying t = some (.map k e)) (z : Value) (b n : Nat) (F : ByteArray → Option Value)
    (hm : a.eval m = .map (some b)) (hown : MT P k z w b n F) (hn : n < maxLen) (key : ByteArray) (val : Value) (hx : a.eval x = .string key) (hv : a.eval v = val) (hw : key.size ≤ maxLen)
    (hK : ∀ w', MT P k z w' b (n + 1) (fun y => if y = key then some val else F y) → w.grownBy w' (some b) → wpList P ops Q rest (a.put o.dst undef) w') :
    wpList P ops Q (o :: rest) a w := by
  refine wpList_plain hg fun K' hK' => ?_
  obtain ⟨w', hrun, r1, r2⟩ := hown.update K hk ht hn key hw val
  unfold Oper.wp
  simp [execOp, hop, hm, hx, hv, hrun, Result.andThen]
  exact hK' _ _ (hK w' r1 r2)

theorem wpList_look_mt {P : Program} (w : World) {ops : Array Oper} {rest : List Oper} {o : Oper} {a : Act} {Q : Exit → Act → World → Prop}
    (hg : o.guard = none) (m x : Operand) (t : TypeId) (hop : o.op = Op.lookup t m x true)
    (k e : TypeId) (KK : Keyed P k) (hk : P.underlying k = some .string) (ht : P.underlying t = some (.map k e)) (z : Value) (hz : (zeroValue e).run P w = .ok z w) (b n : Nat) (F : ByteArray → Option Value)
    (hm : a.eval m = .map (some b)) (hown : MT P k z w b n F) (key : ByteArray) (hx : a.eval x = .string key) (hw : key.size ≤ maxLen) (v : Value) (ok : Bool) (hF : (F key).getD z = v) (hO : (F key).isSome = ok)
    (hK : wpList P ops Q rest (a.put o.dst (.tuple #[v, .bool ok])) w) : wpList P ops Q (o :: rest) a w := by
  refine wpList_plain hg fun K' hK' => ?_
  have hrun := hown.look KK hk ht hz key hw
  rw [hF, hO] at hrun
  unfold Oper.wp
  simp [execOp, hop, hm, hx, hrun, Result.andThen]
  exact hK' _ _ hK

end Go.Proofs.Ytdhpadcihlmhiaa
