/- Maps by the keys of cells (item, place, lot), with whole numbers as elements: what each key holds, as a function of the key, and how many keys there are. -/
import Derived.Test.YtpmnnfjabppahaaCb
import Derived.Maps.OwnOps
import Derived.Maps.OwnSet
import Derived.Maps.Views
import Derived.DeepKeys4
namespace Go.Proofs.Ytpmnnfjabppahaa
open Go.RowKit
open Go.Maps (Keyed)
set_option linter.unusedVariables false
set_option linter.unusedSimpArgs false

structure K3 where
  it : ByteArray
  pl : ByteArray
  lo : ByteArray
def K3.val (k : K3) : Value := .agg #[.string k.it, .string k.pl, .string k.lo]
def K3.lit (k : K3) : Lit := .string (keyBytes [.string k.it.data.toList, .string k.pl.data.toList, .string k.lo.data.toList])
def K3.ok (k : K3) : Prop := k.it.size ≤ maxLen ∧ k.pl.size ≤ maxLen ∧ k.lo.size ≤ maxLen
theorem laidOutP : laidOutB Try.prog = true := by kernel_rfl
theorem keyC : Keyed Try.prog 137 := Keyed.of_law (deep_law_laid laidOutP (m := 3) (by omega) (of_decide_eq_true (by kernel_rfl)) (by kernel_rfl) (by kernel_rfl))
theorem typesN : ∃ m, Try.prog.types.size = m + 1 := ⟨Try.prog.types.size - 1, by
  have : (decide (0 < Try.prog.types.size)) = true := by kernel_rfl
  have := of_decide_eq_true this
  omega⟩
theorem lits9 {m : Nat} {s : ByteArray} (h : s.size ≤ maxLen) : Try.prog.keyLits (m + 1) 9 [.string s] = some [.string s.data.toList] := by
  unfold Program.keyLits
  simp only [Try.underlying9]
  rw [if_pos h]
set_option maxRecDepth 20000 in
theorem key_of {k : K3} (h : k.ok) : keyOf Try.prog 137 k.val = some k.lit := by
  obtain ⟨a, b, c⟩ := k
  obtain ⟨ha, hb, hc⟩ := h
  have hkt : Try.prog.keyType 137 = true := by kernel_rfl
  have hcs : Try.prog.cellsOf 137 = 3 := by kernel_rfl
  have hc9 : Try.prog.cellsOf 9 = 1 := by kernel_rfl
  obtain ⟨m, hm⟩ := typesN
  unfold keyOf
  simp only [Try.underlying137]
  rw [if_pos (by simp [hkt, Value.formed, Try.underlying137, hcs, K3.val]), hm]
  unfold Program.keyLits
  simp only [Try.underlying137, K3.val, Value.cells]
  rw [if_pos (by rw [hcs]; exact ⟨rfl, by kernel_rfl⟩)]
  simp [List.mapM_cons, List.mapM_nil, hc9, lits9 ha, lits9 hb, lits9 hc, K3.lit]
theorem K3.inj {a b : K3} (ha : a.ok) (hb : b.ok) (h : a.lit = b.lit) : a = b := by
  have h1 := key_of ha
  rw [h] at h1
  have h2 := keyC.inj h1 (key_of hb)
  obtain ⟨a0, a1, a2⟩ := a
  obtain ⟨b0, b1, b2⟩ := b
  simp only [K3.val, Value.agg.injEq, Array.mk.injEq, List.cons.injEq, Value.string.injEq, and_true] at h2
  obtain ⟨rfl, rfl, rfl⟩ := h2
  rfl
def hvC (v : Value) : Option (DataW Value × List MemPlace) := some (.held v, [])
def oi (o : Option Int) : Value := .int .i64 (o.getD 0)

/-- Block b is a map of s keys; at each key x it has F x. -/
def MK (w : World) (b s : Nat) (F : K3 → Option Int) : Prop :=
  ∃ D : DataW Value, w.ownsMap Try.prog 137 hvC b s D ∧ Go.Maps.size D = s ∧ ∀ x : K3, x.ok → D.atKey x.lit (.held (.int .i64 0)) = .held (oi (F x)) ∧ Go.Maps.has D x.lit = (F x).isSome
open Classical in
noncomputable def upK (F : K3 → Option Int) (x : K3) (v : Int) : K3 → Option Int := fun y => if y = x then some v else F y

theorem own_size {P : Program} {w : World} {k : TypeId} {R : Value → Option (DataW Value × List MemPlace)} {b n : Nat} {D : DataW Value} (h : w.ownsMap P k R b n D) : w.ownsMap P k R b (Go.Maps.size D) D := by
  obtain ⟨es, clock, e1, F, hs, rfl⟩ := h
  refine ⟨es, clock, e1, F, ?_, rfl⟩
  rw [Go.Maps.size_eq, length_sorted, List.length_map, Array.length_toList]
  exact Nat.le_refl _
theorem MK.made (w : World) : MK (w.alloc (.map #[] 0)) w.heap.size 0 (fun _ => none) :=
  ⟨.map [], World.ownsMap_made w _ _ _, rfl, fun x _ => ⟨by simp [DataW.atKey, oi], rfl⟩⟩
theorem MK.lt {w : World} {b s : Nat} {F : K3 → Option Int} (h : MK w b s F) : b < w.heap.size := by obtain ⟨D, h, _⟩ := h; exact h.lt
theorem MK.block {w w' : World} {b s : Nat} {F : K3 → Option Int} (h : MK w b s F) (hb : w'.heap[b]? = w.heap[b]?) : MK w' b s F := by
  obtain ⟨D, ⟨es, clock, e1, e2⟩, h3⟩ := h
  exact ⟨D, ⟨es, clock, hb.trans e1, e2⟩, h3⟩
theorem MK.below {w w' : World} {B b s : Nat} {F : K3 → Option Int} (h : MK w b s F) (k : Below B w w') (hb : b < B) : MK w' b s F := h.block (k.block b hb)
theorem MK.isMap {w : World} {b s : Nat} {F : K3 → Option Int} (h : MK w b s F) : ∃ es clock, w.heap[b]? = some (.map es clock) := by
  obtain ⟨D, ⟨es, clock, e1, e2⟩, h3⟩ := h
  exact ⟨es, clock, e1⟩
set_option maxRecDepth 100000 in
theorem zero3c (u : World) : (zeroValue 3).run Try.prog u = .ok (.int .i64 0) u := by kernel_rfl
theorem MK.look {w : World} {b s : Nat} {F : K3 → Option Int} (h : MK w b s F) (x : K3) (hx : x.ok) :
    (Instr.lookup 99 (.map (some b)) x.val true).run Try.prog w = .ok (.tuple #[oi (F x), .bool (F x).isSome]) w := by
  obtain ⟨D, h1, h2, h3⟩ := h
  obtain ⟨v, ps, hrun, hv'⟩ := h1.look_ok keyC Try.underlying99 (zero3c w) (zd := .held (.int .i64 0)) (zp := []) rfl (key_of hx)
  rw [(h3 x hx).1] at hv'
  rw [(h3 x hx).2] at hrun
  simp only [hvC, Option.some.injEq, Prod.mk.injEq, DataW.held.injEq] at hv'
  rw [hrun, hv'.1]
theorem MK.update {w : World} {b s : Nat} {F : K3 → Option Int} (h : MK w b s F) (hs : s < maxLen) (x : K3) (hx : x.ok) (v : Int) :
    ∃ w', (Instr.mapUpdate 99 (.map (some b)) x.val (.int .i64 v)).run Try.prog w = .ok () w' ∧ MK w' b (if (F x).isSome then s else s + 1) (upK F x v) ∧ w.grownBy w' (some b) := by
  obtain ⟨D, h1, h2, h3⟩ := h
  have hkey := key_of hx
  obtain ⟨w', hrun, ho, hg⟩ := h1.update keyC Try.underlying99 hs hkey (val := .int .i64 v) (d := .held (.int .i64 v)) (ps := []) rfl
  have ht := h1.tidy keyC
  have hsz : Go.Maps.size (D.put x.lit (.held (.int .i64 v))) = if (F x).isSome then s else s + 1 := by rw [Go.Maps.size_put ht, (h3 x hx).2, h2]
  refine ⟨w', hrun, ⟨_, by have := own_size ho; rw [hsz] at this; exact this, hsz, fun y hy => ?_⟩, hg⟩
  unfold upK
  by_cases e : y = x
  · subst e
    rw [if_pos rfl, Go.Maps.atKey_put_same ht.isMap (keyC.key hkey), Go.Maps.has_put_same ht.isMap (keyC.key hkey)]
    exact ⟨rfl, rfl⟩
  · have hne : y.lit ≠ x.lit := fun q => e (K3.inj hy hx q)
    rw [if_neg e, Go.Maps.atKey_put_other hne, Go.Maps.has_put_other hne]
    exact h3 y hy
theorem MK.len {w : World} {b s : Nat} {F : K3 → Option Int} (h : MK w b s F) (ty : TypeId) : (Builtin.len_ #[99] ty #[.map (some b)]).run Try.prog w = .ok (.int .i64 (s : Int)) w := by
  obtain ⟨D, h1, h2, h3⟩ := h
  rw [h1.len Try.underlying99 ty, h2]

theorem wpList_update_mk (w : World) {ops : Array Oper} {rest : List Oper} {o : Oper} {a : Act} {Q : Exit → Act → World → Prop}
    (hg : o.guard = none) (m x v : Operand) (hop : o.op = Op.mapUpdate 99 m x v) (b s : Nat) (F : K3 → Option Int)
    (hm : a.eval m = .map (some b)) (hown : MK w b s F) (hn : s < maxLen) (key : K3) (hk : key.ok) (val : Int) (hx : a.eval x = key.val) (hv : a.eval v = .int .i64 val)
    (hK : ∀ w', MK w' b (if (F key).isSome then s else s + 1) (upK F key val) → w.grownBy w' (some b) → wpList Try.prog ops Q rest (a.put o.dst undef) w') :
    wpList Try.prog ops Q (o :: rest) a w := by
  refine wpList_plain hg fun K' hK' => ?_
  obtain ⟨w', hrun, r1, r2⟩ := hown.update hn key hk val
  unfold Oper.wp
  simp [execOp, hop, hm, hx, hv, hrun, Result.andThen]
  exact hK' _ _ (hK w' r1 r2)
end Go.Proofs.Ytpmnnfjabppahaa
