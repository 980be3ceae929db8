/- Maps by texts, with whole numbers as elements: what each key holds, and how many keys there are; the names of items. -/
import Derived.Test.YtmbdeafpfdeigaaJc
import Derived.Maps.OwnOps
import Derived.Maps.OwnSet
import Derived.Maps.Views
import Derived.StringKeys
namespace Go.Proofs.Ytmbdeafpfdeigaa
open Go.RowKit
open Go.Maps (Keyed)
set_option linter.unusedVariables false
set_option linter.unusedSimpArgs false

theorem laidOutP : laidOutB Try.prog = true := by kernel_rfl
theorem keyC : Keyed Try.prog 9 := Go.Maps.string_keyed Try.underlying9
theorem key_of {k : ByteArray} (h : k.size ≤ maxLen) : keyOf Try.prog 9 (.string k) = some (.string k.data.toList) := Go.WideMaps.keyOf_string_mk Try.underlying9 h
theorem lit_inj {a b : ByteArray} (h : Lit.string a.data.toList = Lit.string b.data.toList) : a = b := by
  obtain ⟨⟨a⟩⟩ := a
  obtain ⟨⟨b⟩⟩ := b
  simpa using h
def hvC (v : Value) : Option (DataW Value × List MemPlace) := some (.held v, [])
def oi (o : Option Int) : Value := .int .i64 (o.getD 0)

/-- Block b is a map of s keys; at each key x it has F x. -/
def MS (w : World) (b s : Nat) (F : ByteArray → Option Int) : Prop :=
  ∃ D : DataW Value, w.ownsMap Try.prog 9 hvC b s D ∧ Go.Maps.size D = s ∧ ∀ x : ByteArray, x.size ≤ maxLen → D.atKey (.string x.data.toList) (.held (.int .i64 0)) = .held (oi (F x)) ∧ Go.Maps.has D (.string x.data.toList) = (F x).isSome
open Classical in
noncomputable def upK (F : ByteArray → Option Int) (x : ByteArray) (v : Int) : ByteArray → Option Int := fun y => if y = x then some v else F y

theorem own_size {P : Program} {w : World} {k : TypeId} {R : Value → Option (DataW Value × List MemPlace)} {b n : Nat} {D : DataW Value} (h : w.ownsMap P k R b n D) : w.ownsMap P k R b (Go.Maps.size D) D := by
  obtain ⟨es, clock, e1, F, hs, rfl⟩ := h
  refine ⟨es, clock, e1, F, ?_, rfl⟩
  rw [Go.Maps.size_eq, length_sorted, List.length_map, Array.length_toList]
  exact Nat.le_refl _
theorem MS.made (w : World) : MS (w.alloc (.map #[] 0)) w.heap.size 0 (fun _ => none) :=
  ⟨.map [], World.ownsMap_made w _ _ _, rfl, fun x _ => ⟨by simp [DataW.atKey, oi], rfl⟩⟩
theorem MS.lt {w : World} {b s : Nat} {F : ByteArray → Option Int} (h : MS w b s F) : b < w.heap.size := by obtain ⟨D, h, _⟩ := h; exact h.lt
theorem MS.block {w w' : World} {b s : Nat} {F : ByteArray → Option Int} (h : MS w b s F) (hb : w'.heap[b]? = w.heap[b]?) : MS w' b s F := by
  obtain ⟨D, ⟨es, clock, e1, e2⟩, h3⟩ := h
  exact ⟨D, ⟨es, clock, hb.trans e1, e2⟩, h3⟩
theorem MS.below {w w' : World} {B b s : Nat} {F : ByteArray → Option Int} (h : MS w b s F) (k : Below B w w') (hb : b < B) : MS w' b s F := h.block (k.block b hb)
theorem MS.isMap {w : World} {b s : Nat} {F : ByteArray → Option Int} (h : MS w b s F) : ∃ es clock, w.heap[b]? = some (.map es clock) := by
  obtain ⟨D, ⟨es, clock, e1, e2⟩, h3⟩ := h
  exact ⟨es, clock, e1⟩
set_option maxRecDepth 100000 in
theorem zero3c (u : World) : (zeroValue 3).run Try.prog u = .ok (.int .i64 0) u := by kernel_rfl
theorem MS.look {w : World} {b s : Nat} {F : ByteArray → Option Int} (h : MS w b s F) (x : ByteArray) (hx : x.size ≤ maxLen) :
    (Instr.lookup 103 (.map (some b)) (.string x) true).run Try.prog w = .ok (.tuple #[oi (F x), .bool (F x).isSome]) w := by
  obtain ⟨D, h1, h2, h3⟩ := h
  obtain ⟨v, ps, hrun, hv'⟩ := h1.look_ok keyC Try.underlying103 (zero3c w) (zd := .held (.int .i64 0)) (zp := []) rfl (key_of hx)
  rw [(h3 x hx).1] at hv'
  rw [(h3 x hx).2] at hrun
  simp only [hvC, Option.some.injEq, Prod.mk.injEq, DataW.held.injEq] at hv'
  rw [hrun, hv'.1]
theorem MS.update {w : World} {b s : Nat} {F : ByteArray → Option Int} (h : MS w b s F) (hs : s < maxLen) (x : ByteArray) (hx : x.size ≤ maxLen) (v : Int) :
    ∃ w', (Instr.mapUpdate 103 (.map (some b)) (.string x) (.int .i64 v)).run Try.prog w = .ok () w' ∧ MS w' b (if (F x).isSome then s else s + 1) (upK F x v) ∧ w.grownBy w' (some b) := by
  obtain ⟨D, h1, h2, h3⟩ := h
  have hkey := key_of hx
  obtain ⟨w', hrun, ho, hg⟩ := h1.update keyC Try.underlying103 hs hkey (val := .int .i64 v) (d := .held (.int .i64 v)) (ps := []) rfl
  have ht := h1.tidy keyC
  have hsz : Go.Maps.size (D.put (.string x.data.toList) (.held (.int .i64 v))) = if (F x).isSome then s else s + 1 := by rw [Go.Maps.size_put ht, (h3 x hx).2, h2]
  refine ⟨w', hrun, ⟨_, by have := own_size ho; rw [hsz] at this; exact this, hsz, fun y hy => ?_⟩, hg⟩
  unfold upK
  by_cases e : y = x
  · subst e
    rw [if_pos rfl, Go.Maps.atKey_put_same ht.isMap (keyC.key hkey), Go.Maps.has_put_same ht.isMap (keyC.key hkey)]
    exact ⟨rfl, rfl⟩
  · have hne : Lit.string y.data.toList ≠ Lit.string x.data.toList := fun q => e (lit_inj q)
    rw [if_neg e, Go.Maps.atKey_put_other hne, Go.Maps.has_put_other hne]
    exact h3 y hy
theorem MS.len {w : World} {b s : Nat} {F : ByteArray → Option Int} (h : MS w b s F) (ty : TypeId) : (Builtin.len_ #[103] ty #[.map (some b)]).run Try.prog w = .ok (.int .i64 (s : Int)) w := by
  obtain ⟨D, h1, h2, h3⟩ := h
  rw [h1.len Try.underlying103 ty, h2]

theorem wpList_update_ms (w : World) {ops : Array Oper} {rest : List Oper} {o : Oper} {a : Act} {Q : Exit → Act → World → Prop}
    (hg : o.guard = none) (m x v : Operand) (hop : o.op = Op.mapUpdate 103 m x v) (b s : Nat) (F : ByteArray → Option Int)
    (hm : a.eval m = .map (some b)) (hown : MS w b s F) (hn : s < maxLen) (key : ByteArray) (hk : key.size ≤ maxLen) (val : Int) (hx : a.eval x = .string key) (hv : a.eval v = .int .i64 val)
    (hK : ∀ w', MS w' b (if (F key).isSome then s else s + 1) (upK F key val) → w.grownBy w' (some b) → wpList Try.prog ops Q rest (a.put o.dst undef) w') :
    wpList Try.prog ops Q (o :: rest) a w := by
  refine wpList_plain hg fun K' hK' => ?_
  obtain ⟨w', hrun, r1, r2⟩ := hown.update hn key hk val
  unfold Oper.wp
  simp [execOp, hop, hm, hx, hv, hrun, Result.andThen]
  exact hK' _ _ (hK w' r1 r2)

noncomputable def plF (c : Nat → IT) : Nat → ByteArray → Option Int
  | 0 => fun _ => none
  | k + 1 => upK (plF c k) (c k).name (k : Int)
noncomputable def plS (c : Nat → IT) : Nat → Nat
  | 0 => 0
  | k + 1 => if (plF c k (c k).name).isSome then plS c k else plS c k + 1
/-- No two of the first n have the same key. -/
def DisP (n : Nat) (c : Nat → IT) : Prop := ∀ i j, i < j → j < n → (c i).name ≠ (c j).name
theorem plF_some (c : Nat → IT) (x : ByteArray) : ∀ k, (plF c k x).isSome = true ↔ ∃ j, j < k ∧ (c j).name = x
  | 0 => by simp [plF]
  | k + 1 => by
    show (upK (plF c k) (c k).name (k : Int) x).isSome = true ↔ _
    unfold upK
    by_cases e : x = (c k).name
    · rw [if_pos e]
      exact ⟨fun _ => ⟨k, by omega, e.symm⟩, fun _ => rfl⟩
    · rw [if_neg e, plF_some c x k]
      constructor
      · rintro ⟨j, h1, h2⟩; exact ⟨j, by omega, h2⟩
      · rintro ⟨j, h1, h2⟩
        by_cases q : j = k
        · subst q; exact absurd h2.symm e
        · exact ⟨j, by omega, h2⟩
theorem plF_at {c : Nat → IT} {n : Nat} (h : DisP n c) : ∀ k, k ≤ n → ∀ j, j < k → plF c k (c j).name = some (j : Int)
  | 0, _, j, hj => by omega
  | k + 1, hk, j, hj => by
    show upK (plF c k) (c k).name (k : Int) (c j).name = _
    unfold upK
    by_cases e : j = k
    · subst e; rw [if_pos rfl]
    · rw [if_neg (h j k (by omega) (by omega))]
      exact plF_at h k (by omega) j (by omega)
theorem plF_no {c : Nat → IT} {k : Nat} {x : ByteArray} (h : ∀ j, j < k → (c j).name ≠ x) : plF c k x = none := by
  cases g : plF c k x
  · rfl
  · obtain ⟨j, hj, e⟩ := (plF_some c x k).1 (by rw [g]; rfl)
    exact absurd e (h j hj)
theorem plS_le (c : Nat → IT) : ∀ k, plS c k ≤ k
  | 0 => Nat.le_refl _
  | k + 1 => by
    have := plS_le c k
    show (if (plF c k (c k).name).isSome then plS c k else plS c k + 1) ≤ k + 1
    split <;> omega
theorem plS_all {c : Nat → IT} : ∀ k, plS c k = k ↔ DisP k c
  | 0 => ⟨fun _ i j _ hj => by omega, fun _ => rfl⟩
  | k + 1 => by
    have hk := plS_le c k
    show (if (plF c k (c k).name).isSome then plS c k else plS c k + 1) = k + 1 ↔ _
    constructor
    · intro h
      split at h
      · omega
      · rename_i g
        have h1 := (plS_all (c := c) k).1 (by omega)
        intro i j hij hj
        by_cases e : j = k
        · subst e
          intro q
          exact g ((plF_some c _ j).2 ⟨i, hij, q⟩)
        · exact h1 i j hij (by omega)
    · intro h
      have h1 : DisP k c := fun i j hij hj => h i j hij (by omega)
      rw [if_neg (fun g => by
        obtain ⟨j, hj, e⟩ := (plF_some c _ k).1 g
        exact h j k hj (by omega) e), (plS_all k).2 h1]

end Go.Proofs.Ytmbdeafpfdeigaa
