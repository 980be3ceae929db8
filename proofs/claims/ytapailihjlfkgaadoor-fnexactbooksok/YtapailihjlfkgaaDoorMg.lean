/- Maps by pairs of whole numbers, with whole numbers as elements: what each pair holds (0 where it holds nothing), as a function of the pair. -/
import Derived.Test.YtapailihjlfkgaaDoorProg
import Derived.Test.YtapailihjlfkgaaDoorIr
import Derived.Maps.OwnOps
import Derived.Maps.OwnSet
import Derived.Maps.Views
import Derived.Maps.RangeWalk
import Derived.WideKeyPair
import Derived.WideKeyEntry
namespace Go.Proofs.YtapailihjlfkgaaDoor
open Go.RowKit
open Go.Maps (Keyed)
open Go.ChangeMaps (setBlock heap_setBlock_same heap_setBlock_other)
open Go.WideShapes Go.ChangeShapes Go.MapKept Go.WideElems
set_option linter.unusedVariables false
set_option linter.unusedSimpArgs false

def pk (a b : Int) : Value := .agg #[.int .i64 a, .int .i64 b]
def pl (a b : Int) : Lit := .string (keyBytes [.int .i64 a, .int .i64 b])
def i64ok (a : Int) : Prop := -9223372036854775808 ≤ a ∧ a ≤ 9223372036854775807
theorem wf64 {a : Int} (h : i64ok a) : (Lit.int .i64 a).wf = true := by
  have h1 : IntKind.i64.min = -9223372036854775808 := by decide
  have h2 : IntKind.i64.max = 9223372036854775807 := by decide
  simp only [Lit.wf, h1, h2, Bool.and_eq_true, decide_eq_true_eq]
  exact h
theorem arr2 : Go.WideMaps.ArrKey Tryd.prog 191 3 2 := ⟨Tryd.underlying191, by kernel_rfl, by kernel_rfl, by kernel_rfl⟩
theorem keyL : Go.WideMaps.KeyLaw Tryd.prog 191 := arr2.law
theorem key2 : Keyed Tryd.prog 191 := Keyed.of_law keyL
theorem typesN : ∃ m, Tryd.prog.types.size = m + 1 := ⟨Tryd.prog.types.size - 1, by
  have : (decide (0 < Tryd.prog.types.size)) = true := by kernel_rfl
  have := of_decide_eq_true this
  omega⟩
theorem key_of {a b : Int} (ha : i64ok a) (hb : i64ok b) : keyOf Tryd.prog 191 (pk a b) = some (pl a b) := Go.WideMaps.keyOf_pair arr2 Tryd.underlying3 typesN (wf64 ha) (wf64 hb)
theorem pl_inj {a b c d : Int} (ha : i64ok a) (hb : i64ok b) (hc : i64ok c) (hd : i64ok d) (h : pl a b = pl c d) : a = c ∧ b = d := by
  have h1 := key_of ha hb
  rw [h] at h1
  have h2 := key2.inj h1 (key_of hc hd)
  simp only [pk, Value.agg.injEq, Array.mk.injEq, List.cons.injEq, Value.int.injEq, true_and, and_true] at h2
  exact h2
set_option maxRecDepth 100000 in
theorem zero3i (u : World) : (zeroValue 3).run Tryd.prog u = .ok (.int .i64 0) u := by kernel_rfl

/-- Block b is a map of at most n entries that holds G x y at the pair x y. -/
def MG (w : World) (b n : Nat) (G : Int → Int → Int) : Prop :=
  ∃ D : DataW Unit, w.ownsMap Tryd.prog 191 (plainElem Tryd.prog 3) b n D ∧ (∀ x y, i64ok x → i64ok y → D.atKey (pl x y) (.lit (.int .i64 0)) = .lit (.int .i64 (G x y))) ∧ ∀ kl, Go.Maps.has D kl = true → ∃ x y, i64ok x ∧ i64ok y ∧ kl = pl x y
def upG (G : Int → Int → Int) (x y v : Int) : Int → Int → Int := fun a b => if a = x ∧ b = y then v else G a b

theorem MG.made (w : World) : MG (w.alloc (.map #[] 0)) w.heap.size 0 (fun _ _ => 0) :=
  ⟨.map [], World.ownsMap_made w _ _ _, fun x y _ _ => by simp [DataW.atKey], fun kl h => by cases h⟩
theorem MG.lt {w : World} {b n : Nat} {G : Int → Int → Int} (h : MG w b n G) : b < w.heap.size := by obtain ⟨D, h, _⟩ := h; exact h.lt
theorem MG.block {w w' : World} {b n : Nat} {G : Int → Int → Int} (h : MG w b n G) (hb : w'.heap[b]? = w.heap[b]?) : MG w' b n G := by
  obtain ⟨D, ⟨es, clock, e1, e2⟩, h3⟩ := h
  exact ⟨D, ⟨es, clock, hb.trans e1, e2⟩, h3⟩
theorem MG.mono {w : World} {b n m : Nat} {G : Int → Int → Int} (h : MG w b n G) (hm : n ≤ m) : MG w b m G := by
  obtain ⟨D, h1, h3⟩ := h
  exact ⟨D, h1.mono hm, h3⟩
theorem MG.congr {w : World} {b n : Nat} {G G' : Int → Int → Int} (h : MG w b n G) (he : ∀ x y, G x y = G' x y) : MG w b n G' := by
  obtain ⟨D, h1, h3⟩ := h
  exact ⟨D, h1, fun x y hx hy => by rw [← he]; exact h3.1 x y hx hy, h3.2⟩
theorem MG.look {w : World} {b n : Nat} {G : Int → Int → Int} (h : MG w b n G) {x y : Int} (hx : i64ok x) (hy : i64ok y) :
    (Instr.lookup 190 (.map (some b)) (pk x y) false).run Tryd.prog w = .ok (.int .i64 (G x y)) w := by
  obtain ⟨D, h1, h3⟩ := h
  obtain ⟨c, hrun, hat, _⟩ := h1.lookup_int key2 Tryd.underlying190 Tryd.underlying3 (zero3i w) (key_of hx hy)
  have e := h3.1 x y hx hy
  rw [hat] at e
  simp only [DataW.lit.injEq, Lit.int.injEq, true_and] at e
  rw [hrun, e]

/-- 'm[k] += v': the entry is found or made, then stored. -/
theorem MG.add {w : World} {b n : Nat} {G : Int → Int → Int} (h : MG w b n G) (hn : n < maxLen) {x y v : Int} (hx : i64ok x) (hy : i64ok y) (hv : i64ok v) :
    ∃ (v0 : Value) (st : Nat) (m1 m2 : Obj), (Instr.mapEntry 190 (.map (some b)) (pk x y)).run Tryd.prog w = .ok (.tuple #[v0, goInt st]) (setBlock w b m1) ∧
      MG (setBlock w b m1) b (n + 1) G ∧
      (Instr.entryStore 190 (.map (some b)) (goInt st) (.int .i64 v)).run Tryd.prog (setBlock w b m1) = .ok () (setBlock (setBlock w b m1) b m2) ∧
      MG (setBlock (setBlock w b m1) b m2) b (n + 1) (upG G x y v) ∧ w.heap[b]?.isSome := by
  obtain ⟨D, h1, h3⟩ := h
  have hkey := key_of hx hy
  have hisM := h1.isMap
  have hput : ∀ u : Int, i64ok u → ∃ w', (Instr.mapUpdate 190 (.map (some b)) (pk x y) (.int .i64 u)).run Tryd.prog w = .ok () w' ∧ MG w' b (n + 1) (upG G x y u) := by
    intro u hu
    obtain ⟨w', hrun, ho, _⟩ := h1.update key2 Tryd.underlying190 hn hkey (plainElem_int Tryd.underlying3 (wf64 hu))
    refine ⟨w', hrun, _, ho, fun a c ha hc => ?_, fun kl hk => ?_⟩
    rotate_left
    · by_cases g : kl = pl x y
      · exact ⟨x, y, hx, hy, g⟩
      · rw [Go.Maps.has_put_other g] at hk
        exact h3.2 kl hk
    unfold upG
    by_cases g : a = x ∧ c = y
    · obtain ⟨rfl, rfl⟩ := g
      rw [if_pos ⟨rfl, rfl⟩, Go.Maps.atKey_put_same hisM (key2.key hkey)]
    · rw [if_neg g, Go.Maps.atKey_put_other (fun q => g (pl_inj ha hc hx hy q))]
      exact h3.1 a c ha hc
  obtain ⟨es, clock, hb, F, hs, rfl⟩ := h1
  obtain ⟨s1, s2, _⟩ := F.stamped
  obtain ⟨v0, st, es1, clock1, hent, hv0, hsto⟩ := entry_then_store keyL Tryd.underlying190 (fun u => zero3i u) hb F hkey
  obtain ⟨es', clock', hrs, hup⟩ := hsto (setBlock w b (.map es1 clock1)) (.int .i64 v) (heap_setBlock_same hb _)
  obtain ⟨w', hrun', hM'⟩ := hput v hv
  rw [hup] at hrun'
  have hw' : setBlock w b (.map es' clock') = w' := by simpa using hrun'
  refine ⟨v0, st, .map es1 clock1, .map es' clock', hent, ?_, hrs, ?_, by rw [hb]; rfl⟩
  · rcases keyL.find w hkey es.toList F.keys with ⟨f1, f2⟩ | ⟨j, e0, f1, f2, f3⟩
    · have r1 : (Instr.mapEntry 190 (.map (some b)) (pk x y)).run Tryd.prog w = .ok (.tuple #[.int .i64 0, goInt clock]) (setBlock w b (.map (es.push ⟨pk x y, .int .i64 0, clock⟩) (clock + 1))) := by
        simp [Instr.mapEntry, run_underlying Tryd.underlying190, MapKept.run_getObj_map hb, keyL.check w false hkey, f1, zero3i w, MapKept.run_setObj_map _ hb, Result.andThen, setBlock]
      have r2 : (Instr.mapUpdate 190 (.map (some b)) (pk x y) (.int .i64 0)).run Tryd.prog w = .ok () (setBlock w b (.map (es.push ⟨pk x y, .int .i64 0, clock⟩) (clock + 1))) := by
        simp [Instr.mapUpdate, run_underlying Tryd.underlying190, MapKept.run_getObj_map hb, keyL.check w false hkey, f1, MapKept.run_setObj_map _ hb, Result.andThen, setBlock]
      obtain ⟨w2, r3, hM2⟩ := hput 0 (by unfold i64ok; omega)
      rw [r2] at r3
      rw [hent] at r1
      have e1 : setBlock w b (.map es1 clock1) = setBlock w b (.map (es.push ⟨pk x y, .int .i64 0, clock⟩) (clock + 1)) := by
        simp only [Result.ok.injEq] at r1; exact r1.2
      have e2 : setBlock w b (.map (es.push ⟨pk x y, .int .i64 0, clock⟩) (clock + 1)) = w2 := by simpa using r3
      rw [e1, e2]
      refine hM2.congr fun a c => ?_
      unfold upG
      by_cases g : a = x ∧ c = y
      · rw [if_pos g]
        obtain ⟨rfl, rfl⟩ := g
        rcases Go.Maps.fit_look false key2 Tryd.underlying190 (zero3i w) hb F hkey with ⟨_, _, hat⟩ | ⟨e0, y0, q1, q2, _⟩
        · have := h3.1 a c hx hy
          rw [hat] at this
          simp only [DataW.lit.injEq, Lit.int.injEq, true_and] at this
          exact this
        · exact absurd q2 (f2 e0 q1)
      · rw [if_neg g]
    · have hj : es[j]? = some e0 := by simpa using f2
      have hsame : es.modify j (fun e => { e with key := pk x y }) = es := by
        apply Array.ext'
        rw [Array.toList_modify, Go.ChangeMaps.modify_eq_set _ _ _ _ f2]
        have : ({ e0 with key := pk x y } : MapEntry) = e0 := by rw [← f3]
        rw [this]
        exact set_self _ _ _ f2
      have r1 : (Instr.mapEntry 190 (.map (some b)) (pk x y)).run Tryd.prog w = .ok (.tuple #[e0.val, goInt e0.born]) (setBlock w b (.map es clock)) := by
        simp [Instr.mapEntry, run_underlying Tryd.underlying190, MapKept.run_getObj_map hb, keyL.check w false hkey, f1, hj, f3, keyL.stays w hkey, hsame, MapKept.run_setObj_map _ hb, Result.andThen, setBlock]
      rw [hent] at r1
      have e1 : setBlock w b (.map es1 clock1) = setBlock w b (.map es clock) := by
        simp only [Result.ok.injEq] at r1; exact r1.2
      rw [e1]
      have h0 : MG w b n G := ⟨_, ⟨es, clock, hb, F, hs, rfl⟩, h3⟩
      exact (h0.block (by rw [heap_setBlock_same hb, hb])).mono (by omega)
  · rw [← hw'] at hM'
    exact hM'.block (by rw [heap_setBlock_same (heap_setBlock_same hb _), heap_setBlock_same hb])

end Go.Proofs.YtapailihjlfkgaaDoor
