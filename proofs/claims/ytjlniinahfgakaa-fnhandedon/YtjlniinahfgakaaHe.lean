/- The draw for StepDown: the rules. -/
import Derived.Test.YtjlniinahfgakaaHd
import Derived.Deep.Cut
import Derived.Deep.RegionWith
namespace Go.Proofs.Ytjlniinahfgakaa
open Go.ChangeShapes Go.WideShapes Go.ChangeAt Go.RowKit
set_option linter.unusedVariables false
set_option linter.unusedSimpArgs false

theorem costs_at {b n : Nat} {x : Int} {w : World} (hx : x = (n : Int)) (hc : Cursor w b) (hn : n ≤ 1000) :
    Calls Try.prog 54 #[.pointer (some ⟨b, 0, none⟩), .int .i64 x] w fun e w' => ∃ (ad : Option Addr) (cap : Nat) (z : Nat → Int), e = .returned (.slice ad n cap) ∧ DR w b (.slice ad n cap) n z w' := hx ▸ costs_any b n w hc hn
set_option maxRecDepth 100000 in
theorem info36 : ∃ i, Try.prog.info? 36 = some i ∧ i.zero = some (.agg #[.int .i64 0, .slice none 0 0, .slice none 0 0]) ∧ i.size = 3 ∧ i.bytes = 56 := by
  obtain ⟨i0, hi⟩ : ∃ i, Try.prog.info? 36 = some i := ⟨_, rfl⟩
  have hz0 : i0.zero = some (.agg #[.int .i64 0, .slice none 0 0, .slice none 0 0]) := by
    have : (Try.prog.info? 36).bind (·.zero) = some (.agg #[.int .i64 0, .slice none 0 0, .slice none 0 0]) := by kernel_rfl
    rw [hi] at this; exact this
  have hz1 : i0.size = 3 := by
    have : (Try.prog.info? 36).map (·.size) = some 3 := by kernel_rfl
    rw [hi] at this; simpa using this
  have hz2 : i0.bytes = 56 := by
    have : (Try.prog.info? 36).map (·.bytes) = some 56 := by kernel_rfl
    rw [hi] at this; simpa using this
  exact ⟨i0, hi, hz0, hz1, hz2⟩
theorem made_R (w : World) : (w.alloc (.cells #[] 36 (0, 0))).ownsRow w.heap.size 36 3 (.slice (some ⟨w.heap.size, 0, none⟩) 0 0) 0 [] := World.ownsRow_made w #[] 0 (Nat.le_refl _) (Nat.zero_le _) rfl
theorem cell_three {w : World} {b : Nat} {x y u : Value} {t : TypeId} (hb : w.heap.size = b) : ∀ j p, [x, y, u][j]? = some p → (w.alloc (.cells #[x, y, u] t (0, 0))).cell? ((⟨b, 0, none⟩ : Addr).add j) = some p := by
  subst hb
  intro j p h
  have e : ((⟨w.heap.size, 0, none⟩ : Addr).add j) = ⟨w.heap.size, j, none⟩ := by cases j <;> simp [Addr.add]
  rw [e, (CB.new (w := w) #[x, y, u] t).cell]
  simpa using h
theorem EQ.keepBox {v X X' : World} {b : Nat} {fk : Int} {ta : Option Addr} {q tc : Nat} {z : Nat → Int} {o : Obj} (h : EQ v b fk ta q tc z X) (hg : (X.alloc o).grownBy X' (Value.slice ta q tc).ownBlock) : CB X' v.heap.size #[.int .i64 fk, .slice ta q tc, .slice none 0 0] 36 :=
  h.box.keep ((hg.block _ (by have := h.box.lt; simp; omega) (h.box.ne h.row (by decide))).trans (alloc_old X o h.box.lt))
/-- A rule that is drawn whole, in its box. -/
structure FQ (v : World) (b : Nat) (fk : Int) (t1 c1 u1 c2 q : Nat) (z y : Nat → Int) (X : World) : Prop where
  cur : Cursor X b
  trn : Turns b v X
  lo : b < v.heap.size
  box : CB X v.heap.size #[.int .i64 fk, .slice (some ⟨t1, 0, none⟩) q c1, .slice (some ⟨u1, 0, none⟩) q c2] 36
  r1 : X.ownsRow v.heap.size 3 1 (.slice (some ⟨t1, 0, none⟩) q c1) q (intL z q)
  r2 : X.ownsRow v.heap.size 3 1 (.slice (some ⟨u1, 0, none⟩) q c2) q (intL y q)
  ne : t1 ≠ u1
section
variable {v X X' : World} {b : Nat} {fk : Int} {t1 c1 u1 c2 q : Nat} {z y : Nat → Int}
theorem FQ.moved (h : FQ v b fk t1 c1 u1 c2 q z y X) (m : Moved b X X') : FQ v b fk t1 c1 u1 c2 q z y X' :=
  ⟨m.1, h.trn.trans m.2, h.lo, h.box.keep (m.2.block _ h.box.lt (by have := h.lo; omega)), row_block h.r1 (fun g hg => m.2.block g (h.r1.lt g hg).2 (by have := (h.r1.lt g hg).1; have := h.lo; omega)), row_block h.r2 (fun g hg => m.2.block g (h.r2.lt g hg).2 (by have := (h.r2.lt g hg).1; have := h.lo; omega)), h.ne⟩
theorem FQ.drew (h : FQ v b fk t1 c1 u1 c2 q z y X) : FQ v b fk t1 c1 u1 c2 q z y X.drew := h.moved ⟨h.cur.drew, (Turns.refl _ _).drew⟩
theorem Turns.set2 {b : Nat} {a w : World} (h : Turns b a w) {c o : Nat} (u : Value) (hc : a.heap.size ≤ c) : Turns b a (w.setCell ⟨c, o, none⟩ u) := ⟨h.os, h.tape, h.output, by simpa [World.setCell] using h.size, fun g h1 h2 => (heap_set (by omega)).trans (h.block g h1 h2)⟩
theorem Cursor.set2 {b : Nat} {w : World} (h : Cursor w b) {c o : Nat} (u : Value) (hc : b < c) : Cursor (w.setCell ⟨c, o, none⟩ u) b := h.low (by simp [World.setCell]) (fun g hg => heap_set (by omega))
theorem FQ.set (h : FQ v b fk t1 c1 u1 c2 q z y X) {i : Nat} (hi : i < q) (x : Int) : FQ v b fk t1 c1 u1 c2 q z (upd y i x) (X.setCell ⟨u1, i, none⟩ (.int .i64 x)) := by
  have l2 := (h.r2.lt u1 rfl).1
  have hlo := h.lo
  have hn : v.heap.size ≠ u1 := fun e => h.box.ne h.r2 (by decide) (by rw [e]; rfl)
  refine ⟨h.cur.set2 _ (by omega), h.trn.set2 _ l2, hlo, h.box.other _ hn, row_block h.r1 (fun g hg => heap_set (fun e => h.ne (by simp only [Value.ownBlock, Option.some.injEq] at hg; omega))), ?_, h.ne⟩
  rw [← intL_set x hi]
  exact (h.r2.stored i _).1
theorem EQ.whole {gw capw : Nat} {zz : Nat → Int} {zw : Nat → Int} {tc : Nat} (h : EQ v b fk (some ⟨t1, 0, none⟩) q tc zz X) (d : DR X b (.slice (some ⟨gw, 0, none⟩) q capw) q zw X') : FQ v b fk t1 tc gw capw q zz zw (X'.setCell ⟨v.heap.size, 2, none⟩ (.slice (some ⟨gw, 0, none⟩) q capw)) := by
  have hlo := h.lo
  have hb := h.box.lt
  have h1 := h.row.lt t1 rfl
  have h2 := d.row.lt gw rfl
  have kb : X'.heap[v.heap.size]? = X.heap[v.heap.size]? := d.trn.block _ hb (by omega)
  refine ⟨d.cur.set2 _ hlo, (h.trn.trans d.trn).set2 _ (Nat.le_refl _), hlo, (h.box.keep kb).set 2 _, ?_, ?_, by omega⟩
  · exact row_block (row_block h.row (fun g hg => d.trn.block g (h.row.lt g hg).2 (by have := (h.row.lt g hg).1; omega))) (fun g hg => heap_set (fun e => h.box.ne h.row (by decide) (by rw [← e, hg])))
  · exact row_lower (row_block d.row (fun g hg => heap_set (by have := (d.row.lt g hg).1; omega))) (by omega)
end
end Go.Proofs.Ytjlniinahfgakaa
