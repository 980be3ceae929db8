/- Rules that are being drawn: what stands by. -/
import Derived.Test.YtjlniinahfgakaaHc
import Derived.Test.YtjlniinahfgakaaHw
namespace Go.Proofs.Ytjlniinahfgakaa
open Go.ChangeShapes Go.WideShapes Go.ChangeAt Go.RowKit
set_option linter.unusedVariables false
set_option linter.unusedSimpArgs false

def tri (f : Nat → Int) (t u : Nat → Value) : Nat → List Value
  | 0 => []
  | k + 1 => tri f t u k ++ [.int .i64 (f k), t k, u k]
theorem tri_len (f : Nat → Int) (t u : Nat → Value) : ∀ k, (tri f t u k).length = k * 3
  | 0 => rfl
  | k + 1 => by simp [tri, tri_len f t u k]; omega
theorem tri_congr {f f' : Nat → Int} {t t' u u' : Nat → Value} : ∀ {k : Nat}, (∀ j, j < k → f j = f' j ∧ t j = t' j ∧ u j = u' j) → tri f t u k = tri f' t' u' k
  | 0, _ => rfl
  | k + 1, h => by
    obtain ⟨h1, h2, h3⟩ := h k (by omega)
    simp only [tri, h1, h2, h3]
    rw [tri_congr (fun j hj => h j (by omega))]
theorem tri_get {f : Nat → Int} {t u : Nat → Value} : ∀ {k j : Nat}, j < k → (tri f t u k)[j * 3]? = some (.int .i64 (f j)) ∧ (tri f t u k)[j * 3 + 1]? = some (t j) ∧ (tri f t u k)[j * 3 + 2]? = some (u j)
  | 0, j, h => by omega
  | k + 1, j, h => by
    have hl := tri_len f t u k
    by_cases e : j = k
    · subst e
      simp only [tri]
      refine ⟨?_, ?_, ?_⟩
      · rw [List.getElem?_append_right (by omega), show j * 3 - (tri f t u j).length = 0 by omega]; rfl
      · rw [List.getElem?_append_right (by omega), show j * 3 + 1 - (tri f t u j).length = 1 by omega]; rfl
      · rw [List.getElem?_append_right (by omega), show j * 3 + 2 - (tri f t u j).length = 2 by omega]; rfl
    · obtain ⟨h1, h2, h3⟩ := tri_get (f := f) (t := t) (u := u) (k := k) (j := j) (by omega)
      simp only [tri]
      refine ⟨?_, ?_, ?_⟩
      · rw [List.getElem?_append_left (by omega)]; exact h1
      · rw [List.getElem?_append_left (by omega)]; exact h2
      · rw [List.getElem?_append_left (by omega)]; exact h3
/-- Rows of different types share no memory. -/
theorem own_ne {W : World} {b1 b2 n1 n2 : Nat} {u v : Value} {xs ys : List Value} (h1 : W.ownsRow b1 3 1 u n1 xs) (h2 : W.ownsRow b2 36 3 v n2 ys) {g : Nat} (hu : u.ownBlock = some g) : v.ownBlock ≠ some g := by
  intro hv
  rcases h1.2 with ⟨rfl, _⟩ | ⟨g1, c1, cur1, rfl, _, e1, _⟩
  · cases hu
  · rcases h2.2 with ⟨rfl, _⟩ | ⟨g2, c2, cur2, rfl, _, e2, _⟩
    · cases hv
    · simp only [Value.ownBlock, Option.some.injEq] at hu hv
      subst hu
      rw [hv] at e2
      rw [e1] at e2
      simp at e2
def tvs (bt ct N : Nat → Nat) (j : Nat) : Value := .slice (some ⟨bt j, 0, none⟩) (N j) (ct j)
structure DQ (a : World) (b : Nat) (rv : Value) (k : Nat) (f : Nat → Int) (z y : Nat → Nat → Int) (N bt ct bw cw : Nat → Nat) (W : World) : Prop where
  cur : Cursor W b
  trn : Turns b a W
  lo : b < a.heap.size
  row : W.ownsRow a.heap.size 36 3 rv k (tri f (tvs bt ct N) (tvs bw cw N) k)
  t : ∀ j, j < k → W.ownsRow a.heap.size 3 1 (tvs bt ct N j) (N j) (intL (z j) (N j))
  u : ∀ j, j < k → W.ownsRow a.heap.size 3 1 (tvs bw cw N j) (N j) (intL (y j) (N j))
  ne : ∀ j, j < k → bt j ≠ bw j
  inc : ∀ i j, i < j → j < k → bt i < bt j ∧ bt i < bw j ∧ bw i < bt j ∧ bw i < bw j
  pos : ∀ j, j < k → 1 ≤ N j ∧ N j ≤ 100
def ifk {α : Type} (k : Nat) (x : α) (g : Nat → α) (j : Nat) : α := if j = k then x else g j
theorem ifk_eq {α : Type} (k : Nat) (x : α) (g : Nat → α) : ifk k x g k = x := if_pos rfl
theorem ifk_ne {α : Type} {k j : Nat} (x : α) (g : Nat → α) (h : j ≠ k) : ifk k x g j = g j := if_neg h
section
variable {a W W' : World} {b : Nat} {rv rv' : Value} {k : Nat} {f : Nat → Int} {z y : Nat → Nat → Int} {N bt ct bw cw : Nat → Nat}
theorem DQ.moved (h : DQ a b rv k f z y N bt ct bw cw W) (m : Moved b W W') : DQ a b rv k f z y N bt ct bw cw W' := by
  have keep : ∀ g, a.heap.size ≤ g → g < W.heap.size → W'.heap[g]? = W.heap[g]? := fun g h1 h2 => m.2.block g h2 (by have := h.lo; omega)
  exact ⟨m.1, h.trn.trans m.2, h.lo, row_block h.row (fun g hg => keep g (h.row.lt g hg).1 (h.row.lt g hg).2), fun j hj => row_block (h.t j hj) (fun g hg => keep g ((h.t j hj).lt g hg).1 ((h.t j hj).lt g hg).2), fun j hj => row_block (h.u j hj) (fun g hg => keep g ((h.u j hj).lt g hg).1 ((h.u j hj).lt g hg).2), h.ne, h.inc, h.pos⟩
theorem DQ.alloc (h : DQ a b rv k f z y N bt ct bw cw W) (o : Obj) : DQ a b rv k f z y N bt ct bw cw (W.alloc o) := h.moved ⟨h.cur.alloc o, (Turns.refl _ _).alloc o⟩
theorem DQ.snoc {v X : World} {o : Obj} {t1 c1 u1 c2 q : Nat} {zz yy : Nat → Int} {fk : Int} (h : DQ a b rv k f z y N bt ct bw cw v) (hc : Cursor X b) (hT : Turns b v X) (h1 : X.ownsRow v.heap.size 3 1 (.slice (some ⟨t1, 0, none⟩) q c1) q (intL zz q)) (h2 : X.ownsRow v.heap.size 3 1 (.slice (some ⟨u1, 0, none⟩) q c2) q (intL yy q)) (hne : t1 ≠ u1) (hq : 1 ≤ q ∧ q ≤ 100)
    (hown : W'.ownsRow a.heap.size 36 3 rv' (k + 1) (tri f (tvs bt ct N) (tvs bw cw N) k ++ [.int .i64 fk, .slice (some ⟨t1, 0, none⟩) q c1, .slice (some ⟨u1, 0, none⟩) q c2])) (hg : (X.alloc o).grownBy W' rv.ownBlock) :
    DQ a b rv' (k + 1) (ifk k fk f) (ifk k zz z) (ifk k yy y) (ifk k q N) (ifk k t1 bt) (ifk k c1 ct) (ifk k u1 bw) (ifk k c2 cw) W' := by
  have hav := h.trn.size
  have hlo := h.lo
  have hvX := hT.size
  have old : ∀ g, a.heap.size ≤ g → g < v.heap.size → rv.ownBlock ≠ some g → W'.heap[g]? = v.heap[g]? := fun g e1 e2 e3 => ((hg.block g (by simp; omega) (fun e => e3 e.symm)).trans (alloc_old X o (by omega))).trans (hT.block g e2 (by omega))
  have new : ∀ g, v.heap.size ≤ g → g < X.heap.size → W'.heap[g]? = X.heap[g]? := fun g e1 e2 => (hg.block g (by simp; omega) (fun e => by have := (h.row.lt g e.symm).2; omega)).trans (alloc_old X o e2)
  have n1 : W'.ownsRow a.heap.size 3 1 (.slice (some ⟨t1, 0, none⟩) q c1) q (intL zz q) := row_lower (row_block h1 (fun g hg2 => new g (h1.lt g hg2).1 (h1.lt g hg2).2)) hav
  have n2 : W'.ownsRow a.heap.size 3 1 (.slice (some ⟨u1, 0, none⟩) q c2) q (intL yy q) := row_lower (row_block h2 (fun g hg2 => new g (h2.lt g hg2).1 (h2.lt g hg2).2)) hav
  have lt1 := (h1.lt t1 rfl).1
  have lt2 := (h2.lt u1 rfl).1
  refine ⟨hc.low ?_ ?_, ((h.trn.trans hT).alloc o).grown hg (fun r e => (h.row.lt r e).1), hlo, ?_, fun j hj => ?_, fun j hj => ?_, fun j hj => ?_, fun i j hi hj => ?_, fun j hj => ?_⟩
  · have := hg.size; simp at this; omega
  · intro g hgb
    exact (hg.block g (by have := hc.lt; simp; omega) (fun e => by have := (h.row.lt g e.symm).1; omega)).trans (alloc_old X o (by have := hc.lt; omega))
  · rw [show tri (ifk k fk f) (tvs (ifk k t1 bt) (ifk k c1 ct) (ifk k q N)) (tvs (ifk k u1 bw) (ifk k c2 cw) (ifk k q N)) (k + 1) = tri f (tvs bt ct N) (tvs bw cw N) k ++ [.int .i64 fk, .slice (some ⟨t1, 0, none⟩) q c1, .slice (some ⟨u1, 0, none⟩) q c2] from ?_]
    · exact hown
    · simp only [tri, tvs, ifk_eq]
      congr 1
      exact tri_congr (fun j hj => by simp only [tvs, ifk_ne _ _ (show j ≠ k by omega)]; exact ⟨trivial, trivial, trivial⟩)
  · by_cases e : j = k
    · subst e; simp only [tvs, ifk_eq]; exact n1
    · simp only [tvs, ifk_ne _ _ e]
      have hj2 := h.t j (by omega)
      exact row_block hj2 (fun g hg2 => old g (hj2.lt g hg2).1 (hj2.lt g hg2).2 (own_ne hj2 h.row hg2))
  · by_cases e : j = k
    · subst e; simp only [tvs, ifk_eq]; exact n2
    · simp only [tvs, ifk_ne _ _ e]
      have hj2 := h.u j (by omega)
      exact row_block hj2 (fun g hg2 => old g (hj2.lt g hg2).1 (hj2.lt g hg2).2 (own_ne hj2 h.row hg2))
  · by_cases e : j = k
    · subst e; simp only [ifk_eq]; exact hne
    · simp only [ifk_ne _ _ e]; exact h.ne j (by omega)
  · have e2 : i ≠ k := by omega
    by_cases e : j = k
    · subst e
      simp only [ifk_eq, ifk_ne _ _ e2]
      have a1 := ((h.t i (by omega)).lt (bt i) rfl).2
      have a2 := ((h.u i (by omega)).lt (bw i) rfl).2
      omega
    · simp only [ifk_ne _ _ e, ifk_ne _ _ e2]; exact h.inc i j hi (by omega)
  · by_cases e : j = k
    · subst e; simp only [ifk_eq]; exact hq
    · simp only [ifk_ne _ _ e]; exact h.pos j (by omega)
end
/-- One rule that is being drawn: its box, its places. -/
structure EQ (v : World) (b : Nat) (fk : Int) (ta : Option Addr) (q tc : Nat) (z : Nat → Int) (X : World) : Prop where
  cur : Cursor X b
  trn : Turns b v X
  lo : b < v.heap.size
  box : CB X v.heap.size #[.int .i64 fk, .slice ta q tc, .slice none 0 0] 36
  row : X.ownsRow v.heap.size 3 1 (.slice ta q tc) q (intL z q)
section
variable {v X X' : World} {b : Nat} {fk : Int} {ta ta' : Option Addr} {q tc tc' : Nat} {z : Nat → Int}
theorem EQ.new (hc : Cursor v b) (fk : Int) : EQ v b fk none 0 0 (fun _ => 0) (v.alloc (.cells #[.int .i64 fk, .slice none 0 0, .slice none 0 0] 36 (0, 0))) := ⟨hc.alloc _, (Turns.refl _ _).alloc _, hc.lt, CB.new _ _, World.ownsRow_nil _ _ _ _⟩
theorem EQ.moved (h : EQ v b fk ta q tc z X) (m : Moved b X X') : EQ v b fk ta q tc z X' :=
  ⟨m.1, h.trn.trans m.2, h.lo, h.box.keep (m.2.block _ h.box.lt (by have := h.lo; omega)), row_block h.row (fun g hg => m.2.block g (h.row.lt g hg).2 (by have := (h.row.lt g hg).1; have := h.lo; omega))⟩
theorem EQ.app {o : Obj} {x : Int} (h : EQ v b fk ta q tc z X) (hown : X'.ownsRow v.heap.size 3 1 (.slice ta' (q + 1) tc') (q + 1) (intL z q ++ [.int .i64 x])) (hg : (X.alloc o).grownBy X' (Value.slice ta q tc).ownBlock) : EQ v b fk ta' (q + 1) tc' (upd z q x) (X'.setCell ⟨v.heap.size, 1, none⟩ (.slice ta' (q + 1) tc')) := by
  have hlo := h.lo
  have hX := h.box.lt
  have hb : CB X' v.heap.size #[.int .i64 fk, .slice ta q tc, .slice none 0 0] 36 := h.box.keep ((hg.block _ (by simp; omega) (h.box.ne h.row (by decide))).trans (alloc_old X o hX))
  have hne := hb.ne hown (by decide)
  have hc : Cursor X' b := (h.cur.alloc o).grown hg (fun r e => by have := (h.row.lt r e).1; omega)
  refine ⟨hc.low (by simp [World.setCell]) (fun g hgb => heap_set (by omega)), ?_, hlo, (hb.set 1 _), ?_⟩
  · have ht : Turns b v X' := (h.trn.alloc o).grown hg (fun r e => (h.row.lt r e).1)
    exact ⟨ht.os, ht.tape, ht.output, by simpa [World.setCell] using ht.size, fun g h1 h2 => (heap_set (by omega)).trans (ht.block g h1 h2)⟩
  · rw [intL_snoc]
    exact row_block hown (fun g hg2 => heap_set (fun e => hne (by rw [hg2, e])))
end
end Go.Proofs.Ytjlniinahfgakaa
