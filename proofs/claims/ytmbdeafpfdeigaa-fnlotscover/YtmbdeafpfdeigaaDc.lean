/- Draws of making: an item in the making, beside a cursor. -/
import Derived.Test.YtmbdeafpfdeigaaDa
import Derived.Test.YtmbdeafpfdeigaaDb
import Derived.Test.YtmbdeafpfdeigaaPc
import Derived.Test.YtmbdeafpfdeigaaIt
namespace Go.Proofs.Ytmbdeafpfdeigaa
open Go Go.ChangeShapes Go.WideShapes Go.ChangeAt Go.RowKit
set_option linter.unusedVariables false
set_option linter.unusedSimpArgs false

theorem oper_append {P : Program} {w : World} {o : Oper} {a : Act} {K : Act → World → Prop} {Q : Exit → Act → World → Prop} (s x : Operand) (t : TypeId)
    (ho : o.op = .call { callee := .builtin .append, args := #[s, x], argTypes := #[t, t] })
    (base : Nat) (e : TypeId) (i : TypeInfo) (z : Value) (size bytes : Nat) (ht : P.underlying t = some (.slice e)) (hi : P.info? e = some i) (hz : i.zero = some z)
    (hsize : i.size = size) (hby : i.bytes = bytes) (hzs : z.cells.size = size) (hsz : 0 < size)
    (v : Value) (n : Nat) (xs : List Value) (hs : a.eval s = v) (hown : w.ownsRow base e size v n xs)
    (ad : Addr) (m c : Nat) (news : List Value) (hx : a.eval x = .slice (some ad) m c) (hl : news.length = m * size) (hnews : ∀ j u, news[j]? = some u → w.cell? (ad.add j) = some u) (h1 : ∀ u ∈ news, u.oneCell' = true)
    (h63 : n + m ≤ maxLen) (hbytes : (n + m) * bytes ≤ 140737488355328) (hbase : base ≤ w.heap.size)
    (h : ∀ v' w', w'.ownsRow base e size v' (n + m) (xs ++ news) → w.grownBy w' v.ownBlock → (v'.ownBlock = v.ownBlock ∨ v'.ownBlock = some w.heap.size) → K (a.put o.dst v') w') :
    Oper.wp P o a w K Q := by
  obtain ⟨v', w', hr, h2, h3, h4, h5⟩ := run_append_own_at (P := P) w base t o.type e i z size bytes ht hi hz hsize hby hzs hsz v n xs hown ad m c news hl hnews h1 h63 hbytes hbase
  unfold Oper.wp execOp
  simp only [ho, resolve, invoke, builtin, Sem.run_bind, Sem.run_pure, Result.andThen_ok, List.map_toArray, List.map_cons, List.map_nil, hs, hx, hr]
  exact h v' w' h2 h3 h5
theorem Moved.grown {b : Nat} {w W W' : World} {row : Option Nat} (h : Moved b w W) (hb : b < w.heap.size) (g : W.grownBy W' row) (hr : ∀ k, row = some k → w.heap.size ≤ k) : Moved b w W' :=
  ⟨h.1.grown g (fun k e => by have := hr k e; omega), h.2.grown g hr⟩
theorem grown_block {W W' : World} {row : Option Nat} (g : W.grownBy W' row) {k : Nat} (hk : k < W.heap.size) (hr : row ≠ some k) : W'.heap[k]? = W.heap[k]? := g.block k hk (fun e => hr e.symm)
/-- An item in the making: its own box; its parts in a row of their own, or none yet. -/
structure IX (b : Nat) (w : World) (xb : Nat) (nm : ByteArray) (ba : Int) (ph : Bool) (pv : Value) (pn : Nat) (pz : Nat → PA6) (W : World) : Prop where
  m : Moved b w W
  x : CB W xb #[.string nm, .int .i64 ba, .bool ph, pv, .slice none 0 0] 31
  p : W.ownsRow w.heap.size 28 6 pv pn (rowPA6 pz pn)
  lo : b < w.heap.size ∧ w.heap.size ≤ xb
section
variable {b : Nat} {w W W' : World} {xb : Nat} {nm : ByteArray} {ba : Int} {ph : Bool} {pv : Value} {pn : Nat} {pz : Nat → PA6}
theorem IX.turn (h : IX b w xb nm ba ph pv pn pz W) (k : Moved b W W') : IX b w xb nm ba ph pv pn pz W' := by
  have := h.lo
  refine ⟨h.m.trans k, h.x.turns k.2 (by omega), arow_block h.p (fun g hg => ?_), h.lo⟩
  obtain ⟨g1, g2⟩ := h.p.lt g hg
  exact k.2.block g g2 (by omega)
theorem IX.alloc (h : IX b w xb nm ba ph pv pn pz W) (o : Obj) : IX b w xb nm ba ph pv pn pz (W.alloc o) := h.turn ((Moved.refl h.m.1).alloc o)
theorem IX.drew (h : IX b w xb nm ba ph pv pn pz W) : IX b w xb nm ba ph pv pn pz W.drew := h.turn (Moved.refl h.m.1).drew
/-- The row's block is not the item's box. -/
theorem IX.apart (h : IX b w xb nm ba ph pv pn pz W) : pv.ownBlock ≠ some xb := by
  rcases h.p.2 with ⟨e, _⟩ | ⟨g, cap, cur, e, _, hg, _⟩
  · rw [e]; simp [Value.ownBlock]
  · rw [e]
    intro q
    simp [Value.ownBlock] at q
    subst q
    have := h.x
    unfold CB at this
    rw [hg] at this
    simp at this
theorem IX.box (h : IX b w xb nm ba ph pv pn pz W) {W3 : World} (hgr : W.grownBy W3 pv.ownBlock) : CB W3 xb #[.string nm, .int .i64 ba, .bool ph, pv, .slice none 0 0] 31 := by
  unfold CB; rw [grown_block hgr h.x.lt h.apart]; exact h.x
/-- Behind an append to its parts, and the store of it. -/
theorem IX.add (h : IX b w xb nm ba ph pv pn pz W) {v7 : Value} {W3 : World} {x : PA6} (hown : W3.ownsRow w.heap.size 28 6 v7 (pn + 1) (rowPA6 pz pn ++ [.int .i64 x.item, .int .i64 x.qty, .int .i64 x.scr, .int .i64 x.fst, .int .i64 x.lst, .int .i64 x.grp])) (hgr : W.grownBy W3 pv.ownBlock) : IX b w xb nm ba ph v7 (pn + 1) (fun j => if j = pn then x else pz j) (W3.setCell ⟨xb, 3, none⟩ v7) := by
  have hlo := h.lo
  have hx3 : CB W3 xb #[.string nm, .int .i64 ba, .bool ph, pv, .slice none 0 0] 31 := by
    unfold CB; rw [grown_block hgr h.x.lt h.apart]; exact h.x
  have hrow : rowPA6 (fun j => if j = pn then x else pz j) (pn + 1) = rowPA6 pz pn ++ [.int .i64 x.item, .int .i64 x.qty, .int .i64 x.scr, .int .i64 x.fst, .int .i64 x.lst, .int .i64 x.grp] := by
    have e : ∀ k, k ≤ pn → rowPA6 (fun j => if j = pn then x else pz j) k = rowPA6 pz k := fun k => by
      induction k with
      | zero => intro _; rfl
      | succ k ih => intro hk; show rowPA6 _ k ++ _ = rowPA6 _ k ++ _; rw [ih (by omega)]; simp only [show ¬ k = pn by omega, if_false]
    show rowPA6 _ pn ++ _ = _
    rw [e pn (Nat.le_refl _)]
    simp
  have hap : v7.ownBlock ≠ some xb := by
    obtain ⟨g, cap, e, _⟩ := ownsRow_some hown (by omega)
    rcases hown.2 with ⟨_, e2⟩ | ⟨g2, cap2, cur, e2, _, hg, _⟩
    · omega
    · rw [e2]
      intro q
      simp [Value.ownBlock] at q
      subst q
      have := hx3
      unfold CB at this
      rw [hg] at this
      simp at this
  refine ⟨(h.m.grown hlo.1 hgr (fun k e => (h.p.lt k e).1)).setHigh hlo.1 hlo.2 _ _, hx3.set 3 v7, ?_, hlo⟩
  rw [hrow]
  exact arow_block hown (fun g hg => Below.heap_setCell _ _ _ _ (by simp; intro e; subst e; exact hap hg))
end
/-- An item as it lies in a row: its words, and what its two slices hold. -/
structure IV where
  nm : ByteArray
  ba : Int
  ph : Bool
  pv : Value
  pn : Nat
  pz : Nat → PA6
  sv : Value
  sn : Nat
  sz : Nat → PA6
def rowIV (c : Nat → IV) : Nat → List Value
  | 0 => []
  | k + 1 => rowIV c k ++ [.string (c k).nm, .int .i64 (c k).ba, .bool (c k).ph, (c k).pv, (c k).sv]
theorem rowIV_len (c : Nat → IV) : ∀ n, (rowIV c n).length = n * 5
  | 0 => rfl
  | n + 1 => by simp [rowIV, rowIV_len c n]; omega
def addIV (c : Nat → IV) (k : Nat) (x : IV) (j : Nat) : IV := if j = k then x else c j
theorem rowIV_add (c : Nat → IV) (k : Nat) (x : IV) : rowIV (addIV c k x) (k + 1) = rowIV c k ++ [.string x.nm, .int .i64 x.ba, .bool x.ph, x.pv, x.sv] := by
  have e : ∀ q, q ≤ k → rowIV (addIV c k x) q = rowIV c q := fun q => by
    induction q with
    | zero => intro _; rfl
    | succ q ih => intro hq; show rowIV _ q ++ _ = rowIV _ q ++ _; rw [ih (by omega)]; simp only [addIV, show ¬ q = k by omega, if_false]
  show rowIV _ k ++ _ = _
  rw [e k (Nat.le_refl _)]
  simp [addIV]
/-- An item's two rows in memory, in blocks from base on. -/
structure IW (base : Nat) (x : IV) (W : World) : Prop where
  p : W.ownsRow base 28 6 x.pv x.pn (rowPA6 x.pz x.pn)
  s : W.ownsRow base 28 6 x.sv x.sn (rowPA6 x.sz x.sn)
  sz : x.nm.size ≤ 20 ∧ x.pn ≤ 4 ∧ x.sn ≤ 1
/-- Items drawn so far, beside the cursor. -/
structure OX (b : Nat) (w : World) (v : Value) (k : Nat) (c : Nat → IV) (W : World) : Prop where
  m : Moved b w W
  o : W.ownsRow w.heap.size 31 5 v k (rowIV c k)
  r : ∀ j, j < k → IW w.heap.size (c j) W
  lo : b < w.heap.size
  ap : ∀ i j g, i < k → j < k → (c i).pv.ownBlock = some g → (i ≠ j → (c j).pv.ownBlock ≠ some g) ∧ (c j).sv.ownBlock ≠ some g
section
variable {b base : Nat} {w W W' : World} {v : Value} {k : Nat} {c : Nat → IV} {x : IV}
theorem IW.turn (h : IW base x W) (hb : b < base) (t : Turns b W W') : IW base x W' := by
  refine ⟨arow_block h.p (fun g hg => ?_), arow_block h.s (fun g hg => ?_), h.sz⟩
  · obtain ⟨g1, g2⟩ := h.p.lt g hg; exact t.block g g2 (by omega)
  · obtain ⟨g1, g2⟩ := h.s.lt g hg; exact t.block g g2 (by omega)
theorem OX.turn (h : OX b w v k c W) (m : Moved b W W') : OX b w v k c W' := by
  have := h.lo
  refine ⟨h.m.trans m, arow_block h.o (fun g hg => ?_), fun j hj => (h.r j hj).turn h.lo m.2, h.lo, h.ap⟩
  obtain ⟨g1, g2⟩ := h.o.lt g hg
  exact m.2.block g g2 (by omega)
/-- A row of parts whose block lies elsewhere stays behind an append to the items. -/
theorem part_apart {row : Value} {n n2 : Nat} {xs : List Value} {zs : List Value} {base base2 : Nat} (h : W.ownsRow base 28 6 v n xs) (h2 : W.ownsRow base2 31 5 row n2 zs) : ∀ g, v.ownBlock = some g → row.ownBlock ≠ some g := by
  intro g hg
  rcases h.2 with ⟨e, _⟩ | ⟨g1, _, _, e, _, hg1, _⟩
  · rw [e] at hg; simp [Value.ownBlock] at hg
  · rw [e] at hg
    simp [Value.ownBlock] at hg
    subst hg
    rcases h2.2 with ⟨e2, _⟩ | ⟨g2, _, _, e2, _, hg2, _⟩
    · rw [e2]; simp [Value.ownBlock]
    · rw [e2]
      intro q
      simp [Value.ownBlock] at q
      subst q
      rw [hg1] at hg2
      simp at hg2
theorem OX.add (h : OX b w v k c W) (hx : IW w.heap.size x W) {v7 : Value} (hown : W'.ownsRow w.heap.size 31 5 v7 (k + 1) (rowIV c k ++ [.string x.nm, .int .i64 x.ba, .bool x.ph, x.pv, x.sv])) (hgr : W.grownBy W' v.ownBlock) (B : Nat) (hold : ∀ j g, j < k → ((c j).pv.ownBlock = some g ∨ (c j).sv.ownBlock = some g) → g < B) (hnew : ∀ g, (x.pv.ownBlock = some g ∨ x.sv.ownBlock = some g) → B ≤ g) (hself : ∀ g, x.pv.ownBlock = some g → x.sv.ownBlock ≠ some g) : OX b w v7 (k + 1) (addIV c k x) W' := by
  have hk : ∀ y : IV, IW w.heap.size y W → IW w.heap.size y W' := fun y hy => by
    refine ⟨arow_block hy.p (fun g hg => ?_), arow_block hy.s (fun g hg => ?_), hy.sz⟩
    · exact grown_block hgr (hy.p.lt g hg).2 (part_apart hy.p h.o g hg)
    · exact grown_block hgr (hy.s.lt g hg).2 (part_apart hy.s h.o g hg)
  refine ⟨h.m.grown h.lo hgr (fun q e => (h.o.lt q e).1), by rw [rowIV_add]; exact hown, fun j hj => ?_, h.lo, fun i j g hi hj => ?_⟩
  · unfold addIV
    split
    · exact hk x hx
    · exact hk _ (h.r j (by omega))
  · unfold addIV
    by_cases e1 : i = k
    · by_cases e2 : j = k
      · simp only [e1, e2, if_true]
        exact fun q => ⟨fun e => absurd rfl e, hself g q⟩
      · simp only [e1, e2, if_true, if_false]
        intro q
        have h1 := hnew g (.inl q)
        exact ⟨fun _ e => by have := hold j g (by omega) (.inl e); omega, fun e => by have := hold j g (by omega) (.inr e); omega⟩
    · by_cases e2 : j = k
      · simp only [e1, e2, if_true, if_false]
        intro q
        have h1 := hold i g (by omega) (.inl q)
        exact ⟨fun _ e => by have := hnew g (.inl e); omega, fun e => by have := hnew g (.inr e); omega⟩
      · simp only [e1, e2, if_false]
        exact h.ap i j g (by omega) (by omega)
end
theorem own_form {W : World} {base n s : Nat} {t : TypeId} {v : Value} {xs : List Value} (h : W.ownsRow base t s v n xs) : ∃ ad cap, v = .slice ad n cap := by
  rcases h.2 with ⟨e, e2⟩ | ⟨g, cap, cur, e, _⟩
  · exact ⟨none, 0, by rw [e, e2]⟩
  · exact ⟨_, _, e⟩
theorem own_lower {W : World} {base base2 n s : Nat} {t : TypeId} {v : Value} {xs : List Value} (h : W.ownsRow base t s v n xs) (hb : base2 ≤ base) : W.ownsRow base2 t s v n xs := by
  refine ⟨h.1, ?_⟩
  rcases h.2 with e | ⟨g, cap, cur, e, h1, h2⟩
  · exact .inl e
  · exact .inr ⟨g, cap, cur, e, by omega, h2⟩
/-- An item in the making, what comes out beside with it. -/
structure JX (b : Nat) (w : World) (xb : Nat) (it : IV) (W : World) : Prop where
  m : Moved b w W
  x : CB W xb #[.string it.nm, .int .i64 it.ba, .bool it.ph, it.pv, it.sv] 31
  p : W.ownsRow w.heap.size 28 6 it.pv it.pn (rowPA6 it.pz it.pn)
  s : W.ownsRow w.heap.size 28 6 it.sv it.sn (rowPA6 it.sz it.sn)
  lo : b < w.heap.size ∧ w.heap.size ≤ xb
  ap : ∀ g, it.pv.ownBlock = some g → it.sv.ownBlock ≠ some g
section
variable {b : Nat} {w W W' : World} {xb : Nat} {nm : ByteArray} {ba : Int} {ph : Bool} {pv sv : Value} {pn sn : Nat} {pz sz : Nat → PA6}
theorem IX.jx (h : IX b w xb nm ba ph pv pn pz W) (z : Nat → PA6) : JX b w xb ⟨nm, ba, ph, pv, pn, pz, .slice none 0 0, 0, z⟩ W := ⟨h.m, h.x, h.p, ⟨rfl, .inl ⟨rfl, rfl⟩⟩, h.lo, fun g _ => by simp [Value.ownBlock]⟩
theorem JX.turn {x : IV} (h : JX b w xb x W) (k : Moved b W W') : JX b w xb x W' := by
  have := h.lo
  refine ⟨h.m.trans k, h.x.turns k.2 (by omega), arow_block h.p (fun g hg => ?_), arow_block h.s (fun g hg => ?_), h.lo, h.ap⟩
  · obtain ⟨g1, g2⟩ := h.p.lt g hg; exact k.2.block g g2 (by omega)
  · obtain ⟨g1, g2⟩ := h.s.lt g hg; exact k.2.block g g2 (by omega)
theorem row_box {base n : Nat} {v : Value} {xs : List Value} {cs : Array Value} (h : W.ownsRow base 28 6 v n xs) (hx : CB W xb cs 31) : v.ownBlock ≠ some xb := by
  rcases h.2 with ⟨e, _⟩ | ⟨g, cap, cur, e, _, hg, _⟩
  · rw [e]; simp [Value.ownBlock]
  · rw [e]
    intro q
    simp [Value.ownBlock] at q
    subst q
    unfold CB at hx
    rw [hg] at hx
    simp at hx
theorem JX.setPh (h : JX b w xb ⟨nm, ba, ph, pv, pn, pz, sv, sn, sz⟩ W) (v : Bool) : JX b w xb ⟨nm, ba, v, pv, pn, pz, sv, sn, sz⟩ (W.setCell ⟨xb, 2, none⟩ (.bool v)) := by
  refine ⟨h.m.setHigh h.lo.1 h.lo.2 _ _, h.x.set 2 (.bool v), arow_block h.p (fun g hg => Below.heap_setCell _ _ _ _ ?_), arow_block h.s (fun g hg => Below.heap_setCell _ _ _ _ ?_), h.lo, h.ap⟩
  · have := row_box h.p h.x; simp; intro e; subst e; exact this hg
  · have := row_box h.s h.x; simp; intro e; subst e; exact this hg
theorem JX.box (h : JX b w xb ⟨nm, ba, ph, pv, pn, pz, .slice none 0 0, sn, sz⟩ W) {W3 : World} (hgr : W.grownBy W3 (Value.ownBlock (.slice none 0 0))) : CB W3 xb #[.string nm, .int .i64 ba, .bool ph, pv, .slice none 0 0] 31 := by
  unfold CB; rw [grown_block hgr h.x.lt (by simp [Value.ownBlock])]; exact h.x
theorem JX.also (h : JX b w xb ⟨nm, ba, ph, pv, pn, pz, .slice none 0 0, 0, sz⟩ W) {v7 : Value} {W3 : World} {x : PA6} (hown : W3.ownsRow w.heap.size 28 6 v7 (0 + 1) ([] ++ [.int .i64 x.item, .int .i64 x.qty, .int .i64 x.scr, .int .i64 x.fst, .int .i64 x.lst, .int .i64 x.grp])) (hgr : W.grownBy W3 (Value.ownBlock (.slice none 0 0))) (hloc : v7.ownBlock = Value.ownBlock (.slice none 0 0) ∨ v7.ownBlock = some W.heap.size) : JX b w xb ⟨nm, ba, ph, pv, pn, pz, v7, 1, fun _ => x⟩ (W3.setCell ⟨xb, 4, none⟩ v7) := by
  have hlo := h.lo
  have hx3 := h.box hgr
  have hp3 : W3.ownsRow w.heap.size 28 6 pv pn (rowPA6 pz pn) := arow_block h.p (fun g hg => grown_block hgr (h.p.lt g hg).2 (by simp [Value.ownBlock]))
  refine ⟨(h.m.grown hlo.1 hgr (fun k e => by simp [Value.ownBlock] at e)).setHigh hlo.1 hlo.2 _ _, hx3.set 4 v7, arow_block hp3 (fun g hg => Below.heap_setCell _ _ _ _ ?_), arow_block hown (fun g hg => Below.heap_setCell _ _ _ _ ?_), hlo, fun g hg => ?_⟩
  · have := row_box hp3 hx3; simp; intro e; subst e; exact this hg
  · have := row_box hown hx3; simp; intro e; subst e; exact this hg
  · have g1 := (h.p.lt g hg).2
    show v7.ownBlock ≠ some g
    rcases hloc with e | e
    · rw [e]; simp [Value.ownBlock]
    · rw [e]; intro q; injection q with q; omega
theorem JX.iw {x : IV} {base : Nat} (h : JX b w xb x W) (hb : base ≤ w.heap.size) (hz : x.nm.size ≤ 20 ∧ x.pn ≤ 4 ∧ x.sn ≤ 1) : IW base x W := ⟨own_lower h.p hb, own_lower h.s hb, hz⟩
theorem JX.cells (h : JX b w xb ⟨nm, ba, ph, pv, pn, pz, sv, sn, sz⟩ W) : (W.cell? ⟨xb, 0, none⟩ = some (.string nm) ∧ W.cell? ⟨xb, 1, none⟩ = some (.int .i64 ba) ∧ W.cell? ⟨xb, 2, none⟩ = some (.bool ph) ∧ W.cell? ⟨xb, 3, none⟩ = some pv ∧ W.cell? ⟨xb, 4, none⟩ = some sv) ∧ ∀ o, W.frozen? ⟨xb, o, none⟩ = false :=
  ⟨⟨(h.x.cell 0).trans rfl, (h.x.cell 1).trans rfl, (h.x.cell 2).trans rfl, (h.x.cell 3).trans rfl, (h.x.cell 4).trans rfl⟩, fun o => h.x.fr o⟩
end
end Go.Proofs.Ytmbdeafpfdeigaa
