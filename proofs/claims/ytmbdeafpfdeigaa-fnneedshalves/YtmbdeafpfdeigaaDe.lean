/- Draws of making: rows of items that are spoiled: a word stored, a part's number stored. -/
import Derived.Test.YtmbdeafpfdeigaaDc
namespace Go.Proofs.Ytmbdeafpfdeigaa
open Go Go.ChangeShapes Go.WideShapes Go.ChangeAt Go.RowKit
set_option linter.unusedVariables false
set_option linter.unusedSimpArgs false

def fiveIV (x : IV) : List Value := [.string x.nm, .int .i64 x.ba, .bool x.ph, x.pv, x.sv]
theorem rowIV_five (c : Nat → IV) (k : Nat) : rowIV c (k + 1) = rowIV c k ++ fiveIV (c k) := rfl
theorem rowIV_same {c d : Nat → IV} : ∀ n, (∀ j, j < n → c j = d j) → rowIV c n = rowIV d n
  | 0, _ => rfl
  | n + 1, h => by rw [rowIV_five, rowIV_five, rowIV_same n (fun j hj => h j (by omega)), h n (by omega)]
theorem rowIV_set {c : Nat → IV} {k t : Nat} {u : Value} {x : IV} (h : (fiveIV (c k)).set t u = fiveIV x) (ht : t < 5) : ∀ n, k < n → (rowIV c n).set (k * 5 + t) u = rowIV (addIV c k x) n
  | 0, hk => by omega
  | n + 1, hk => by
    rw [rowIV_five, rowIV_five]
    have hl := rowIV_len c n
    by_cases e : k = n
    · subst e
      rw [List.set_append_right _ _ (by omega), show k * 5 + t - (rowIV c k).length = t by omega, h, rowIV_same (d := addIV c k x) k (fun j hj => by simp only [addIV, show ¬ j = k by omega, if_false])]
      simp only [addIV, if_true]
    · rw [List.set_append_left _ _ (by omega), rowIV_set h ht n (by omega)]
      simp only [addIV, show ¬ n = k by omega, if_false]
theorem rowPA6_setx {z : Nat → PA6} {y : Int} {o : Nat} : ∀ n, o < n * 6 → ∃ z', (rowPA6 z n).set o (.int .i64 y) = rowPA6 z' n
  | 0, h => by omega
  | n + 1, h => by
    have hl := rowPA6_len z n
    by_cases e : o < n * 6
    · obtain ⟨z1, h1⟩ := rowPA6_setx (z := z) (y := y) (o := o) n e
      refine ⟨fun j => if j = n then z n else z1 j, ?_⟩
      have e2 : ∀ q, q ≤ n → rowPA6 (fun j => if j = n then z n else z1 j) q = rowPA6 z1 q := fun q => by
        induction q with
        | zero => intro _; rfl
        | succ q ih => intro hq; show rowPA6 _ q ++ _ = rowPA6 _ q ++ _; rw [ih (by omega)]; simp only [show ¬ q = n by omega, if_false]
      show (rowPA6 z n ++ _).set o _ = rowPA6 _ n ++ _
      rw [List.set_append_left _ _ (by omega), h1, e2 n (Nat.le_refl _)]
      simp
    · obtain ⟨t, ht⟩ : ∃ t, o = n * 6 + t := ⟨o - n * 6, by omega⟩
      have ht6 : t < 6 := by omega
      have e2 : ∀ (x : PA6) q, q ≤ n → rowPA6 (fun j => if j = n then x else z j) q = rowPA6 z q := fun x q => by
        induction q with
        | zero => intro _; rfl
        | succ q ih => intro hq; show rowPA6 _ q ++ _ = rowPA6 _ q ++ _; rw [ih (by omega)]; simp only [show ¬ q = n by omega, if_false]
      have key : ∃ x : PA6, [Value.int .i64 (z n).item, .int .i64 (z n).qty, .int .i64 (z n).scr, .int .i64 (z n).fst, .int .i64 (z n).lst, .int .i64 (z n).grp].set t (.int .i64 y) = [Value.int .i64 x.item, .int .i64 x.qty, .int .i64 x.scr, .int .i64 x.fst, .int .i64 x.lst, .int .i64 x.grp] := by
        rcases (show t = 0 ∨ t = 1 ∨ t = 2 ∨ t = 3 ∨ t = 4 ∨ t = 5 by omega) with rfl | rfl | rfl | rfl | rfl | rfl
        · exact ⟨⟨y, (z n).qty, (z n).scr, (z n).fst, (z n).lst, (z n).grp⟩, rfl⟩
        · exact ⟨⟨(z n).item, y, (z n).scr, (z n).fst, (z n).lst, (z n).grp⟩, rfl⟩
        · exact ⟨⟨(z n).item, (z n).qty, y, (z n).fst, (z n).lst, (z n).grp⟩, rfl⟩
        · exact ⟨⟨(z n).item, (z n).qty, (z n).scr, y, (z n).lst, (z n).grp⟩, rfl⟩
        · exact ⟨⟨(z n).item, (z n).qty, (z n).scr, (z n).fst, y, (z n).grp⟩, rfl⟩
        · exact ⟨⟨(z n).item, (z n).qty, (z n).scr, (z n).fst, (z n).lst, y⟩, rfl⟩
      obtain ⟨x, hx⟩ := key
      refine ⟨fun j => if j = n then x else z j, ?_⟩
      show (rowPA6 z n ++ _).set o _ = rowPA6 _ n ++ _
      rw [List.set_append_right _ _ (by omega), show o - (rowPA6 z n).length = t by omega, hx, e2 x n (Nat.le_refl _)]
      simp
/-- An item's two rows, whatever their numbers. -/
structure SW (base : Nat) (x : IV) (W : World) : Prop where
  p : ∃ z, W.ownsRow base 28 6 x.pv x.pn (rowPA6 z x.pn)
  s : ∃ z, W.ownsRow base 28 6 x.sv x.sn (rowPA6 z x.sn)
  sz : x.nm.size ≤ 40 ∧ x.pn ≤ 5 ∧ x.sn ≤ 1
structure SX (b : Nat) (w : World) (v : Value) (n : Nat) (c : Nat → IV) (W : World) : Prop where
  m : Moved b w W
  o : W.ownsRow w.heap.size 31 5 v n (rowIV c n)
  r : ∀ j, j < n → SW w.heap.size (c j) W
  lo : b < w.heap.size
section
variable {b base : Nat} {w W W' : World} {v : Value} {n : Nat} {c : Nat → IV} {x : IV}
theorem OX.sx (h : OX b w v n c W) : SX b w v n c W := ⟨h.m, h.o, fun j hj => ⟨⟨_, (h.r j hj).p⟩, ⟨_, (h.r j hj).s⟩, by have := (h.r j hj).sz; omega⟩, h.lo⟩
theorem SW.keep (h : SW base x W) (hk : ∀ g, base ≤ g → g < W.heap.size → (x.pv.ownBlock = some g ∨ x.sv.ownBlock = some g) → W'.heap[g]? = W.heap[g]?) : SW base x W' := by
  obtain ⟨⟨z1, h1⟩, ⟨z2, h2⟩, h3⟩ := h
  exact ⟨⟨z1, arow_block h1 (fun g hg => hk g (h1.lt g hg).1 (h1.lt g hg).2 (.inl hg))⟩, ⟨z2, arow_block h2 (fun g hg => hk g (h2.lt g hg).1 (h2.lt g hg).2 (.inr hg))⟩, h3⟩
theorem SX.turn (h : SX b w v n c W) (m : Moved b W W') : SX b w v n c W' := by
  have := h.lo
  refine ⟨h.m.trans m, arow_block h.o (fun g hg => ?_), fun j hj => (h.r j hj).keep (fun g g1 g2 _ => m.2.block g g2 (by omega)), h.lo⟩
  obtain ⟨g1, g2⟩ := h.o.lt g hg
  exact m.2.block g g2 (by omega)
/-- A part's number stored, wherever it lies. -/
theorem row_store {pg o : Nat} {y : Int} {vv : Value} {m : Nat} (h : ∃ z, W.ownsRow base 28 6 vv m (rowPA6 z m)) : ∃ z, (W.setCell ⟨pg, o, none⟩ (.int .i64 y)).ownsRow base 28 6 vv m (rowPA6 z m) := by
  obtain ⟨z, h⟩ := h
  obtain ⟨ad, cap, rfl⟩ := own_form h
  rcases ad with _ | ⟨g, of, sp⟩
  · rcases h.2 with e | ⟨g, cap2, cur, e, _⟩
    · exact ⟨z, h.1, .inl e⟩
    · simp at e
  · have h2 := h
    rcases h.2 with ⟨e, _⟩ | ⟨g2, cap2, cur, e, hb, hg, hc1, hc2, hc3, hc4⟩
    · simp at e
    · simp only [Value.slice.injEq, Option.some.injEq, Addr.mk.injEq] at e
      obtain ⟨⟨rfl, rfl, rfl⟩, _, rfl⟩ := e
      by_cases e3 : g = pg
      · subst e3
        by_cases ho : o < m * 6
        · obtain ⟨z', hz⟩ := rowPA6_setx (z := z) (y := y) m ho
          exact ⟨z', by rw [← hz]; exact own_set h2 o _ ho⟩
        · have hs := CB.set (w := W) hg o (.int .i64 y)
          refine ⟨z, h2.1, .inr ⟨g, cap, cur.setIfInBounds o (.int .i64 y), rfl, hb, hs, hc1, hc2, by simpa using hc3, ?_⟩⟩
          rw [← hc4]
          simp only [Array.toList_setIfInBounds]
          rw [List.take_set_of_le (by omega)]
      · exact ⟨z, arow_block h2 (fun q hq => Below.heap_setCell _ _ _ _ (by simp [Value.ownBlock] at hq; subst hq; simpa using e3))⟩
/-- A word of an item stored in the row's own block. -/
theorem SX.word {g cap k t : Nat} {u : Value} (h : SX b w (.slice (some ⟨g, 0, none⟩) n cap) n c W) (hk : k < n) (ht : t < 5) (hu : (fiveIV (c k)).set t u = fiveIV x) (hx : SW w.heap.size x W) : SX b w (.slice (some ⟨g, 0, none⟩) n cap) n (addIV c k x) (W.setCell ⟨g, k * 5 + t, none⟩ u) := by
  have hg := h.o.lt g rfl
  have keep : ∀ y : IV, SW w.heap.size y W → SW w.heap.size y (W.setCell ⟨g, k * 5 + t, none⟩ u) := fun y hy => by
    obtain ⟨⟨z1, h1⟩, ⟨z2, h2⟩, h3⟩ := hy
    refine ⟨⟨z1, arow_block h1 (fun q hq => Below.heap_setCell _ _ _ _ ?_)⟩, ⟨z2, arow_block h2 (fun q hq => Below.heap_setCell _ _ _ _ ?_)⟩, h3⟩
    · have := part_apart h1 h.o q hq; simp [Value.ownBlock] at this; simp; omega
    · have := part_apart h2 h.o q hq; simp [Value.ownBlock] at this; simp; omega
  refine ⟨h.m.setHigh h.lo hg.1 _ _, ?_, fun j hj => ?_, h.lo⟩
  · rw [← rowIV_set hu ht n hk]; exact own_set h.o _ _ (by omega)
  · unfold addIV
    split
    · exact keep x hx
    · exact keep _ (h.r j hj)
/-- A number of some part stored, in a block that is not the items' own. -/
theorem SX.part {pg o : Nat} {y : Int} (h : SX b w v n c W) (h1 : w.heap.size ≤ pg) (h2 : v.ownBlock ≠ some pg) : SX b w v n c (W.setCell ⟨pg, o, none⟩ (.int .i64 y)) := by
  refine ⟨h.m.setHigh h.lo h1 _ _, arow_block h.o (fun q hq => Below.heap_setCell _ _ _ _ (by simp; intro e; subst e; exact h2 hq)), fun j hj => ?_, h.lo⟩
  obtain ⟨p1, p2, p3⟩ := h.r j hj
  exact ⟨row_store p1, row_store p2, p3⟩
/-- One part more of an item's own, and the store of its row. -/
theorem SX.grow {g cap k : Nat} {v7 : Value} {W3 : World} {z : Nat → PA6} {p : PA6} (h : SX b w (.slice (some ⟨g, 0, none⟩) n cap) n c W) (hk : k < n) (hown : W3.ownsRow w.heap.size 28 6 v7 ((c k).pn + 1) (rowPA6 z (c k).pn ++ [.int .i64 p.item, .int .i64 p.qty, .int .i64 p.scr, .int .i64 p.fst, .int .i64 p.lst, .int .i64 p.grp])) (hgr : W.grownBy W3 (c k).pv.ownBlock) (hb : (c k).pn ≤ 4) (hap : ∀ j q, j < n → (c k).pv.ownBlock = some q → (k ≠ j → (c j).pv.ownBlock ≠ some q) ∧ (c j).sv.ownBlock ≠ some q) : SX b w (.slice (some ⟨g, 0, none⟩) n cap) n (addIV c k { c k with pv := v7, pn := (c k).pn + 1 }) (W3.setCell ⟨g, k * 5 + 3, none⟩ v7) := by
  have hg := h.o.lt g rfl
  obtain ⟨⟨z1, h1⟩, ⟨z2, h2⟩, h3⟩ := h.r k hk
  have ho3 : W3.ownsRow w.heap.size 31 5 (.slice (some ⟨g, 0, none⟩) n cap) n (rowIV c n) := arow_block h.o (fun q hq => grown_block hgr (h.o.lt q hq).2 (fun e => part_apart h1 h.o q e hq))
  have st : ∀ (vv : Value) (m : Nat) (xs : List Value), W3.ownsRow w.heap.size 28 6 vv m xs → (W3.setCell ⟨g, k * 5 + 3, none⟩ v7).ownsRow w.heap.size 28 6 vv m xs := fun vv m xs hh => arow_block hh (fun q hq => Below.heap_setCell _ _ _ _ (by have := part_apart hh ho3 q hq; simp [Value.ownBlock] at this; simp; omega))
  have gr : ∀ (vv : Value) (m : Nat) (xs : List Value), W.ownsRow w.heap.size 28 6 vv m xs → (∀ q, (c k).pv.ownBlock = some q → vv.ownBlock ≠ some q) → W3.ownsRow w.heap.size 28 6 vv m xs := fun vv m xs hh hn => arow_block hh (fun q hq => grown_block hgr (hh.lt q hq).2 (fun e => hn q e hq))
  refine ⟨(h.m.grown h.lo hgr (fun q e => (h1.lt q e).1)).setHigh h.lo hg.1 _ _, ?_, fun j hj => ?_, h.lo⟩
  · rw [← rowIV_set (x := { c k with pv := v7, pn := (c k).pn + 1 }) (u := v7) (t := 3) rfl (by omega) n hk]
    exact own_set ho3 _ _ (by omega)
  · by_cases e : j = k
    · subst e
      simp only [addIV, if_true]
      refine ⟨⟨fun q => if q = (c j).pn then p else z q, ?_⟩, ⟨z2, st _ _ _ (gr _ _ _ h2 (fun q hq => (hap j q hj hq).2))⟩, ⟨h3.1, by show (c j).pn + 1 ≤ 5; omega, h3.2.2⟩⟩
      have e2 : ∀ q, q ≤ (c j).pn → rowPA6 (fun i => if i = (c j).pn then p else z i) q = rowPA6 z q := fun q => by
        induction q with
        | zero => intro _; rfl
        | succ q ih => intro hq; show rowPA6 _ q ++ _ = rowPA6 _ q ++ _; rw [ih (by omega)]; simp only [show ¬ q = (c j).pn by omega, if_false]
      have e3 : rowPA6 (fun i => if i = (c j).pn then p else z i) ((c j).pn + 1) = rowPA6 z (c j).pn ++ [.int .i64 p.item, .int .i64 p.qty, .int .i64 p.scr, .int .i64 p.fst, .int .i64 p.lst, .int .i64 p.grp] := by
        show rowPA6 _ (c j).pn ++ _ = _
        rw [e2 _ (Nat.le_refl _)]
        simp
      show World.ownsRow _ _ _ _ v7 ((c j).pn + 1) (rowPA6 _ ((c j).pn + 1))
      rw [e3]
      exact st _ _ _ hown
    · simp only [addIV, e, if_false]
      obtain ⟨⟨y1, k1⟩, ⟨y2, k2⟩, k3⟩ := h.r j hj
      exact ⟨⟨y1, st _ _ _ (gr _ _ _ k1 (fun q hq => (hap j q hj hq).1 (fun e3 => e e3.symm)))⟩, ⟨y2, st _ _ _ (gr _ _ _ k2 (fun q hq => (hap j q hj hq).2))⟩, k3⟩
theorem rowIV_get (c : Nat → IV) : ∀ n j, j < n → (rowIV c n)[j * 5]? = some (.string (c j).nm) ∧ (rowIV c n)[j * 5 + 1]? = some (.int .i64 (c j).ba) ∧ (rowIV c n)[j * 5 + 2]? = some (.bool (c j).ph) ∧ (rowIV c n)[j * 5 + 3]? = some (c j).pv ∧ (rowIV c n)[j * 5 + 4]? = some (c j).sv
  | 0, j, h => by omega
  | n + 1, j, h => by
    have e := rowIV_len c n
    by_cases hj : j = n
    · subst hj
      simp only [rowIV]
      refine ⟨?_, ?_, ?_, ?_, ?_⟩
      · rw [List.getElem?_append_right (by omega), show j * 5 - (rowIV c j).length = 0 by omega]; rfl
      · rw [List.getElem?_append_right (by omega), show j * 5 + 1 - (rowIV c j).length = 1 by omega]; rfl
      · rw [List.getElem?_append_right (by omega), show j * 5 + 2 - (rowIV c j).length = 2 by omega]; rfl
      · rw [List.getElem?_append_right (by omega), show j * 5 + 3 - (rowIV c j).length = 3 by omega]; rfl
      · rw [List.getElem?_append_right (by omega), show j * 5 + 4 - (rowIV c j).length = 4 by omega]; rfl
    · obtain ⟨a0, a1, a2, a3, a4⟩ := rowIV_get c n j (by omega)
      simp only [rowIV]
      refine ⟨?_, ?_, ?_, ?_, ?_⟩ <;> (rw [List.getElem?_append_left (by omega)]; assumption)
theorem own_cell {g m cap size : Nat} {e : TypeId} {xs : List Value} (h : W.ownsRow base e size (.slice (some ⟨g, 0, none⟩) m cap) m xs) {j : Nat} {u : Value} (hu : xs[j]? = some u) : W.cell? ⟨g, j, none⟩ = some u ∧ ∀ o, W.frozen? ⟨g, o, none⟩ = false := by
  rcases h.2 with ⟨q, _⟩ | ⟨g2, cap2, cur, q, hb, hg, h1, h2, h3, h4⟩
  · cases q
  · simp only [Value.slice.injEq, Option.some.injEq, Addr.mk.injEq] at q
    obtain ⟨⟨rfl, _, _⟩, _, rfl⟩ := q
    have hc : CB W g cur e := hg
    refine ⟨?_, fun o => hc.fr o⟩
    rw [hc.cell]
    have hl : j < xs.length := by
      rcases Nat.lt_or_ge j xs.length with q | q
      · exact q
      · rw [List.getElem?_eq_none q] at hu; cases hu
    rw [← h4] at hu
    rw [List.getElem?_take] at hu
    split at hu
    · simpa using hu
    · cases hu
/-- The cells of one item. -/
theorem SX.cells {g cap k : Nat} (h : SX b w (.slice (some ⟨g, 0, none⟩) n cap) n c W) (hk : k < n) : (W.cell? ⟨g, k * 5, none⟩ = some (.string (c k).nm) ∧ W.cell? ⟨g, k * 5 + 1, none⟩ = some (.int .i64 (c k).ba) ∧ W.cell? ⟨g, k * 5 + 2, none⟩ = some (.bool (c k).ph) ∧ W.cell? ⟨g, k * 5 + 3, none⟩ = some (c k).pv ∧ W.cell? ⟨g, k * 5 + 4, none⟩ = some (c k).sv) ∧ ∀ o, W.frozen? ⟨g, o, none⟩ = false := by
  obtain ⟨a0, a1, a2, a3, a4⟩ := rowIV_get c n k hk
  exact ⟨⟨(own_cell h.o a0).1, (own_cell h.o a1).1, (own_cell h.o a2).1, (own_cell h.o a3).1, (own_cell h.o a4).1⟩, (own_cell h.o a0).2⟩
theorem own_PAr {ad : Option Addr} {m cap : Nat} {z : Nat → PA6} (h : W.ownsRow base 28 6 (.slice ad m cap) m (rowPA6 z m)) : PAr W ad m z ∧ m ≤ cap := by
  rcases h.2 with ⟨q, q2⟩ | ⟨g, cap2, cur, q, hb, hg, h1, h2, h3, h4⟩
  · subst q2; exact ⟨.inl rfl, Nat.zero_le _⟩
  · simp only [Value.slice.injEq] at q
    obtain ⟨rfl, _, rfl⟩ := q
    refine ⟨.inr ⟨g, 0, rfl, lt_of_block hg, fun j hj => ?_⟩, h1⟩
    obtain ⟨a0, a1, a2, a3, a4, a5⟩ := rowPA6_get z m j hj
    unfold AtPA
    rw [Nat.zero_add]
    exact ⟨(own_cell h a0).1, (own_cell h a1).1, (own_cell h a2).1, (own_cell h a3).1, (own_cell h a4).1, (own_cell h a5).1⟩
/-- As a row of items. -/
theorem SX.row {ad : Option Addr} {cap : Nat} (h : SX b w (.slice ad n cap) n c W) : ∃ d : Nat → IT, ITr W ad n d ∧ ∀ j, j < n → (d j).name.size ≤ 40 ∧ (d j).parn ≤ 5 ∧ (d j).alsn ≤ 1 := by
  have hx : ∀ j, ∃ y : IT, j < n → (y.name = (c j).nm ∧ y.batch = (c j).ba ∧ y.pha = (c j).ph ∧ y.parn = (c j).pn ∧ y.alsn = (c j).sn ∧ ∃ ra rc sa sc, (c j).pv = .slice ra y.parn rc ∧ (c j).sv = .slice sa y.alsn sc ∧ PAr W ra y.parn y.parz ∧ PAr W sa y.alsn y.alsz ∧ y.parn ≤ rc ∧ y.alsn ≤ sc) := fun j => by
    by_cases hj : j < n
    · obtain ⟨⟨z1, h1⟩, ⟨z2, h2⟩, h3⟩ := h.r j hj
      obtain ⟨ra, rc, e1⟩ := own_form h1
      obtain ⟨sa, sc, e2⟩ := own_form h2
      rw [e1] at h1
      rw [e2] at h2
      exact ⟨⟨(c j).nm, (c j).ba, (c j).ph, (c j).pn, z1, (c j).sn, z2⟩, fun _ => ⟨rfl, rfl, rfl, rfl, rfl, ra, rc, sa, sc, e1, e2, (own_PAr h1).1, (own_PAr h2).1, (own_PAr h1).2, (own_PAr h2).2⟩⟩
    · exact ⟨⟨ByteArray.empty, 0, false, 0, fun _ => ⟨0, 0, 0, 0, 0, 0⟩, 0, fun _ => ⟨0, 0, 0, 0, 0, 0⟩⟩, fun q => absurd q hj⟩
  refine ⟨fun j => Classical.choose (hx j), ?_, fun j hj => ?_⟩
  · rcases Nat.eq_zero_or_pos n with e | e
    · exact .inl e
    · obtain ⟨g, cap2, e2, hb⟩ := ownsRow_some h.o e
      simp only [Value.slice.injEq] at e2
      obtain ⟨rfl, _, rfl⟩ := e2
      refine .inr ⟨g, 0, rfl, (h.o.lt g rfl).2, fun j hj => ?_⟩
      obtain ⟨q1, q2, q3, q4, q5, ra, rc, sa, sc, q6, q7, q8, q9, q10, q11⟩ := Classical.choose_spec (hx j) hj
      obtain ⟨⟨a0, a1, a2, a3, a4⟩, _⟩ := h.cells hj
      rw [q6] at a3
      rw [q7] at a4
      refine ⟨ra, rc, sa, sc, q10, q11, ?_, ?_, ?_, ?_, ?_, q8, q9⟩
      · rw [Nat.zero_add, q1]; exact a0
      · rw [Nat.zero_add, q2]; exact a1
      · rw [Nat.zero_add, q3]; exact a2
      · rw [Nat.zero_add]; exact a3
      · rw [Nat.zero_add]; exact a4
  · have := Classical.choose_spec (hx j) hj
    rw [this.1, this.2.2.2.1, this.2.2.2.2.1]
    exact (h.r j hj).sz
end
end Go.Proofs.Ytmbdeafpfdeigaa
