/- Rows of Lay beside the cursor of a draw: moved on, appended to, a cell stored. -/
import Derived.Test.YtdgccdlaokbnhaaLa
import Derived.Test.YtdgccdlaokbnhaaXe
import Derived.Test.YtdgccdlaokbnhaaLo
namespace Go.Proofs.Ytdgccdlaokbnhaa
open Go Go.ChangeShapes Go.WideShapes Go.ChangeAt Go.RowKit
set_option linter.unusedVariables false
set_option linter.unusedSimpArgs false

theorem rowLA2_congr {u v : Nat → LA2} : ∀ {n : Nat}, (∀ j, j < n → u j = v j) → rowLA2 u n = rowLA2 v n
  | 0, _ => rfl
  | n + 1, h => by rw [rowLA2, rowLA2, rowLA2_congr (n := n) (fun j hj => h j (by omega)), h n (by omega)]
def addLA2 (c : Nat → LA2) (k : Nat) (x : LA2) (j : Nat) : LA2 := if j = k then x else c j
theorem addLA2_at (c : Nat → LA2) (k : Nat) (x : LA2) : addLA2 c k x k = x := if_pos rfl
theorem addLA2_ne {c : Nat → LA2} {k j : Nat} {x : LA2} (h : j ≠ k) : addLA2 c k x j = c j := if_neg h
theorem rowLA2_add (c : Nat → LA2) (k : Nat) (x : LA2) : rowLA2 (addLA2 c k x) (k + 1) = rowLA2 c k ++ [.int .i64 x.qty, .int .i64 x.cost] := by
  rw [rowLA2, rowLA2_congr (v := c) (fun j hj => addLA2_ne (by omega)), addLA2_at]
theorem rowLA2_ext {xs : List Value} {c : Nat → LA2} {n : Nat} (hl : xs.length = n * 2) (h : ∀ j, j < n → xs[j * 2]? = some (.int .i64 (c j).qty) ∧ xs[j * 2 + 1]? = some (.int .i64 (c j).cost)) : xs = rowLA2 c n := by
  have hlen := rowLA2_len c n
  refine List.ext_getElem? fun j => ?_
  by_cases hj : j < n * 2
  · obtain ⟨a0, a1⟩ := h (j / 2) (by omega)
    obtain ⟨b0, b1⟩ := rowLA2_get c n (j / 2) (by omega)
    have hm : j = j / 2 * 2 ∨ j = j / 2 * 2 + 1 := by omega
    rcases hm with hm | hm
    all_goals (rw [hm]; first | (rw [a0, b0]; done) | (rw [a1, b1]; done) | (rw [a2, b2]; done) | (rw [a3, b3]; done))
  · rw [List.getElem?_eq_none (by omega), List.getElem?_eq_none (by omega)]
set_option maxRecDepth 100000 in
theorem ownLA2_row {w : World} {base n : Nat} {ad : Option Addr} {cp : Nat} {u : Nat → LA2} (h : w.ownsRow base 40 2 (.slice ad n cp) n (rowLA2 u n)) : LAr w ad n u := by
  obtain ⟨hl, h2⟩ := h
  rcases h2 with ⟨e, e0⟩ | ⟨g, cap, cur, e, hb, hg, hn, hcap, hcs, ht⟩
  · exact .inl e0
  · simp only [Value.slice.injEq] at e
    obtain ⟨rfl, _, rfl⟩ := e
    have hlen := rowLA2_len u n
    refine LAr.of_block hg n u (fun j hj => ?_)
    have cell : ∀ o, o < n * 2 → cur[o]? = (rowLA2 u n)[o]? := fun o ho => by
      rw [← ht, List.getElem?_take, if_pos ho]
      simp
    obtain ⟨a0, a1⟩ := rowLA2_get u n j hj
    refine ⟨?_, ?_⟩ <;> (rw [cell _ (by omega)]; assumption)
/-- A row of its own beside a cursor at block b; every block of w but b is as it was. -/
structure DXLA2 (b : Nat) (w : World) (base g k oc : Nat) (c : Nat → LA2) (W : World) : Prop where
  cur : Cursor W b
  trn : Turns b w W
  own : W.ownsRow base 40 2 (.slice (some ⟨g, 0, none⟩) k oc) k (rowLA2 c k)
  bb : b < base
  bw : w.heap.size ≤ base
theorem LAr.turns {b : Nat} {w W : World} {g off len : Nat} {c : Nat → LA2} (H : LAr w (some ⟨g, off, none⟩) len c) (t : Turns b w W) (hb : g ≠ b) : LAr W (some ⟨g, off, none⟩) len c := by
  rcases H with h | ⟨k, o, e, hk, hc⟩
  · exact .inl h
  · cases e
    exact .inr ⟨g, off, rfl, Nat.lt_of_lt_of_le hk t.size, fun j hj => (hc j hj).block (t.block g hk hb)⟩
section
variable {b : Nat} {w W W' : World} {base g k oc : Nat} {c : Nat → LA2}
theorem DXLA2.gge (h : DXLA2 b w base g k oc c W) : base ≤ g ∧ g < W.heap.size := h.own.lt g rfl
theorem DXLA2.gb (h : DXLA2 b w base g k oc c W) : g ≠ b := by have := h.gge; have := h.bb; omega
theorem DXLA2.mv (h : DXLA2 b w base g k oc c W) : Moved b w W := ⟨h.cur, h.trn⟩
theorem DXLA2.moved (h : DXLA2 b w base g k oc c W) (m : Moved b W W') : DXLA2 b w base g k oc c W' := by
  have hg := h.gge
  have hb := h.bb
  refine ⟨m.1, h.trn.trans m.2, arow_block h.own (fun q hq => ?_), h.bb, h.bw⟩
  have : q = g := by simpa [Value.ownBlock] using hq.symm
  subst this
  exact m.2.block q hg.2 (by omega)
theorem DXLA2.below (h : DXLA2 b w base g k oc c W) (bl : Below W.heap.size W W') : DXLA2 b w base g k oc c W' := h.moved ⟨h.cur.below bl, Turns.of_below bl⟩
theorem DXLA2.alloc (h : DXLA2 b w base g k oc c W) (o : Obj) : DXLA2 b w base g k oc c (W.alloc o) := h.below ((Below.refl _ _).alloc (Nat.le_refl _) o)
theorem DXLA2.dN (h : DXLA2 b w base g k oc c W) (q : Nat) : DXLA2 b w base g k oc c (W.drewN q) := h.below (bd_N (Below.refl _ _) q)
theorem DXLA2.dr (h : DXLA2 b w base g k oc c W) : DXLA2 b w base g k oc c W.drew := h.below (Below.refl _ _).drew
theorem DXLA2.row (h : DXLA2 b w base g k oc c W) : LAr W (some ⟨g, 0, none⟩) k c := ownLA2_row h.own
theorem DXLA2.start (hc : Cursor w b) : DXLA2 b w w.heap.size w.heap.size 0 0 c (w.alloc (.cells #[] 40 (0, 0))) :=
  ⟨hc.alloc _, (Turns.refl _ _).alloc _, ⟨rfl, .inr ⟨w.heap.size, 0, #[], rfl, Nat.le_refl _, CB.new _ _, Nat.le_refl _, Nat.zero_le _, rfl, rfl⟩⟩, hc.lt, Nat.le_refl _⟩
theorem DXLA2.grow {w9 : World} {g9 oc9 : Nat} {x : LA2} (h : DXLA2 b w base g k oc c W) (hg : W.grownBy w9 (Value.slice (some ⟨g, 0, none⟩) k oc).ownBlock) (hown : w9.ownsRow base 40 2 (.slice (some ⟨g9, 0, none⟩) (k + 1) oc9) (k + 1) (rowLA2 c k ++ [.int .i64 x.qty, .int .i64 x.cost])) : DXLA2 b w base g9 (k + 1) oc9 (addLA2 c k x) w9 := by
  have h1 := h.gge
  have h2 := h.bb
  have h3 := h.bw
  refine ⟨h.cur.grown hg (fun q hq => ?_), h.trn.grown hg (fun q hq => ?_), by rw [rowLA2_add]; exact hown, h.bb, h.bw⟩
  · have : q = g := by simpa [Value.ownBlock] using hq.symm
    omega
  · have : q = g := by simpa [Value.ownBlock] using hq.symm
    omega
theorem DXLA2.fr (h : DXLA2 b w base g k oc c W) (o : Nat) : W.frozen? ⟨g, o, none⟩ = false := by
  rcases h.own.2 with ⟨e, _⟩ | ⟨g', cap, cur, e, hb, hg, h1, _⟩
  · cases e
  · simp only [Value.slice.injEq, Option.some.injEq, Addr.mk.injEq] at e
    obtain ⟨⟨rfl, _, _⟩, _, rfl⟩ := e
    exact CB.fr hg o
theorem DXLA2.cap (h : DXLA2 b w base g k oc c W) : k ≤ oc := by
  rcases h.own.2 with ⟨e, _⟩ | ⟨g', cap, cur, e, hb, hg, h1, _⟩
  · cases e
  · simp only [Value.slice.injEq, Option.some.injEq, Addr.mk.injEq] at e
    obtain ⟨⟨rfl, _, _⟩, _, rfl⟩ := e
    exact h1
theorem DXLA2.put0 (h : DXLA2 b w base g k oc c W) {i : Nat} (hi : i < k) (x : Int) : DXLA2 b w base g k oc (fun j => if j = i then ⟨x, (c j).cost⟩ else c j) (W.setCell ⟨g, i * 2, none⟩ (.int .i64 x)) := by
  have hg := h.gge
  have hbb := h.bb
  have hbw := h.bw
  have hlen := rowLA2_len c k
  refine ⟨h.cur.low (by simp) (fun y hy => Below.heap_setCell _ _ _ _ (by simp; omega)), ⟨h.trn.os, h.trn.tape, h.trn.output, by simpa using h.trn.size, fun y hy hyb => (Below.heap_setCell _ _ _ _ (by show y ≠ g; omega)).trans (h.trn.block y hy hyb)⟩, ?_, h.bb, h.bw⟩
  have e : (rowLA2 c k).set (i * 2) (.int .i64 x) = rowLA2 (fun j => if j = i then ⟨x, (c j).cost⟩ else c j) k := rowLA2_ext (by simp [hlen]) (fun j hj => by
    obtain ⟨a0, a1⟩ := rowLA2_get c k j hj
    by_cases e : j = i
    · subst e
      simp only [if_true]
      refine ⟨?_, ?_⟩
      · rw [List.getElem?_set_self (by omega)]
      · rw [List.getElem?_set_ne (by omega)]; assumption
    · simp only [if_neg e]
      refine ⟨?_, ?_⟩ <;> (rw [List.getElem?_set_ne (by omega)]; assumption))
  rw [← e]
  exact own_set h.own _ _ (by omega)
theorem DXLA2.put1 (h : DXLA2 b w base g k oc c W) {i : Nat} (hi : i < k) (x : Int) : DXLA2 b w base g k oc (fun j => if j = i then ⟨(c j).qty, x⟩ else c j) (W.setCell ⟨g, i * 2 + 1, none⟩ (.int .i64 x)) := by
  have hg := h.gge
  have hbb := h.bb
  have hbw := h.bw
  have hlen := rowLA2_len c k
  refine ⟨h.cur.low (by simp) (fun y hy => Below.heap_setCell _ _ _ _ (by simp; omega)), ⟨h.trn.os, h.trn.tape, h.trn.output, by simpa using h.trn.size, fun y hy hyb => (Below.heap_setCell _ _ _ _ (by show y ≠ g; omega)).trans (h.trn.block y hy hyb)⟩, ?_, h.bb, h.bw⟩
  have e : (rowLA2 c k).set (i * 2 + 1) (.int .i64 x) = rowLA2 (fun j => if j = i then ⟨(c j).qty, x⟩ else c j) k := rowLA2_ext (by simp [hlen]) (fun j hj => by
    obtain ⟨a0, a1⟩ := rowLA2_get c k j hj
    by_cases e : j = i
    · subst e
      simp only [if_true]
      refine ⟨?_, ?_⟩
      · rw [List.getElem?_set_ne (by omega)]; assumption
      · rw [List.getElem?_set_self (by omega)]
    · simp only [if_neg e]
      refine ⟨?_, ?_⟩ <;> (rw [List.getElem?_set_ne (by omega)]; assumption))
  rw [← e]
  exact own_set h.own _ _ (by omega)
end
end Go.Proofs.Ytdgccdlaokbnhaa
