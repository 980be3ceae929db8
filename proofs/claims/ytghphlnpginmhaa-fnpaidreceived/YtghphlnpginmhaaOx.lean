/- Rows of OrderLine beside the cursor of a draw: moved on, appended to, a cell stored. -/
import Derived.Test.YtghphlnpginmhaaOa
import Derived.Test.YtghphlnpginmhaaXe
namespace Go.Proofs.Ytghphlnpginmhaa
open Go Go.ChangeShapes Go.WideShapes Go.ChangeAt Go.RowKit
set_option linter.unusedVariables false
set_option linter.unusedSimpArgs false

def rowOL3 (c : Nat → OL3) : Nat → List Value
  | 0 => []
  | k + 1 => rowOL3 c k ++ [.string (c k).item, .int .i64 (c k).qty, .int .i64 (c k).price]
theorem rowOL3_len (c : Nat → OL3) : ∀ n, (rowOL3 c n).length = n * 3
  | 0 => rfl
  | n + 1 => by simp [rowOL3, rowOL3_len c n]; omega
theorem rowOL3_one (c : Nat → OL3) : ∀ n, ∀ v ∈ rowOL3 c n, v.oneCell' = true
  | 0, v, h => by simp [rowOL3] at h
  | n + 1, v, h => by
    simp only [rowOL3, List.mem_append, List.mem_cons, List.not_mem_nil, or_false] at h
    rcases h with h | rfl | rfl | rfl
    · exact rowOL3_one c n v h
    all_goals rfl
theorem rowOL3_get (c : Nat → OL3) : ∀ n j, j < n → (rowOL3 c n)[j * 3]? = some (.string (c j).item) ∧ (rowOL3 c n)[j * 3 + 1]? = some (.int .i64 (c j).qty) ∧ (rowOL3 c n)[j * 3 + 2]? = some (.int .i64 (c j).price)
  | 0, j, h => by omega
  | n + 1, j, h => by
    have e := rowOL3_len c n
    by_cases hj : j = n
    · subst hj
      simp only [rowOL3]
      refine ⟨?_, ?_, ?_⟩
      · rw [List.getElem?_append_right (by omega), show j * 3 - (rowOL3 c j).length = 0 by omega]; rfl
      · rw [List.getElem?_append_right (by omega), show j * 3 + 1 - (rowOL3 c j).length = 1 by omega]; rfl
      · rw [List.getElem?_append_right (by omega), show j * 3 + 2 - (rowOL3 c j).length = 2 by omega]; rfl
    · obtain ⟨a0, a1, a2⟩ := rowOL3_get c n j (by omega)
      simp only [rowOL3]
      refine ⟨?_, ?_, ?_⟩ <;> (rw [List.getElem?_append_left (by omega)]; assumption)
theorem rowOL3_congr {u v : Nat → OL3} : ∀ {n : Nat}, (∀ j, j < n → u j = v j) → rowOL3 u n = rowOL3 v n
  | 0, _ => rfl
  | n + 1, h => by rw [rowOL3, rowOL3, rowOL3_congr (n := n) (fun j hj => h j (by omega)), h n (by omega)]
def addOL3 (c : Nat → OL3) (k : Nat) (x : OL3) (j : Nat) : OL3 := if j = k then x else c j
theorem addOL3_at (c : Nat → OL3) (k : Nat) (x : OL3) : addOL3 c k x k = x := if_pos rfl
theorem addOL3_ne {c : Nat → OL3} {k j : Nat} {x : OL3} (h : j ≠ k) : addOL3 c k x j = c j := if_neg h
theorem rowOL3_add (c : Nat → OL3) (k : Nat) (x : OL3) : rowOL3 (addOL3 c k x) (k + 1) = rowOL3 c k ++ [.string x.item, .int .i64 x.qty, .int .i64 x.price] := by
  rw [rowOL3, rowOL3_congr (v := c) (fun j hj => addOL3_ne (by omega)), addOL3_at]
theorem rowOL3_ext {xs : List Value} {c : Nat → OL3} {n : Nat} (hl : xs.length = n * 3) (h : ∀ j, j < n → xs[j * 3]? = some (.string (c j).item) ∧ xs[j * 3 + 1]? = some (.int .i64 (c j).qty) ∧ xs[j * 3 + 2]? = some (.int .i64 (c j).price)) : xs = rowOL3 c n := by
  have hlen := rowOL3_len c n
  refine List.ext_getElem? fun j => ?_
  by_cases hj : j < n * 3
  · obtain ⟨a0, a1, a2⟩ := h (j / 3) (by omega)
    obtain ⟨b0, b1, b2⟩ := rowOL3_get c n (j / 3) (by omega)
    have hm : j = j / 3 * 3 ∨ j = j / 3 * 3 + 1 ∨ j = j / 3 * 3 + 2 := by omega
    rcases hm with hm | hm | hm
    all_goals (rw [hm]; first | (rw [a0, b0]; done) | (rw [a1, b1]; done) | (rw [a2, b2]; done) | (rw [a3, b3]; done))
  · rw [List.getElem?_eq_none (by omega), List.getElem?_eq_none (by omega)]
theorem rowOL3_src {w : World} {a : Addr} {n : Nat} {c : Nat → OL3} (H : OLr w (some a) n c) : ∀ j v, (rowOL3 c n)[j]? = some v → w.cell? (a.add j) = some v := by
  intro j v hv
  have hlen := rowOL3_len c n
  have hj : j < n * 3 := by
    rcases Nat.lt_or_ge j (n * 3) with q | q
    · exact q
    · rw [List.getElem?_eq_none (by omega)] at hv; cases hv
  obtain ⟨k, off, e, hk⟩ := H.addr (by omega)
  cases e
  have hadd : (⟨k, off, none⟩ : Addr).add j = ⟨k, off + j, none⟩ := by unfold Addr.add; split <;> simp_all
  rw [hadd]
  obtain ⟨a0, a1, a2⟩ := H.cell (j := j / 3) (by omega)
  obtain ⟨b0, b1, b2⟩ := rowOL3_get c n (j / 3) (by omega)
  have hm : j = j / 3 * 3 ∨ j = j / 3 * 3 + 1 ∨ j = j / 3 * 3 + 2 := by omega
  rcases hm with hm | hm | hm
  · rw [hm] at hv ⊢; rw [b0] at hv; cases hv; exact a0
  · rw [hm] at hv ⊢; rw [b1] at hv; cases hv; rw [← Nat.add_assoc]; exact a1
  · rw [hm] at hv ⊢; rw [b2] at hv; cases hv; rw [← Nat.add_assoc]; exact a2
set_option maxRecDepth 100000 in
theorem infoOL3 : ∃ i, Try.prog.info? 49 = some i ∧ i.zero = some (.agg #[.string ByteArray.empty, .int .i64 0, .int .i64 0]) ∧ i.size = 3 ∧ i.bytes = 32 := by
  obtain ⟨i0, hi⟩ : ∃ i, Try.prog.info? 49 = some i := ⟨_, rfl⟩
  have hz0 : i0.zero = some (.agg #[.string ByteArray.empty, .int .i64 0, .int .i64 0]) := by
    have : (Try.prog.info? 49).bind (·.zero) = some (.agg #[.string ByteArray.empty, .int .i64 0, .int .i64 0]) := by kernel_rfl
    rw [hi] at this; exact this
  have hz1 : i0.size = 3 := by
    have : (Try.prog.info? 49).map (·.size) = some 3 := by kernel_rfl
    rw [hi] at this; simpa using this
  have hz2 : i0.bytes = 32 := by
    have : (Try.prog.info? 49).map (·.bytes) = some 32 := by kernel_rfl
    rw [hi] at this; simpa using this
  exact ⟨i0, hi, hz0, hz1, hz2⟩
theorem ownOL3_row {w : World} {base n : Nat} {ad : Option Addr} {cp : Nat} {u : Nat → OL3} (h : w.ownsRow base 49 3 (.slice ad n cp) n (rowOL3 u n)) : OLr w ad n u := by
  obtain ⟨hl, h2⟩ := h
  rcases h2 with ⟨e, e0⟩ | ⟨g, cap, cur, e, hb, hg, hn, hcap, hcs, ht⟩
  · exact .inl e0
  · simp only [Value.slice.injEq] at e
    obtain ⟨rfl, _, rfl⟩ := e
    have hlen := rowOL3_len u n
    refine OLr.of_block hg n u (fun j hj => ?_)
    have cell : ∀ o, o < n * 3 → cur[o]? = (rowOL3 u n)[o]? := fun o ho => by
      rw [← ht, List.getElem?_take, if_pos ho]
      simp
    obtain ⟨a0, a1, a2⟩ := rowOL3_get u n j hj
    refine ⟨?_, ?_, ?_⟩ <;> (rw [cell _ (by omega)]; assumption)
/-- A row of its own beside a cursor at block b; every block of w but b is as it was. -/
structure DXOL3 (b : Nat) (w : World) (base g k oc : Nat) (c : Nat → OL3) (W : World) : Prop where
  cur : Cursor W b
  trn : Turns b w W
  own : W.ownsRow base 49 3 (.slice (some ⟨g, 0, none⟩) k oc) k (rowOL3 c k)
  bb : b < base
  bw : w.heap.size ≤ base
theorem OLr.turns {b : Nat} {w W : World} {g off len : Nat} {c : Nat → OL3} (H : OLr w (some ⟨g, off, none⟩) len c) (t : Turns b w W) (hb : g ≠ b) : OLr W (some ⟨g, off, none⟩) len c := by
  rcases H with h | ⟨k, o, e, hk, hc⟩
  · exact .inl h
  · cases e
    exact .inr ⟨g, off, rfl, Nat.lt_of_lt_of_le hk t.size, fun j hj => (hc j hj).block (t.block g hk hb)⟩
section
variable {b : Nat} {w W W' : World} {base g k oc : Nat} {c : Nat → OL3}
theorem DXOL3.gge (h : DXOL3 b w base g k oc c W) : base ≤ g ∧ g < W.heap.size := h.own.lt g rfl
theorem DXOL3.gb (h : DXOL3 b w base g k oc c W) : g ≠ b := by have := h.gge; have := h.bb; omega
theorem DXOL3.mv (h : DXOL3 b w base g k oc c W) : Moved b w W := ⟨h.cur, h.trn⟩
theorem DXOL3.moved (h : DXOL3 b w base g k oc c W) (m : Moved b W W') : DXOL3 b w base g k oc c W' := by
  have hg := h.gge
  have hb := h.bb
  refine ⟨m.1, h.trn.trans m.2, arow_block h.own (fun q hq => ?_), h.bb, h.bw⟩
  have : q = g := by simpa [Value.ownBlock] using hq.symm
  subst this
  exact m.2.block q hg.2 (by omega)
theorem DXOL3.below (h : DXOL3 b w base g k oc c W) (bl : Below W.heap.size W W') : DXOL3 b w base g k oc c W' := h.moved ⟨h.cur.below bl, Turns.of_below bl⟩
theorem DXOL3.alloc (h : DXOL3 b w base g k oc c W) (o : Obj) : DXOL3 b w base g k oc c (W.alloc o) := h.below ((Below.refl _ _).alloc (Nat.le_refl _) o)
theorem DXOL3.dN (h : DXOL3 b w base g k oc c W) (q : Nat) : DXOL3 b w base g k oc c (W.drewN q) := h.below (bd_N (Below.refl _ _) q)
theorem DXOL3.dr (h : DXOL3 b w base g k oc c W) : DXOL3 b w base g k oc c W.drew := h.below (Below.refl _ _).drew
theorem DXOL3.row (h : DXOL3 b w base g k oc c W) : OLr W (some ⟨g, 0, none⟩) k c := ownOL3_row h.own
theorem DXOL3.start (hc : Cursor w b) : DXOL3 b w w.heap.size w.heap.size 0 0 c (w.alloc (.cells #[] 49 (0, 0))) :=
  ⟨hc.alloc _, (Turns.refl _ _).alloc _, ⟨rfl, .inr ⟨w.heap.size, 0, #[], rfl, Nat.le_refl _, CB.new _ _, Nat.le_refl _, Nat.zero_le _, rfl, rfl⟩⟩, hc.lt, Nat.le_refl _⟩
theorem DXOL3.grow {w9 : World} {g9 oc9 : Nat} {x : OL3} (h : DXOL3 b w base g k oc c W) (hg : W.grownBy w9 (Value.slice (some ⟨g, 0, none⟩) k oc).ownBlock) (hown : w9.ownsRow base 49 3 (.slice (some ⟨g9, 0, none⟩) (k + 1) oc9) (k + 1) (rowOL3 c k ++ [.string x.item, .int .i64 x.qty, .int .i64 x.price])) : DXOL3 b w base g9 (k + 1) oc9 (addOL3 c k x) w9 := by
  have h1 := h.gge
  have h2 := h.bb
  have h3 := h.bw
  refine ⟨h.cur.grown hg (fun q hq => ?_), h.trn.grown hg (fun q hq => ?_), by rw [rowOL3_add]; exact hown, h.bb, h.bw⟩
  · have : q = g := by simpa [Value.ownBlock] using hq.symm
    omega
  · have : q = g := by simpa [Value.ownBlock] using hq.symm
    omega
theorem DXOL3.fr (h : DXOL3 b w base g k oc c W) (o : Nat) : W.frozen? ⟨g, o, none⟩ = false := by
  rcases h.own.2 with ⟨e, _⟩ | ⟨g', cap, cur, e, hb, hg, h1, _⟩
  · cases e
  · simp only [Value.slice.injEq, Option.some.injEq, Addr.mk.injEq] at e
    obtain ⟨⟨rfl, _, _⟩, _, rfl⟩ := e
    exact CB.fr hg o
theorem DXOL3.cap (h : DXOL3 b w base g k oc c W) : k ≤ oc := by
  rcases h.own.2 with ⟨e, _⟩ | ⟨g', cap, cur, e, hb, hg, h1, _⟩
  · cases e
  · simp only [Value.slice.injEq, Option.some.injEq, Addr.mk.injEq] at e
    obtain ⟨⟨rfl, _, _⟩, _, rfl⟩ := e
    exact h1
theorem DXOL3.put0 (h : DXOL3 b w base g k oc c W) {i : Nat} (hi : i < k) (x : ByteArray) : DXOL3 b w base g k oc (fun j => if j = i then ⟨x, (c j).qty, (c j).price⟩ else c j) (W.setCell ⟨g, i * 3, none⟩ (.string x)) := by
  have hg := h.gge
  have hbb := h.bb
  have hbw := h.bw
  have hlen := rowOL3_len c k
  refine ⟨h.cur.low (by simp) (fun y hy => Below.heap_setCell _ _ _ _ (by simp; omega)), ⟨h.trn.os, h.trn.tape, h.trn.output, by simpa using h.trn.size, fun y hy hyb => (Below.heap_setCell _ _ _ _ (by show y ≠ g; omega)).trans (h.trn.block y hy hyb)⟩, ?_, h.bb, h.bw⟩
  have e : (rowOL3 c k).set (i * 3) (.string x) = rowOL3 (fun j => if j = i then ⟨x, (c j).qty, (c j).price⟩ else c j) k := rowOL3_ext (by simp [hlen]) (fun j hj => by
    obtain ⟨a0, a1, a2⟩ := rowOL3_get c k j hj
    by_cases e : j = i
    · subst e
      simp only [if_true]
      refine ⟨?_, ?_, ?_⟩
      · rw [List.getElem?_set_self (by omega)]
      · rw [List.getElem?_set_ne (by omega)]; assumption
      · rw [List.getElem?_set_ne (by omega)]; assumption
    · simp only [if_neg e]
      refine ⟨?_, ?_, ?_⟩ <;> (rw [List.getElem?_set_ne (by omega)]; assumption))
  rw [← e]
  exact own_set h.own _ _ (by omega)
theorem DXOL3.put1 (h : DXOL3 b w base g k oc c W) {i : Nat} (hi : i < k) (x : Int) : DXOL3 b w base g k oc (fun j => if j = i then ⟨(c j).item, x, (c j).price⟩ else c j) (W.setCell ⟨g, i * 3 + 1, none⟩ (.int .i64 x)) := by
  have hg := h.gge
  have hbb := h.bb
  have hbw := h.bw
  have hlen := rowOL3_len c k
  refine ⟨h.cur.low (by simp) (fun y hy => Below.heap_setCell _ _ _ _ (by simp; omega)), ⟨h.trn.os, h.trn.tape, h.trn.output, by simpa using h.trn.size, fun y hy hyb => (Below.heap_setCell _ _ _ _ (by show y ≠ g; omega)).trans (h.trn.block y hy hyb)⟩, ?_, h.bb, h.bw⟩
  have e : (rowOL3 c k).set (i * 3 + 1) (.int .i64 x) = rowOL3 (fun j => if j = i then ⟨(c j).item, x, (c j).price⟩ else c j) k := rowOL3_ext (by simp [hlen]) (fun j hj => by
    obtain ⟨a0, a1, a2⟩ := rowOL3_get c k j hj
    by_cases e : j = i
    · subst e
      simp only [if_true]
      refine ⟨?_, ?_, ?_⟩
      · rw [List.getElem?_set_ne (by omega)]; assumption
      · rw [List.getElem?_set_self (by omega)]
      · rw [List.getElem?_set_ne (by omega)]; assumption
    · simp only [if_neg e]
      refine ⟨?_, ?_, ?_⟩ <;> (rw [List.getElem?_set_ne (by omega)]; assumption))
  rw [← e]
  exact own_set h.own _ _ (by omega)
theorem DXOL3.put2 (h : DXOL3 b w base g k oc c W) {i : Nat} (hi : i < k) (x : Int) : DXOL3 b w base g k oc (fun j => if j = i then ⟨(c j).item, (c j).qty, x⟩ else c j) (W.setCell ⟨g, i * 3 + 2, none⟩ (.int .i64 x)) := by
  have hg := h.gge
  have hbb := h.bb
  have hbw := h.bw
  have hlen := rowOL3_len c k
  refine ⟨h.cur.low (by simp) (fun y hy => Below.heap_setCell _ _ _ _ (by simp; omega)), ⟨h.trn.os, h.trn.tape, h.trn.output, by simpa using h.trn.size, fun y hy hyb => (Below.heap_setCell _ _ _ _ (by show y ≠ g; omega)).trans (h.trn.block y hy hyb)⟩, ?_, h.bb, h.bw⟩
  have e : (rowOL3 c k).set (i * 3 + 2) (.int .i64 x) = rowOL3 (fun j => if j = i then ⟨(c j).item, (c j).qty, x⟩ else c j) k := rowOL3_ext (by simp [hlen]) (fun j hj => by
    obtain ⟨a0, a1, a2⟩ := rowOL3_get c k j hj
    by_cases e : j = i
    · subst e
      simp only [if_true]
      refine ⟨?_, ?_, ?_⟩
      · rw [List.getElem?_set_ne (by omega)]; assumption
      · rw [List.getElem?_set_ne (by omega)]; assumption
      · rw [List.getElem?_set_self (by omega)]
    · simp only [if_neg e]
      refine ⟨?_, ?_, ?_⟩ <;> (rw [List.getElem?_set_ne (by omega)]; assumption))
  rw [← e]
  exact own_set h.own _ _ (by omega)
end
end Go.Proofs.Ytghphlnpginmhaa
