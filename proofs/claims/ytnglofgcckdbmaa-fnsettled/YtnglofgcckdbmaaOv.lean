/- Rows of OpenItem beside the cursor of a draw: moved on, appended to, a cell stored. -/
import Derived.Test.YtnglofgcckdbmaaOa
import Derived.Test.YtnglofgcckdbmaaXe
namespace Go.Proofs.Ytnglofgcckdbmaa
open Go Go.ChangeShapes Go.WideShapes Go.ChangeAt Go.RowKit
set_option linter.unusedVariables false
set_option linter.unusedSimpArgs false

def rowOI2 (c : Nat → OI2) : Nat → List Value
  | 0 => []
  | k + 1 => rowOI2 c k ++ [.int .i64 (c k).day, .int .i64 (c k).amount]
theorem rowOI2_len (c : Nat → OI2) : ∀ n, (rowOI2 c n).length = n * 2
  | 0 => rfl
  | n + 1 => by simp [rowOI2, rowOI2_len c n]; omega
theorem rowOI2_one (c : Nat → OI2) : ∀ n, ∀ v ∈ rowOI2 c n, v.oneCell' = true
  | 0, v, h => by simp [rowOI2] at h
  | n + 1, v, h => by
    simp only [rowOI2, List.mem_append, List.mem_cons, List.not_mem_nil, or_false] at h
    rcases h with h | rfl | rfl
    · exact rowOI2_one c n v h
    all_goals rfl
theorem rowOI2_get (c : Nat → OI2) : ∀ n j, j < n → (rowOI2 c n)[j * 2]? = some (.int .i64 (c j).day) ∧ (rowOI2 c n)[j * 2 + 1]? = some (.int .i64 (c j).amount)
  | 0, j, h => by omega
  | n + 1, j, h => by
    have e := rowOI2_len c n
    by_cases hj : j = n
    · subst hj
      simp only [rowOI2]
      refine ⟨?_, ?_⟩
      · rw [List.getElem?_append_right (by omega), show j * 2 - (rowOI2 c j).length = 0 by omega]; rfl
      · rw [List.getElem?_append_right (by omega), show j * 2 + 1 - (rowOI2 c j).length = 1 by omega]; rfl
    · obtain ⟨a0, a1⟩ := rowOI2_get c n j (by omega)
      simp only [rowOI2]
      refine ⟨?_, ?_⟩ <;> (rw [List.getElem?_append_left (by omega)]; assumption)
theorem rowOI2_congr {u v : Nat → OI2} : ∀ {n : Nat}, (∀ j, j < n → u j = v j) → rowOI2 u n = rowOI2 v n
  | 0, _ => rfl
  | n + 1, h => by rw [rowOI2, rowOI2, rowOI2_congr (n := n) (fun j hj => h j (by omega)), h n (by omega)]
def addOI2 (c : Nat → OI2) (k : Nat) (x : OI2) (j : Nat) : OI2 := if j = k then x else c j
theorem addOI2_at (c : Nat → OI2) (k : Nat) (x : OI2) : addOI2 c k x k = x := if_pos rfl
theorem addOI2_ne {c : Nat → OI2} {k j : Nat} {x : OI2} (h : j ≠ k) : addOI2 c k x j = c j := if_neg h
theorem rowOI2_add (c : Nat → OI2) (k : Nat) (x : OI2) : rowOI2 (addOI2 c k x) (k + 1) = rowOI2 c k ++ [.int .i64 x.day, .int .i64 x.amount] := by
  rw [rowOI2, rowOI2_congr (v := c) (fun j hj => addOI2_ne (by omega)), addOI2_at]
theorem rowOI2_ext {xs : List Value} {c : Nat → OI2} {n : Nat} (hl : xs.length = n * 2) (h : ∀ j, j < n → xs[j * 2]? = some (.int .i64 (c j).day) ∧ xs[j * 2 + 1]? = some (.int .i64 (c j).amount)) : xs = rowOI2 c n := by
  have hlen := rowOI2_len c n
  refine List.ext_getElem? fun j => ?_
  by_cases hj : j < n * 2
  · obtain ⟨a0, a1⟩ := h (j / 2) (by omega)
    obtain ⟨b0, b1⟩ := rowOI2_get c n (j / 2) (by omega)
    have hm : j = j / 2 * 2 ∨ j = j / 2 * 2 + 1 := by omega
    rcases hm with hm | hm
    all_goals (rw [hm]; first | (rw [a0, b0]; done) | (rw [a1, b1]; done) | (rw [a2, b2]; done) | (rw [a3, b3]; done))
  · rw [List.getElem?_eq_none (by omega), List.getElem?_eq_none (by omega)]
theorem rowOI2_src {w : World} {a : Addr} {n : Nat} {c : Nat → OI2} (H : OIr w (some a) n c) : ∀ j v, (rowOI2 c n)[j]? = some v → w.cell? (a.add j) = some v := by
  intro j v hv
  have hlen := rowOI2_len c n
  have hj : j < n * 2 := by
    rcases Nat.lt_or_ge j (n * 2) with q | q
    · exact q
    · rw [List.getElem?_eq_none (by omega)] at hv; cases hv
  obtain ⟨k, off, e, hk⟩ := H.addr (by omega)
  cases e
  have hadd : (⟨k, off, none⟩ : Addr).add j = ⟨k, off + j, none⟩ := by unfold Addr.add; split <;> simp_all
  rw [hadd]
  obtain ⟨a0, a1⟩ := H.cell (j := j / 2) (by omega)
  obtain ⟨b0, b1⟩ := rowOI2_get c n (j / 2) (by omega)
  have hm : j = j / 2 * 2 ∨ j = j / 2 * 2 + 1 := by omega
  rcases hm with hm | hm
  · rw [hm] at hv ⊢; rw [b0] at hv; cases hv; exact a0
  · rw [hm] at hv ⊢; rw [b1] at hv; cases hv; rw [← Nat.add_assoc]; exact a1
set_option maxRecDepth 100000 in
theorem infoOI2 : ∃ i, Try.prog.info? 60 = some i ∧ i.zero = some (.agg #[.int .i64 0, .int .i64 0]) ∧ i.size = 2 ∧ i.bytes = 16 := by
  obtain ⟨i0, hi⟩ : ∃ i, Try.prog.info? 60 = some i := ⟨_, rfl⟩
  have hz0 : i0.zero = some (.agg #[.int .i64 0, .int .i64 0]) := by
    have : (Try.prog.info? 60).bind (·.zero) = some (.agg #[.int .i64 0, .int .i64 0]) := by kernel_rfl
    rw [hi] at this; exact this
  have hz1 : i0.size = 2 := by
    have : (Try.prog.info? 60).map (·.size) = some 2 := by kernel_rfl
    rw [hi] at this; simpa using this
  have hz2 : i0.bytes = 16 := by
    have : (Try.prog.info? 60).map (·.bytes) = some 16 := by kernel_rfl
    rw [hi] at this; simpa using this
  exact ⟨i0, hi, hz0, hz1, hz2⟩
theorem ownOI2_row {w : World} {base n : Nat} {ad : Option Addr} {cp : Nat} {u : Nat → OI2} (h : w.ownsRow base 60 2 (.slice ad n cp) n (rowOI2 u n)) : OIr w ad n u := by
  obtain ⟨hl, h2⟩ := h
  rcases h2 with ⟨e, e0⟩ | ⟨g, cap, cur, e, hb, hg, hn, hcap, hcs, ht⟩
  · exact .inl e0
  · simp only [Value.slice.injEq] at e
    obtain ⟨rfl, _, rfl⟩ := e
    have hlen := rowOI2_len u n
    refine OIr.of_block hg n u (fun j hj => ?_)
    have cell : ∀ o, o < n * 2 → cur[o]? = (rowOI2 u n)[o]? := fun o ho => by
      rw [← ht, List.getElem?_take, if_pos ho]
      simp
    obtain ⟨a0, a1⟩ := rowOI2_get u n j hj
    refine ⟨?_, ?_⟩ <;> (rw [cell _ (by omega)]; assumption)
/-- A row of its own beside a cursor at block b; every block of w but b is as it was. -/
structure DXOI2 (b : Nat) (w : World) (base g k oc : Nat) (c : Nat → OI2) (W : World) : Prop where
  cur : Cursor W b
  trn : Turns b w W
  own : W.ownsRow base 60 2 (.slice (some ⟨g, 0, none⟩) k oc) k (rowOI2 c k)
  bb : b < base
  bw : w.heap.size ≤ base
theorem OIr.turns {b : Nat} {w W : World} {g off len : Nat} {c : Nat → OI2} (H : OIr w (some ⟨g, off, none⟩) len c) (t : Turns b w W) (hb : g ≠ b) : OIr W (some ⟨g, off, none⟩) len c := by
  rcases H with h | ⟨k, o, e, hk, hc⟩
  · exact .inl h
  · cases e
    exact .inr ⟨g, off, rfl, Nat.lt_of_lt_of_le hk t.size, fun j hj => (hc j hj).block (t.block g hk hb)⟩
section
variable {b : Nat} {w W W' : World} {base g k oc : Nat} {c : Nat → OI2}
theorem DXOI2.gge (h : DXOI2 b w base g k oc c W) : base ≤ g ∧ g < W.heap.size := h.own.lt g rfl
theorem DXOI2.gb (h : DXOI2 b w base g k oc c W) : g ≠ b := by have := h.gge; have := h.bb; omega
theorem DXOI2.mv (h : DXOI2 b w base g k oc c W) : Moved b w W := ⟨h.cur, h.trn⟩
theorem DXOI2.moved (h : DXOI2 b w base g k oc c W) (m : Moved b W W') : DXOI2 b w base g k oc c W' := by
  have hg := h.gge
  have hb := h.bb
  refine ⟨m.1, h.trn.trans m.2, arow_block h.own (fun q hq => ?_), h.bb, h.bw⟩
  have : q = g := by simpa [Value.ownBlock] using hq.symm
  subst this
  exact m.2.block q hg.2 (by omega)
theorem DXOI2.below (h : DXOI2 b w base g k oc c W) (bl : Below W.heap.size W W') : DXOI2 b w base g k oc c W' := h.moved ⟨h.cur.below bl, Turns.of_below bl⟩
theorem DXOI2.alloc (h : DXOI2 b w base g k oc c W) (o : Obj) : DXOI2 b w base g k oc c (W.alloc o) := h.below ((Below.refl _ _).alloc (Nat.le_refl _) o)
theorem DXOI2.dN (h : DXOI2 b w base g k oc c W) (q : Nat) : DXOI2 b w base g k oc c (W.drewN q) := h.below (bd_N (Below.refl _ _) q)
theorem DXOI2.dr (h : DXOI2 b w base g k oc c W) : DXOI2 b w base g k oc c W.drew := h.below (Below.refl _ _).drew
theorem DXOI2.row (h : DXOI2 b w base g k oc c W) : OIr W (some ⟨g, 0, none⟩) k c := ownOI2_row h.own
theorem DXOI2.start (hc : Cursor w b) : DXOI2 b w w.heap.size w.heap.size 0 0 c (w.alloc (.cells #[] 60 (0, 0))) :=
  ⟨hc.alloc _, (Turns.refl _ _).alloc _, ⟨rfl, .inr ⟨w.heap.size, 0, #[], rfl, Nat.le_refl _, CB.new _ _, Nat.le_refl _, Nat.zero_le _, rfl, rfl⟩⟩, hc.lt, Nat.le_refl _⟩
theorem DXOI2.grow {w9 : World} {g9 oc9 : Nat} {x : OI2} (h : DXOI2 b w base g k oc c W) (hg : W.grownBy w9 (Value.slice (some ⟨g, 0, none⟩) k oc).ownBlock) (hown : w9.ownsRow base 60 2 (.slice (some ⟨g9, 0, none⟩) (k + 1) oc9) (k + 1) (rowOI2 c k ++ [.int .i64 x.day, .int .i64 x.amount])) : DXOI2 b w base g9 (k + 1) oc9 (addOI2 c k x) w9 := by
  have h1 := h.gge
  have h2 := h.bb
  have h3 := h.bw
  refine ⟨h.cur.grown hg (fun q hq => ?_), h.trn.grown hg (fun q hq => ?_), by rw [rowOI2_add]; exact hown, h.bb, h.bw⟩
  · have : q = g := by simpa [Value.ownBlock] using hq.symm
    omega
  · have : q = g := by simpa [Value.ownBlock] using hq.symm
    omega
theorem DXOI2.fr (h : DXOI2 b w base g k oc c W) (o : Nat) : W.frozen? ⟨g, o, none⟩ = false := by
  rcases h.own.2 with ⟨e, _⟩ | ⟨g', cap, cur, e, hb, hg, h1, _⟩
  · cases e
  · simp only [Value.slice.injEq, Option.some.injEq, Addr.mk.injEq] at e
    obtain ⟨⟨rfl, _, _⟩, _, rfl⟩ := e
    exact CB.fr hg o
theorem DXOI2.cap (h : DXOI2 b w base g k oc c W) : k ≤ oc := by
  rcases h.own.2 with ⟨e, _⟩ | ⟨g', cap, cur, e, hb, hg, h1, _⟩
  · cases e
  · simp only [Value.slice.injEq, Option.some.injEq, Addr.mk.injEq] at e
    obtain ⟨⟨rfl, _, _⟩, _, rfl⟩ := e
    exact h1
theorem DXOI2.put0 (h : DXOI2 b w base g k oc c W) {i : Nat} (hi : i < k) (x : Int) : DXOI2 b w base g k oc (fun j => if j = i then ⟨x, (c j).amount⟩ else c j) (W.setCell ⟨g, i * 2, none⟩ (.int .i64 x)) := by
  have hg := h.gge
  have hbb := h.bb
  have hbw := h.bw
  have hlen := rowOI2_len c k
  refine ⟨h.cur.low (by simp) (fun y hy => Below.heap_setCell _ _ _ _ (by simp; omega)), ⟨h.trn.os, h.trn.tape, h.trn.output, by simpa using h.trn.size, fun y hy hyb => (Below.heap_setCell _ _ _ _ (by show y ≠ g; omega)).trans (h.trn.block y hy hyb)⟩, ?_, h.bb, h.bw⟩
  have e : (rowOI2 c k).set (i * 2) (.int .i64 x) = rowOI2 (fun j => if j = i then ⟨x, (c j).amount⟩ else c j) k := rowOI2_ext (by simp [hlen]) (fun j hj => by
    obtain ⟨a0, a1⟩ := rowOI2_get c k j hj
    by_cases e : j = i
    · subst e
      simp only [if_true]
      refine ⟨?_, ?_⟩
      · rw [List.getElem?_set_self (by omega)]
      · rw [List.getElem?_set_ne (by omega)]; assumption
    · simp only [if_neg e]
      refine ⟨?_, ?_⟩ <;> (rw [List.getElem?_set_ne (by omega)]; assumption))
  rw [← e]
  exact own_set h.own _ _ (by omega)
theorem DXOI2.put1 (h : DXOI2 b w base g k oc c W) {i : Nat} (hi : i < k) (x : Int) : DXOI2 b w base g k oc (fun j => if j = i then ⟨(c j).day, x⟩ else c j) (W.setCell ⟨g, i * 2 + 1, none⟩ (.int .i64 x)) := by
  have hg := h.gge
  have hbb := h.bb
  have hbw := h.bw
  have hlen := rowOI2_len c k
  refine ⟨h.cur.low (by simp) (fun y hy => Below.heap_setCell _ _ _ _ (by simp; omega)), ⟨h.trn.os, h.trn.tape, h.trn.output, by simpa using h.trn.size, fun y hy hyb => (Below.heap_setCell _ _ _ _ (by show y ≠ g; omega)).trans (h.trn.block y hy hyb)⟩, ?_, h.bb, h.bw⟩
  have e : (rowOI2 c k).set (i * 2 + 1) (.int .i64 x) = rowOI2 (fun j => if j = i then ⟨(c j).day, x⟩ else c j) k := rowOI2_ext (by simp [hlen]) (fun j hj => by
    obtain ⟨a0, a1⟩ := rowOI2_get c k j hj
    by_cases e : j = i
    · subst e
      simp only [if_true]
      refine ⟨?_, ?_⟩
      · rw [List.getElem?_set_ne (by omega)]; assumption
      · rw [List.getElem?_set_self (by omega)]
    · simp only [if_neg e]
      refine ⟨?_, ?_⟩ <;> (rw [List.getElem?_set_ne (by omega)]; assumption))
  rw [← e]
  exact own_set h.own _ _ (by omega)
end
end Go.Proofs.Ytnglofgcckdbmaa
