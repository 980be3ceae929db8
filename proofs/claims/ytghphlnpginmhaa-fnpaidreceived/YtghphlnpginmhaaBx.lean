/- Rows of BillLine beside the cursor of a draw: moved on, appended to, a cell stored. -/
import Derived.Test.YtghphlnpginmhaaBa
import Derived.Test.YtghphlnpginmhaaXe
namespace Go.Proofs.Ytghphlnpginmhaa
open Go Go.ChangeShapes Go.WideShapes Go.ChangeAt Go.RowKit
set_option linter.unusedVariables false
set_option linter.unusedSimpArgs false

def rowBN3 (c : Nat → BN3) : Nat → List Value
  | 0 => []
  | k + 1 => rowBN3 c k ++ [.int .i64 (c k).line, .int .i64 (c k).qty, .int .i64 (c k).price]
theorem rowBN3_len (c : Nat → BN3) : ∀ n, (rowBN3 c n).length = n * 3
  | 0 => rfl
  | n + 1 => by simp [rowBN3, rowBN3_len c n]; omega
theorem rowBN3_one (c : Nat → BN3) : ∀ n, ∀ v ∈ rowBN3 c n, v.oneCell' = true
  | 0, v, h => by simp [rowBN3] at h
  | n + 1, v, h => by
    simp only [rowBN3, List.mem_append, List.mem_cons, List.not_mem_nil, or_false] at h
    rcases h with h | rfl | rfl | rfl
    · exact rowBN3_one c n v h
    all_goals rfl
theorem rowBN3_get (c : Nat → BN3) : ∀ n j, j < n → (rowBN3 c n)[j * 3]? = some (.int .i64 (c j).line) ∧ (rowBN3 c n)[j * 3 + 1]? = some (.int .i64 (c j).qty) ∧ (rowBN3 c n)[j * 3 + 2]? = some (.int .i64 (c j).price)
  | 0, j, h => by omega
  | n + 1, j, h => by
    have e := rowBN3_len c n
    by_cases hj : j = n
    · subst hj
      simp only [rowBN3]
      refine ⟨?_, ?_, ?_⟩
      · rw [List.getElem?_append_right (by omega), show j * 3 - (rowBN3 c j).length = 0 by omega]; rfl
      · rw [List.getElem?_append_right (by omega), show j * 3 + 1 - (rowBN3 c j).length = 1 by omega]; rfl
      · rw [List.getElem?_append_right (by omega), show j * 3 + 2 - (rowBN3 c j).length = 2 by omega]; rfl
    · obtain ⟨a0, a1, a2⟩ := rowBN3_get c n j (by omega)
      simp only [rowBN3]
      refine ⟨?_, ?_, ?_⟩ <;> (rw [List.getElem?_append_left (by omega)]; assumption)
theorem rowBN3_congr {u v : Nat → BN3} : ∀ {n : Nat}, (∀ j, j < n → u j = v j) → rowBN3 u n = rowBN3 v n
  | 0, _ => rfl
  | n + 1, h => by rw [rowBN3, rowBN3, rowBN3_congr (n := n) (fun j hj => h j (by omega)), h n (by omega)]
def addBN3 (c : Nat → BN3) (k : Nat) (x : BN3) (j : Nat) : BN3 := if j = k then x else c j
theorem addBN3_at (c : Nat → BN3) (k : Nat) (x : BN3) : addBN3 c k x k = x := if_pos rfl
theorem addBN3_ne {c : Nat → BN3} {k j : Nat} {x : BN3} (h : j ≠ k) : addBN3 c k x j = c j := if_neg h
theorem rowBN3_add (c : Nat → BN3) (k : Nat) (x : BN3) : rowBN3 (addBN3 c k x) (k + 1) = rowBN3 c k ++ [.int .i64 x.line, .int .i64 x.qty, .int .i64 x.price] := by
  rw [rowBN3, rowBN3_congr (v := c) (fun j hj => addBN3_ne (by omega)), addBN3_at]
theorem rowBN3_ext {xs : List Value} {c : Nat → BN3} {n : Nat} (hl : xs.length = n * 3) (h : ∀ j, j < n → xs[j * 3]? = some (.int .i64 (c j).line) ∧ xs[j * 3 + 1]? = some (.int .i64 (c j).qty) ∧ xs[j * 3 + 2]? = some (.int .i64 (c j).price)) : xs = rowBN3 c n := by
  have hlen := rowBN3_len c n
  refine List.ext_getElem? fun j => ?_
  by_cases hj : j < n * 3
  · obtain ⟨a0, a1, a2⟩ := h (j / 3) (by omega)
    obtain ⟨b0, b1, b2⟩ := rowBN3_get c n (j / 3) (by omega)
    have hm : j = j / 3 * 3 ∨ j = j / 3 * 3 + 1 ∨ j = j / 3 * 3 + 2 := by omega
    rcases hm with hm | hm | hm
    all_goals (rw [hm]; first | (rw [a0, b0]; done) | (rw [a1, b1]; done) | (rw [a2, b2]; done) | (rw [a3, b3]; done))
  · rw [List.getElem?_eq_none (by omega), List.getElem?_eq_none (by omega)]
theorem rowBN3_src {w : World} {a : Addr} {n : Nat} {c : Nat → BN3} (H : BNr w (some a) n c) : ∀ j v, (rowBN3 c n)[j]? = some v → w.cell? (a.add j) = some v := by
  intro j v hv
  have hlen := rowBN3_len c n
  have hj : j < n * 3 := by
    rcases Nat.lt_or_ge j (n * 3) with q | q
    · exact q
    · rw [List.getElem?_eq_none (by omega)] at hv; cases hv
  obtain ⟨k, off, e, hk⟩ := H.addr (by omega)
  cases e
  have hadd : (⟨k, off, none⟩ : Addr).add j = ⟨k, off + j, none⟩ := by unfold Addr.add; split <;> simp_all
  rw [hadd]
  obtain ⟨a0, a1, a2⟩ := H.cell (j := j / 3) (by omega)
  obtain ⟨b0, b1, b2⟩ := rowBN3_get c n (j / 3) (by omega)
  have hm : j = j / 3 * 3 ∨ j = j / 3 * 3 + 1 ∨ j = j / 3 * 3 + 2 := by omega
  rcases hm with hm | hm | hm
  · rw [hm] at hv ⊢; rw [b0] at hv; cases hv; exact a0
  · rw [hm] at hv ⊢; rw [b1] at hv; cases hv; rw [← Nat.add_assoc]; exact a1
  · rw [hm] at hv ⊢; rw [b2] at hv; cases hv; rw [← Nat.add_assoc]; exact a2
set_option maxRecDepth 100000 in
theorem infoBN3 : ∃ i, Try.prog.info? 122 = some i ∧ i.zero = some (.agg #[.int .i64 0, .int .i64 0, .int .i64 0]) ∧ i.size = 3 ∧ i.bytes = 24 := by
  obtain ⟨i0, hi⟩ : ∃ i, Try.prog.info? 122 = some i := ⟨_, rfl⟩
  have hz0 : i0.zero = some (.agg #[.int .i64 0, .int .i64 0, .int .i64 0]) := by
    have : (Try.prog.info? 122).bind (·.zero) = some (.agg #[.int .i64 0, .int .i64 0, .int .i64 0]) := by kernel_rfl
    rw [hi] at this; exact this
  have hz1 : i0.size = 3 := by
    have : (Try.prog.info? 122).map (·.size) = some 3 := by kernel_rfl
    rw [hi] at this; simpa using this
  have hz2 : i0.bytes = 24 := by
    have : (Try.prog.info? 122).map (·.bytes) = some 24 := by kernel_rfl
    rw [hi] at this; simpa using this
  exact ⟨i0, hi, hz0, hz1, hz2⟩
theorem ownBN3_row {w : World} {base n : Nat} {ad : Option Addr} {cp : Nat} {u : Nat → BN3} (h : w.ownsRow base 122 3 (.slice ad n cp) n (rowBN3 u n)) : BNr w ad n u := by
  obtain ⟨hl, h2⟩ := h
  rcases h2 with ⟨e, e0⟩ | ⟨g, cap, cur, e, hb, hg, hn, hcap, hcs, ht⟩
  · exact .inl e0
  · simp only [Value.slice.injEq] at e
    obtain ⟨rfl, _, rfl⟩ := e
    have hlen := rowBN3_len u n
    refine BNr.of_block hg n u (fun j hj => ?_)
    have cell : ∀ o, o < n * 3 → cur[o]? = (rowBN3 u n)[o]? := fun o ho => by
      rw [← ht, List.getElem?_take, if_pos ho]
      simp
    obtain ⟨a0, a1, a2⟩ := rowBN3_get u n j hj
    refine ⟨?_, ?_, ?_⟩ <;> (rw [cell _ (by omega)]; assumption)
/-- A row of its own beside a cursor at block b; every block of w but b is as it was. -/
structure DXBN3 (b : Nat) (w : World) (base g k oc : Nat) (c : Nat → BN3) (W : World) : Prop where
  cur : Cursor W b
  trn : Turns b w W
  own : W.ownsRow base 122 3 (.slice (some ⟨g, 0, none⟩) k oc) k (rowBN3 c k)
  bb : b < base
  bw : w.heap.size ≤ base
theorem BNr.turns {b : Nat} {w W : World} {g off len : Nat} {c : Nat → BN3} (H : BNr w (some ⟨g, off, none⟩) len c) (t : Turns b w W) (hb : g ≠ b) : BNr W (some ⟨g, off, none⟩) len c := by
  rcases H with h | ⟨k, o, e, hk, hc⟩
  · exact .inl h
  · cases e
    exact .inr ⟨g, off, rfl, Nat.lt_of_lt_of_le hk t.size, fun j hj => (hc j hj).block (t.block g hk hb)⟩
section
variable {b : Nat} {w W W' : World} {base g k oc : Nat} {c : Nat → BN3}
theorem DXBN3.gge (h : DXBN3 b w base g k oc c W) : base ≤ g ∧ g < W.heap.size := h.own.lt g rfl
theorem DXBN3.gb (h : DXBN3 b w base g k oc c W) : g ≠ b := by have := h.gge; have := h.bb; omega
theorem DXBN3.mv (h : DXBN3 b w base g k oc c W) : Moved b w W := ⟨h.cur, h.trn⟩
theorem DXBN3.moved (h : DXBN3 b w base g k oc c W) (m : Moved b W W') : DXBN3 b w base g k oc c W' := by
  have hg := h.gge
  have hb := h.bb
  refine ⟨m.1, h.trn.trans m.2, arow_block h.own (fun q hq => ?_), h.bb, h.bw⟩
  have : q = g := by simpa [Value.ownBlock] using hq.symm
  subst this
  exact m.2.block q hg.2 (by omega)
theorem DXBN3.below (h : DXBN3 b w base g k oc c W) (bl : Below W.heap.size W W') : DXBN3 b w base g k oc c W' := h.moved ⟨h.cur.below bl, Turns.of_below bl⟩
theorem DXBN3.alloc (h : DXBN3 b w base g k oc c W) (o : Obj) : DXBN3 b w base g k oc c (W.alloc o) := h.below ((Below.refl _ _).alloc (Nat.le_refl _) o)
theorem DXBN3.dN (h : DXBN3 b w base g k oc c W) (q : Nat) : DXBN3 b w base g k oc c (W.drewN q) := h.below (bd_N (Below.refl _ _) q)
theorem DXBN3.dr (h : DXBN3 b w base g k oc c W) : DXBN3 b w base g k oc c W.drew := h.below (Below.refl _ _).drew
theorem DXBN3.row (h : DXBN3 b w base g k oc c W) : BNr W (some ⟨g, 0, none⟩) k c := ownBN3_row h.own
theorem DXBN3.start (hc : Cursor w b) : DXBN3 b w w.heap.size w.heap.size 0 0 c (w.alloc (.cells #[] 122 (0, 0))) :=
  ⟨hc.alloc _, (Turns.refl _ _).alloc _, ⟨rfl, .inr ⟨w.heap.size, 0, #[], rfl, Nat.le_refl _, CB.new _ _, Nat.le_refl _, Nat.zero_le _, rfl, rfl⟩⟩, hc.lt, Nat.le_refl _⟩
theorem DXBN3.grow {w9 : World} {g9 oc9 : Nat} {x : BN3} (h : DXBN3 b w base g k oc c W) (hg : W.grownBy w9 (Value.slice (some ⟨g, 0, none⟩) k oc).ownBlock) (hown : w9.ownsRow base 122 3 (.slice (some ⟨g9, 0, none⟩) (k + 1) oc9) (k + 1) (rowBN3 c k ++ [.int .i64 x.line, .int .i64 x.qty, .int .i64 x.price])) : DXBN3 b w base g9 (k + 1) oc9 (addBN3 c k x) w9 := by
  have h1 := h.gge
  have h2 := h.bb
  have h3 := h.bw
  refine ⟨h.cur.grown hg (fun q hq => ?_), h.trn.grown hg (fun q hq => ?_), by rw [rowBN3_add]; exact hown, h.bb, h.bw⟩
  · have : q = g := by simpa [Value.ownBlock] using hq.symm
    omega
  · have : q = g := by simpa [Value.ownBlock] using hq.symm
    omega
theorem DXBN3.fr (h : DXBN3 b w base g k oc c W) (o : Nat) : W.frozen? ⟨g, o, none⟩ = false := by
  rcases h.own.2 with ⟨e, _⟩ | ⟨g', cap, cur, e, hb, hg, h1, _⟩
  · cases e
  · simp only [Value.slice.injEq, Option.some.injEq, Addr.mk.injEq] at e
    obtain ⟨⟨rfl, _, _⟩, _, rfl⟩ := e
    exact CB.fr hg o
theorem DXBN3.cap (h : DXBN3 b w base g k oc c W) : k ≤ oc := by
  rcases h.own.2 with ⟨e, _⟩ | ⟨g', cap, cur, e, hb, hg, h1, _⟩
  · cases e
  · simp only [Value.slice.injEq, Option.some.injEq, Addr.mk.injEq] at e
    obtain ⟨⟨rfl, _, _⟩, _, rfl⟩ := e
    exact h1
theorem DXBN3.put0 (h : DXBN3 b w base g k oc c W) {i : Nat} (hi : i < k) (x : Int) : DXBN3 b w base g k oc (fun j => if j = i then ⟨x, (c j).qty, (c j).price⟩ else c j) (W.setCell ⟨g, i * 3, none⟩ (.int .i64 x)) := by
  have hg := h.gge
  have hbb := h.bb
  have hbw := h.bw
  have hlen := rowBN3_len c k
  refine ⟨h.cur.low (by simp) (fun y hy => Below.heap_setCell _ _ _ _ (by simp; omega)), ⟨h.trn.os, h.trn.tape, h.trn.output, by simpa using h.trn.size, fun y hy hyb => (Below.heap_setCell _ _ _ _ (by show y ≠ g; omega)).trans (h.trn.block y hy hyb)⟩, ?_, h.bb, h.bw⟩
  have e : (rowBN3 c k).set (i * 3) (.int .i64 x) = rowBN3 (fun j => if j = i then ⟨x, (c j).qty, (c j).price⟩ else c j) k := rowBN3_ext (by simp [hlen]) (fun j hj => by
    obtain ⟨a0, a1, a2⟩ := rowBN3_get c k j hj
    by_cases e : j = i
    · subst e
      simp only [if_true]
      refine ⟨?_, ?_, ?_⟩
      · rw [List.getElem?_set_self (by omega)]
      · rw [List.getElem?_set_ne (by omega)]; assumption
      · rw [List.getElem?_set_ne (by omega)]; assumption
    · simp only [if_neg e]
      refine ⟨?_, ?_, ?_⟩ <;> (rw [List.getElem?_set_ne (by omega)]; assumption))
  rw [← e]
  exact own_set h.own _ _ (by omega)
theorem DXBN3.put1 (h : DXBN3 b w base g k oc c W) {i : Nat} (hi : i < k) (x : Int) : DXBN3 b w base g k oc (fun j => if j = i then ⟨(c j).line, x, (c j).price⟩ else c j) (W.setCell ⟨g, i * 3 + 1, none⟩ (.int .i64 x)) := by
  have hg := h.gge
  have hbb := h.bb
  have hbw := h.bw
  have hlen := rowBN3_len c k
  refine ⟨h.cur.low (by simp) (fun y hy => Below.heap_setCell _ _ _ _ (by simp; omega)), ⟨h.trn.os, h.trn.tape, h.trn.output, by simpa using h.trn.size, fun y hy hyb => (Below.heap_setCell _ _ _ _ (by show y ≠ g; omega)).trans (h.trn.block y hy hyb)⟩, ?_, h.bb, h.bw⟩
  have e : (rowBN3 c k).set (i * 3 + 1) (.int .i64 x) = rowBN3 (fun j => if j = i then ⟨(c j).line, x, (c j).price⟩ else c j) k := rowBN3_ext (by simp [hlen]) (fun j hj => by
    obtain ⟨a0, a1, a2⟩ := rowBN3_get c k j hj
    by_cases e : j = i
    · subst e
      simp only [if_true]
      refine ⟨?_, ?_, ?_⟩
      · rw [List.getElem?_set_ne (by omega)]; assumption
      · rw [List.getElem?_set_self (by omega)]
      · rw [List.getElem?_set_ne (by omega)]; assumption
    · simp only [if_neg e]
      refine ⟨?_, ?_, ?_⟩ <;> (rw [List.getElem?_set_ne (by omega)]; assumption))
  rw [← e]
  exact own_set h.own _ _ (by omega)
theorem DXBN3.put2 (h : DXBN3 b w base g k oc c W) {i : Nat} (hi : i < k) (x : Int) : DXBN3 b w base g k oc (fun j => if j = i then ⟨(c j).line, (c j).qty, x⟩ else c j) (W.setCell ⟨g, i * 3 + 2, none⟩ (.int .i64 x)) := by
  have hg := h.gge
  have hbb := h.bb
  have hbw := h.bw
  have hlen := rowBN3_len c k
  refine ⟨h.cur.low (by simp) (fun y hy => Below.heap_setCell _ _ _ _ (by simp; omega)), ⟨h.trn.os, h.trn.tape, h.trn.output, by simpa using h.trn.size, fun y hy hyb => (Below.heap_setCell _ _ _ _ (by show y ≠ g; omega)).trans (h.trn.block y hy hyb)⟩, ?_, h.bb, h.bw⟩
  have e : (rowBN3 c k).set (i * 3 + 2) (.int .i64 x) = rowBN3 (fun j => if j = i then ⟨(c j).line, (c j).qty, x⟩ else c j) k := rowBN3_ext (by simp [hlen]) (fun j hj => by
    obtain ⟨a0, a1, a2⟩ := rowBN3_get c k j hj
    by_cases e : j = i
    · subst e
      simp only [if_true]
      refine ⟨?_, ?_, ?_⟩
      · rw [List.getElem?_set_ne (by omega)]; assumption
      · rw [List.getElem?_set_ne (by omega)]; assumption
      · rw [List.getElem?_set_self (by omega)]
    · simp only [if_neg e]
      refine ⟨?_, ?_, ?_⟩ <;> (rw [List.getElem?_set_ne (by omega)]; assumption))
  rw [← e]
  exact own_set h.own _ _ (by omega)
end
end Go.Proofs.Ytghphlnpginmhaa
