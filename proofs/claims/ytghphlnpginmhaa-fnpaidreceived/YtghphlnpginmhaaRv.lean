/- Rows of Receipt beside the cursor of a draw: moved on, appended to, a cell stored. -/
import Derived.Test.YtghphlnpginmhaaRa
import Derived.Test.YtghphlnpginmhaaXe
namespace Go.Proofs.Ytghphlnpginmhaa
open Go Go.ChangeShapes Go.WideShapes Go.ChangeAt Go.RowKit
set_option linter.unusedVariables false
set_option linter.unusedSimpArgs false

def rowRC2 (c : Nat → RC2) : Nat → List Value
  | 0 => []
  | k + 1 => rowRC2 c k ++ [.int .i64 (c k).line, .int .i64 (c k).qty]
theorem rowRC2_len (c : Nat → RC2) : ∀ n, (rowRC2 c n).length = n * 2
  | 0 => rfl
  | n + 1 => by simp [rowRC2, rowRC2_len c n]; omega
theorem rowRC2_one (c : Nat → RC2) : ∀ n, ∀ v ∈ rowRC2 c n, v.oneCell' = true
  | 0, v, h => by simp [rowRC2] at h
  | n + 1, v, h => by
    simp only [rowRC2, List.mem_append, List.mem_cons, List.not_mem_nil, or_false] at h
    rcases h with h | rfl | rfl
    · exact rowRC2_one c n v h
    all_goals rfl
theorem rowRC2_get (c : Nat → RC2) : ∀ n j, j < n → (rowRC2 c n)[j * 2]? = some (.int .i64 (c j).line) ∧ (rowRC2 c n)[j * 2 + 1]? = some (.int .i64 (c j).qty)
  | 0, j, h => by omega
  | n + 1, j, h => by
    have e := rowRC2_len c n
    by_cases hj : j = n
    · subst hj
      simp only [rowRC2]
      refine ⟨?_, ?_⟩
      · rw [List.getElem?_append_right (by omega), show j * 2 - (rowRC2 c j).length = 0 by omega]; rfl
      · rw [List.getElem?_append_right (by omega), show j * 2 + 1 - (rowRC2 c j).length = 1 by omega]; rfl
    · obtain ⟨a0, a1⟩ := rowRC2_get c n j (by omega)
      simp only [rowRC2]
      refine ⟨?_, ?_⟩ <;> (rw [List.getElem?_append_left (by omega)]; assumption)
theorem rowRC2_congr {u v : Nat → RC2} : ∀ {n : Nat}, (∀ j, j < n → u j = v j) → rowRC2 u n = rowRC2 v n
  | 0, _ => rfl
  | n + 1, h => by rw [rowRC2, rowRC2, rowRC2_congr (n := n) (fun j hj => h j (by omega)), h n (by omega)]
def addRC2 (c : Nat → RC2) (k : Nat) (x : RC2) (j : Nat) : RC2 := if j = k then x else c j
theorem addRC2_at (c : Nat → RC2) (k : Nat) (x : RC2) : addRC2 c k x k = x := if_pos rfl
theorem addRC2_ne {c : Nat → RC2} {k j : Nat} {x : RC2} (h : j ≠ k) : addRC2 c k x j = c j := if_neg h
theorem rowRC2_add (c : Nat → RC2) (k : Nat) (x : RC2) : rowRC2 (addRC2 c k x) (k + 1) = rowRC2 c k ++ [.int .i64 x.line, .int .i64 x.qty] := by
  rw [rowRC2, rowRC2_congr (v := c) (fun j hj => addRC2_ne (by omega)), addRC2_at]
theorem rowRC2_ext {xs : List Value} {c : Nat → RC2} {n : Nat} (hl : xs.length = n * 2) (h : ∀ j, j < n → xs[j * 2]? = some (.int .i64 (c j).line) ∧ xs[j * 2 + 1]? = some (.int .i64 (c j).qty)) : xs = rowRC2 c n := by
  have hlen := rowRC2_len c n
  refine List.ext_getElem? fun j => ?_
  by_cases hj : j < n * 2
  · obtain ⟨a0, a1⟩ := h (j / 2) (by omega)
    obtain ⟨b0, b1⟩ := rowRC2_get c n (j / 2) (by omega)
    have hm : j = j / 2 * 2 ∨ j = j / 2 * 2 + 1 := by omega
    rcases hm with hm | hm
    all_goals (rw [hm]; first | (rw [a0, b0]; done) | (rw [a1, b1]; done) | (rw [a2, b2]; done) | (rw [a3, b3]; done))
  · rw [List.getElem?_eq_none (by omega), List.getElem?_eq_none (by omega)]
theorem rowRC2_src {w : World} {a : Addr} {n : Nat} {c : Nat → RC2} (H : RCr w (some a) n c) : ∀ j v, (rowRC2 c n)[j]? = some v → w.cell? (a.add j) = some v := by
  intro j v hv
  have hlen := rowRC2_len c n
  have hj : j < n * 2 := by
    rcases Nat.lt_or_ge j (n * 2) with q | q
    · exact q
    · rw [List.getElem?_eq_none (by omega)] at hv; cases hv
  obtain ⟨k, off, e, hk⟩ := H.addr (by omega)
  cases e
  have hadd : (⟨k, off, none⟩ : Addr).add j = ⟨k, off + j, none⟩ := by unfold Addr.add; split <;> simp_all
  rw [hadd]
  obtain ⟨a0, a1⟩ := H.cell (j := j / 2) (by omega)
  obtain ⟨b0, b1⟩ := rowRC2_get c n (j / 2) (by omega)
  have hm : j = j / 2 * 2 ∨ j = j / 2 * 2 + 1 := by omega
  rcases hm with hm | hm
  · rw [hm] at hv ⊢; rw [b0] at hv; cases hv; exact a0
  · rw [hm] at hv ⊢; rw [b1] at hv; cases hv; rw [← Nat.add_assoc]; exact a1
set_option maxRecDepth 100000 in
theorem infoRC2 : ∃ i, Try.prog.info? 157 = some i ∧ i.zero = some (.agg #[.int .i64 0, .int .i64 0]) ∧ i.size = 2 ∧ i.bytes = 16 := by
  obtain ⟨i0, hi⟩ : ∃ i, Try.prog.info? 157 = some i := ⟨_, rfl⟩
  have hz0 : i0.zero = some (.agg #[.int .i64 0, .int .i64 0]) := by
    have : (Try.prog.info? 157).bind (·.zero) = some (.agg #[.int .i64 0, .int .i64 0]) := by kernel_rfl
    rw [hi] at this; exact this
  have hz1 : i0.size = 2 := by
    have : (Try.prog.info? 157).map (·.size) = some 2 := by kernel_rfl
    rw [hi] at this; simpa using this
  have hz2 : i0.bytes = 16 := by
    have : (Try.prog.info? 157).map (·.bytes) = some 16 := by kernel_rfl
    rw [hi] at this; simpa using this
  exact ⟨i0, hi, hz0, hz1, hz2⟩
theorem ownRC2_row {w : World} {base n : Nat} {ad : Option Addr} {cp : Nat} {u : Nat → RC2} (h : w.ownsRow base 157 2 (.slice ad n cp) n (rowRC2 u n)) : RCr w ad n u := by
  obtain ⟨hl, h2⟩ := h
  rcases h2 with ⟨e, e0⟩ | ⟨g, cap, cur, e, hb, hg, hn, hcap, hcs, ht⟩
  · exact .inl e0
  · simp only [Value.slice.injEq] at e
    obtain ⟨rfl, _, rfl⟩ := e
    have hlen := rowRC2_len u n
    refine RCr.of_block hg n u (fun j hj => ?_)
    have cell : ∀ o, o < n * 2 → cur[o]? = (rowRC2 u n)[o]? := fun o ho => by
      rw [← ht, List.getElem?_take, if_pos ho]
      simp
    obtain ⟨a0, a1⟩ := rowRC2_get u n j hj
    refine ⟨?_, ?_⟩ <;> (rw [cell _ (by omega)]; assumption)
/-- A row of its own beside a cursor at block b; every block of w but b is as it was. -/
structure DXRC2 (b : Nat) (w : World) (base g k oc : Nat) (c : Nat → RC2) (W : World) : Prop where
  cur : Cursor W b
  trn : Turns b w W
  own : W.ownsRow base 157 2 (.slice (some ⟨g, 0, none⟩) k oc) k (rowRC2 c k)
  bb : b < base
  bw : w.heap.size ≤ base
theorem RCr.turns {b : Nat} {w W : World} {g off len : Nat} {c : Nat → RC2} (H : RCr w (some ⟨g, off, none⟩) len c) (t : Turns b w W) (hb : g ≠ b) : RCr W (some ⟨g, off, none⟩) len c := by
  rcases H with h | ⟨k, o, e, hk, hc⟩
  · exact .inl h
  · cases e
    exact .inr ⟨g, off, rfl, Nat.lt_of_lt_of_le hk t.size, fun j hj => (hc j hj).block (t.block g hk hb)⟩
section
variable {b : Nat} {w W W' : World} {base g k oc : Nat} {c : Nat → RC2}
theorem DXRC2.gge (h : DXRC2 b w base g k oc c W) : base ≤ g ∧ g < W.heap.size := h.own.lt g rfl
theorem DXRC2.gb (h : DXRC2 b w base g k oc c W) : g ≠ b := by have := h.gge; have := h.bb; omega
theorem DXRC2.mv (h : DXRC2 b w base g k oc c W) : Moved b w W := ⟨h.cur, h.trn⟩
theorem DXRC2.moved (h : DXRC2 b w base g k oc c W) (m : Moved b W W') : DXRC2 b w base g k oc c W' := by
  have hg := h.gge
  have hb := h.bb
  refine ⟨m.1, h.trn.trans m.2, arow_block h.own (fun q hq => ?_), h.bb, h.bw⟩
  have : q = g := by simpa [Value.ownBlock] using hq.symm
  subst this
  exact m.2.block q hg.2 (by omega)
theorem DXRC2.below (h : DXRC2 b w base g k oc c W) (bl : Below W.heap.size W W') : DXRC2 b w base g k oc c W' := h.moved ⟨h.cur.below bl, Turns.of_below bl⟩
theorem DXRC2.alloc (h : DXRC2 b w base g k oc c W) (o : Obj) : DXRC2 b w base g k oc c (W.alloc o) := h.below ((Below.refl _ _).alloc (Nat.le_refl _) o)
theorem DXRC2.dN (h : DXRC2 b w base g k oc c W) (q : Nat) : DXRC2 b w base g k oc c (W.drewN q) := h.below (bd_N (Below.refl _ _) q)
theorem DXRC2.dr (h : DXRC2 b w base g k oc c W) : DXRC2 b w base g k oc c W.drew := h.below (Below.refl _ _).drew
theorem DXRC2.row (h : DXRC2 b w base g k oc c W) : RCr W (some ⟨g, 0, none⟩) k c := ownRC2_row h.own
theorem DXRC2.start (hc : Cursor w b) : DXRC2 b w w.heap.size w.heap.size 0 0 c (w.alloc (.cells #[] 157 (0, 0))) :=
  ⟨hc.alloc _, (Turns.refl _ _).alloc _, ⟨rfl, .inr ⟨w.heap.size, 0, #[], rfl, Nat.le_refl _, CB.new _ _, Nat.le_refl _, Nat.zero_le _, rfl, rfl⟩⟩, hc.lt, Nat.le_refl _⟩
theorem DXRC2.grow {w9 : World} {g9 oc9 : Nat} {x : RC2} (h : DXRC2 b w base g k oc c W) (hg : W.grownBy w9 (Value.slice (some ⟨g, 0, none⟩) k oc).ownBlock) (hown : w9.ownsRow base 157 2 (.slice (some ⟨g9, 0, none⟩) (k + 1) oc9) (k + 1) (rowRC2 c k ++ [.int .i64 x.line, .int .i64 x.qty])) : DXRC2 b w base g9 (k + 1) oc9 (addRC2 c k x) w9 := by
  have h1 := h.gge
  have h2 := h.bb
  have h3 := h.bw
  refine ⟨h.cur.grown hg (fun q hq => ?_), h.trn.grown hg (fun q hq => ?_), by rw [rowRC2_add]; exact hown, h.bb, h.bw⟩
  · have : q = g := by simpa [Value.ownBlock] using hq.symm
    omega
  · have : q = g := by simpa [Value.ownBlock] using hq.symm
    omega
theorem DXRC2.fr (h : DXRC2 b w base g k oc c W) (o : Nat) : W.frozen? ⟨g, o, none⟩ = false := by
  rcases h.own.2 with ⟨e, _⟩ | ⟨g', cap, cur, e, hb, hg, h1, _⟩
  · cases e
  · simp only [Value.slice.injEq, Option.some.injEq, Addr.mk.injEq] at e
    obtain ⟨⟨rfl, _, _⟩, _, rfl⟩ := e
    exact CB.fr hg o
theorem DXRC2.cap (h : DXRC2 b w base g k oc c W) : k ≤ oc := by
  rcases h.own.2 with ⟨e, _⟩ | ⟨g', cap, cur, e, hb, hg, h1, _⟩
  · cases e
  · simp only [Value.slice.injEq, Option.some.injEq, Addr.mk.injEq] at e
    obtain ⟨⟨rfl, _, _⟩, _, rfl⟩ := e
    exact h1
theorem DXRC2.put0 (h : DXRC2 b w base g k oc c W) {i : Nat} (hi : i < k) (x : Int) : DXRC2 b w base g k oc (fun j => if j = i then ⟨x, (c j).qty⟩ else c j) (W.setCell ⟨g, i * 2, none⟩ (.int .i64 x)) := by
  have hg := h.gge
  have hbb := h.bb
  have hbw := h.bw
  have hlen := rowRC2_len c k
  refine ⟨h.cur.low (by simp) (fun y hy => Below.heap_setCell _ _ _ _ (by simp; omega)), ⟨h.trn.os, h.trn.tape, h.trn.output, by simpa using h.trn.size, fun y hy hyb => (Below.heap_setCell _ _ _ _ (by show y ≠ g; omega)).trans (h.trn.block y hy hyb)⟩, ?_, h.bb, h.bw⟩
  have e : (rowRC2 c k).set (i * 2) (.int .i64 x) = rowRC2 (fun j => if j = i then ⟨x, (c j).qty⟩ else c j) k := rowRC2_ext (by simp [hlen]) (fun j hj => by
    obtain ⟨a0, a1⟩ := rowRC2_get c k j hj
    by_cases e : j = i
    · subst e
      simp only [if_true]
      refine ⟨?_, ?_⟩
      · rw [List.getElem?_set_self (by omega)]
      · rw [List.getElem?_set_ne (by omega)]; assumption
    · simp only [if_neg e]
      refine ⟨?_, ?_⟩ <;> (rw [List.getElem?_set_ne (by omega)]; assumption))
  rw [← e]
  exact own_set h.own _ _ (by omega)
theorem DXRC2.put1 (h : DXRC2 b w base g k oc c W) {i : Nat} (hi : i < k) (x : Int) : DXRC2 b w base g k oc (fun j => if j = i then ⟨(c j).line, x⟩ else c j) (W.setCell ⟨g, i * 2 + 1, none⟩ (.int .i64 x)) := by
  have hg := h.gge
  have hbb := h.bb
  have hbw := h.bw
  have hlen := rowRC2_len c k
  refine ⟨h.cur.low (by simp) (fun y hy => Below.heap_setCell _ _ _ _ (by simp; omega)), ⟨h.trn.os, h.trn.tape, h.trn.output, by simpa using h.trn.size, fun y hy hyb => (Below.heap_setCell _ _ _ _ (by show y ≠ g; omega)).trans (h.trn.block y hy hyb)⟩, ?_, h.bb, h.bw⟩
  have e : (rowRC2 c k).set (i * 2 + 1) (.int .i64 x) = rowRC2 (fun j => if j = i then ⟨(c j).line, x⟩ else c j) k := rowRC2_ext (by simp [hlen]) (fun j hj => by
    obtain ⟨a0, a1⟩ := rowRC2_get c k j hj
    by_cases e : j = i
    · subst e
      simp only [if_true]
      refine ⟨?_, ?_⟩
      · rw [List.getElem?_set_ne (by omega)]; assumption
      · rw [List.getElem?_set_self (by omega)]
    · simp only [if_neg e]
      refine ⟨?_, ?_⟩ <;> (rw [List.getElem?_set_ne (by omega)]; assumption))
  rw [← e]
  exact own_set h.own _ _ (by omega)
end
end Go.Proofs.Ytghphlnpginmhaa
