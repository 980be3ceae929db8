/- Rows of Dun beside the cursor of a draw: moved on, appended to, a cell stored. -/
import Derived.Test.YtlhgmdmbjpaakaaNa
import Derived.Test.YtlhgmdmbjpaakaaXe
namespace Go.Proofs.Ytlhgmdmbjpaakaa
open Go Go.ChangeShapes Go.WideShapes Go.ChangeAt Go.RowKit
set_option linter.unusedVariables false
set_option linter.unusedSimpArgs false

def rowDN3 (c : Nat → DN3) : Nat → List Value
  | 0 => []
  | k + 1 => rowDN3 c k ++ [.int .i64 (c k).days, .int .i64 (c k).fee, .int .i64 (c k).rate]
theorem rowDN3_len (c : Nat → DN3) : ∀ n, (rowDN3 c n).length = n * 3
  | 0 => rfl
  | n + 1 => by simp [rowDN3, rowDN3_len c n]; omega
theorem rowDN3_one (c : Nat → DN3) : ∀ n, ∀ v ∈ rowDN3 c n, v.oneCell' = true
  | 0, v, h => by simp [rowDN3] at h
  | n + 1, v, h => by
    simp only [rowDN3, List.mem_append, List.mem_cons, List.not_mem_nil, or_false] at h
    rcases h with h | rfl | rfl | rfl
    · exact rowDN3_one c n v h
    all_goals rfl
theorem rowDN3_get (c : Nat → DN3) : ∀ n j, j < n → (rowDN3 c n)[j * 3]? = some (.int .i64 (c j).days) ∧ (rowDN3 c n)[j * 3 + 1]? = some (.int .i64 (c j).fee) ∧ (rowDN3 c n)[j * 3 + 2]? = some (.int .i64 (c j).rate)
  | 0, j, h => by omega
  | n + 1, j, h => by
    have e := rowDN3_len c n
    by_cases hj : j = n
    · subst hj
      simp only [rowDN3]
      refine ⟨?_, ?_, ?_⟩
      · rw [List.getElem?_append_right (by omega), show j * 3 - (rowDN3 c j).length = 0 by omega]; rfl
      · rw [List.getElem?_append_right (by omega), show j * 3 + 1 - (rowDN3 c j).length = 1 by omega]; rfl
      · rw [List.getElem?_append_right (by omega), show j * 3 + 2 - (rowDN3 c j).length = 2 by omega]; rfl
    · obtain ⟨a0, a1, a2⟩ := rowDN3_get c n j (by omega)
      simp only [rowDN3]
      refine ⟨?_, ?_, ?_⟩ <;> (rw [List.getElem?_append_left (by omega)]; assumption)
theorem rowDN3_congr {u v : Nat → DN3} : ∀ {n : Nat}, (∀ j, j < n → u j = v j) → rowDN3 u n = rowDN3 v n
  | 0, _ => rfl
  | n + 1, h => by rw [rowDN3, rowDN3, rowDN3_congr (n := n) (fun j hj => h j (by omega)), h n (by omega)]
def addDN3 (c : Nat → DN3) (k : Nat) (x : DN3) (j : Nat) : DN3 := if j = k then x else c j
theorem addDN3_at (c : Nat → DN3) (k : Nat) (x : DN3) : addDN3 c k x k = x := if_pos rfl
theorem addDN3_ne {c : Nat → DN3} {k j : Nat} {x : DN3} (h : j ≠ k) : addDN3 c k x j = c j := if_neg h
theorem rowDN3_add (c : Nat → DN3) (k : Nat) (x : DN3) : rowDN3 (addDN3 c k x) (k + 1) = rowDN3 c k ++ [.int .i64 x.days, .int .i64 x.fee, .int .i64 x.rate] := by
  rw [rowDN3, rowDN3_congr (v := c) (fun j hj => addDN3_ne (by omega)), addDN3_at]
theorem rowDN3_ext {xs : List Value} {c : Nat → DN3} {n : Nat} (hl : xs.length = n * 3) (h : ∀ j, j < n → xs[j * 3]? = some (.int .i64 (c j).days) ∧ xs[j * 3 + 1]? = some (.int .i64 (c j).fee) ∧ xs[j * 3 + 2]? = some (.int .i64 (c j).rate)) : xs = rowDN3 c n := by
  have hlen := rowDN3_len c n
  refine List.ext_getElem? fun j => ?_
  by_cases hj : j < n * 3
  · obtain ⟨a0, a1, a2⟩ := h (j / 3) (by omega)
    obtain ⟨b0, b1, b2⟩ := rowDN3_get c n (j / 3) (by omega)
    have hm : j = j / 3 * 3 ∨ j = j / 3 * 3 + 1 ∨ j = j / 3 * 3 + 2 := by omega
    rcases hm with hm | hm | hm
    all_goals (rw [hm]; first | (rw [a0, b0]; done) | (rw [a1, b1]; done) | (rw [a2, b2]; done) | (rw [a3, b3]; done))
  · rw [List.getElem?_eq_none (by omega), List.getElem?_eq_none (by omega)]
theorem rowDN3_src {w : World} {a : Addr} {n : Nat} {c : Nat → DN3} (H : DNr w (some a) n c) : ∀ j v, (rowDN3 c n)[j]? = some v → w.cell? (a.add j) = some v := by
  intro j v hv
  have hlen := rowDN3_len c n
  have hj : j < n * 3 := by
    rcases Nat.lt_or_ge j (n * 3) with q | q
    · exact q
    · rw [List.getElem?_eq_none (by omega)] at hv; cases hv
  obtain ⟨k, off, e, hk⟩ := H.addr (by omega)
  cases e
  have hadd : (⟨k, off, none⟩ : Addr).add j = ⟨k, off + j, none⟩ := by unfold Addr.add; split <;> simp_all
  rw [hadd]
  obtain ⟨a0, a1, a2⟩ := H.cell (j := j / 3) (by omega)
  obtain ⟨b0, b1, b2⟩ := rowDN3_get c n (j / 3) (by omega)
  have hm : j = j / 3 * 3 ∨ j = j / 3 * 3 + 1 ∨ j = j / 3 * 3 + 2 := by omega
  rcases hm with hm | hm | hm
  · rw [hm] at hv ⊢; rw [b0] at hv; cases hv; exact a0
  · rw [hm] at hv ⊢; rw [b1] at hv; cases hv; rw [← Nat.add_assoc]; exact a1
  · rw [hm] at hv ⊢; rw [b2] at hv; cases hv; rw [← Nat.add_assoc]; exact a2
set_option maxRecDepth 100000 in
theorem infoDN3 : ∃ i, Try.prog.info? 43 = some i ∧ i.zero = some (.agg #[.int .i64 0, .int .i64 0, .int .i64 0]) ∧ i.size = 3 ∧ i.bytes = 24 := by
  obtain ⟨i0, hi⟩ : ∃ i, Try.prog.info? 43 = some i := ⟨_, rfl⟩
  have hz0 : i0.zero = some (.agg #[.int .i64 0, .int .i64 0, .int .i64 0]) := by
    have : (Try.prog.info? 43).bind (·.zero) = some (.agg #[.int .i64 0, .int .i64 0, .int .i64 0]) := by kernel_rfl
    rw [hi] at this; exact this
  have hz1 : i0.size = 3 := by
    have : (Try.prog.info? 43).map (·.size) = some 3 := by kernel_rfl
    rw [hi] at this; simpa using this
  have hz2 : i0.bytes = 24 := by
    have : (Try.prog.info? 43).map (·.bytes) = some 24 := by kernel_rfl
    rw [hi] at this; simpa using this
  exact ⟨i0, hi, hz0, hz1, hz2⟩
theorem ownDN3_row {w : World} {base n : Nat} {ad : Option Addr} {cp : Nat} {u : Nat → DN3} (h : w.ownsRow base 43 3 (.slice ad n cp) n (rowDN3 u n)) : DNr w ad n u := by
  obtain ⟨hl, h2⟩ := h
  rcases h2 with ⟨e, e0⟩ | ⟨g, cap, cur, e, hb, hg, hn, hcap, hcs, ht⟩
  · exact .inl e0
  · simp only [Value.slice.injEq] at e
    obtain ⟨rfl, _, rfl⟩ := e
    have hlen := rowDN3_len u n
    refine DNr.of_block hg n u (fun j hj => ?_)
    have cell : ∀ o, o < n * 3 → cur[o]? = (rowDN3 u n)[o]? := fun o ho => by
      rw [← ht, List.getElem?_take, if_pos ho]
      simp
    obtain ⟨a0, a1, a2⟩ := rowDN3_get u n j hj
    refine ⟨?_, ?_, ?_⟩ <;> (rw [cell _ (by omega)]; assumption)
/-- A row of its own beside a cursor at block b; what lay below B is as it was. -/
structure DWDN3 (B b : Nat) (w : World) (base g k oc : Nat) (c : Nat → DN3) (W : World) : Prop where
  cur : Cursor W b
  bel : Below B w W
  own : W.ownsRow base 43 3 (.slice (some ⟨g, 0, none⟩) k oc) k (rowDN3 c k)
  bb : b < base
  Bb : B ≤ b
  wB : B ≤ w.heap.size
section
variable {B b : Nat} {w W W' : World} {base g k oc : Nat} {c : Nat → DN3}
theorem DWDN3.gge (h : DWDN3 B b w base g k oc c W) : base ≤ g ∧ g < W.heap.size := h.own.lt g rfl
theorem DWDN3.moved (h : DWDN3 B b w base g k oc c W) (m : Moved b W W') : DWDN3 B b w base g k oc c W' := by
  have hg := h.gge
  have hb := h.bb
  have hl := h.cur.lt
  refine ⟨m.1, h.bel.trans (m.2.below h.Bb (by have := h.Bb; omega)), arow_block h.own (fun q hq => ?_), h.bb, h.Bb, h.wB⟩
  have : q = g := by simpa [Value.ownBlock] using hq.symm
  subst this
  exact m.2.block q hg.2 (by omega)
theorem DWDN3.below (h : DWDN3 B b w base g k oc c W) (bl : Below W.heap.size W W') : DWDN3 B b w base g k oc c W' := h.moved ⟨h.cur.below bl, Turns.of_below bl⟩
theorem DWDN3.alloc (h : DWDN3 B b w base g k oc c W) (o : Obj) : DWDN3 B b w base g k oc c (W.alloc o) := h.below ((Below.refl _ _).alloc (Nat.le_refl _) o)
theorem DWDN3.dN (h : DWDN3 B b w base g k oc c W) (q : Nat) : DWDN3 B b w base g k oc c (W.drewN q) := h.below (bd_N (Below.refl _ _) q)
theorem DWDN3.dr (h : DWDN3 B b w base g k oc c W) : DWDN3 B b w base g k oc c W.drew := h.below (Below.refl _ _).drew
theorem DWDN3.set {q o : Nat} (h : DWDN3 B b w base g k oc c W) (u : Value) (h1 : q ≠ g) (h2 : b < q) : DWDN3 B b w base g k oc c (W.setCell ⟨q, o, none⟩ u) := by
  refine ⟨h.cur.low (by simp) (fun y hy => Below.heap_setCell _ _ _ _ (by simp; omega)), h.bel.setCell (by show B ≤ q; have := h.Bb; omega) _, arow_block h.own (fun y hy => ?_), h.bb, h.Bb, h.wB⟩
  have : y = g := by simpa [Value.ownBlock] using hy.symm
  subst this
  exact Below.heap_setCell _ _ _ _ (by simpa using fun e => h1 e.symm)
theorem DWDN3.row (h : DWDN3 B b w base g k oc c W) : DNr W (some ⟨g, 0, none⟩) k c := ownDN3_row h.own
theorem DWDN3.start (hc : Cursor w b) : DWDN3 b b w w.heap.size w.heap.size 0 0 c (w.alloc (.cells #[] 43 (0, 0))) :=
  ⟨hc.alloc _, (Below.refl _ _).alloc (Nat.le_of_lt hc.lt) _, ⟨rfl, .inr ⟨w.heap.size, 0, #[], rfl, Nat.le_refl _, CB.new _ _, Nat.le_refl _, Nat.zero_le _, rfl, rfl⟩⟩, hc.lt, Nat.le_refl _, Nat.le_of_lt hc.lt⟩
theorem DWDN3.grow {w9 : World} {g9 oc9 : Nat} {x : DN3} (h : DWDN3 B b w base g k oc c W) (hg : W.grownBy w9 (Value.slice (some ⟨g, 0, none⟩) k oc).ownBlock) (hown : w9.ownsRow base 43 3 (.slice (some ⟨g9, 0, none⟩) (k + 1) oc9) (k + 1) (rowDN3 c k ++ [.int .i64 x.days, .int .i64 x.fee, .int .i64 x.rate])) : DWDN3 B b w base g9 (k + 1) oc9 (addDN3 c k x) w9 := by
  have h1 := h.gge
  have h2 := h.bb
  refine ⟨h.cur.grown hg (fun q hq => ?_), bel_grown h.bel h.wB hg (fun q hq => ?_), by rw [rowDN3_add]; exact hown, h.bb, h.Bb, h.wB⟩
  · have : q = g := by simpa [Value.ownBlock] using hq.symm
    omega
  · have : q = g := by simpa [Value.ownBlock] using hq.symm
    have := h.Bb
    omega
theorem DWDN3.fr (h : DWDN3 B b w base g k oc c W) (o : Nat) : W.frozen? ⟨g, o, none⟩ = false := by
  rcases h.own.2 with ⟨e, _⟩ | ⟨g', cap, cur, e, hb, hg, h1, _⟩
  · cases e
  · simp only [Value.slice.injEq, Option.some.injEq, Addr.mk.injEq] at e
    obtain ⟨⟨rfl, _, _⟩, _, rfl⟩ := e
    exact CB.fr hg o
theorem DWDN3.cap (h : DWDN3 B b w base g k oc c W) : k ≤ oc := by
  rcases h.own.2 with ⟨e, _⟩ | ⟨g', cap, cur, e, hb, hg, h1, _⟩
  · cases e
  · simp only [Value.slice.injEq, Option.some.injEq, Addr.mk.injEq] at e
    obtain ⟨⟨rfl, _, _⟩, _, rfl⟩ := e
    exact h1
theorem DWDN3.put0 (h : DWDN3 B b w base g k oc c W) {i : Nat} (hi : i < k) (x : Int) : DWDN3 B b w base g k oc (fun j => if j = i then ⟨x, (c j).fee, (c j).rate⟩ else c j) (W.setCell ⟨g, i * 3, none⟩ (.int .i64 x)) := by
  have hg := h.gge
  have hbb := h.bb
  have hBb := h.Bb
  have hlen := rowDN3_len c k
  refine ⟨h.cur.low (by simp) (fun y hy => Below.heap_setCell _ _ _ _ (by simp; omega)), h.bel.setCell (by show B ≤ g; omega) _, ?_, h.bb, h.Bb, h.wB⟩
  have e : (rowDN3 c k).set (i * 3) (.int .i64 x) = rowDN3 (fun j => if j = i then ⟨x, (c j).fee, (c j).rate⟩ else c j) k := rowDN3_ext (by simp [hlen]) (fun j hj => by
    obtain ⟨a0, a1, a2⟩ := rowDN3_get c k j hj
    by_cases e : j = i
    · subst e
      simp only [if_true]
      refine ⟨?_, ?_, ?_⟩
      · rw [List.getElem?_set_self (by omega)]
      · rw [List.getElem?_set_ne (by omega)]; assumption
      · rw [List.getElem?_set_ne (by omega)]; assumption
    · simp only [if_neg e]
      refine ⟨?_, ?_, ?_⟩ <;> (rw [List.getElem?_set_ne (by omega)]; assumption))
  rw [← e]
  exact own_set h.own _ _ (by omega)
theorem DWDN3.put1 (h : DWDN3 B b w base g k oc c W) {i : Nat} (hi : i < k) (x : Int) : DWDN3 B b w base g k oc (fun j => if j = i then ⟨(c j).days, x, (c j).rate⟩ else c j) (W.setCell ⟨g, i * 3 + 1, none⟩ (.int .i64 x)) := by
  have hg := h.gge
  have hbb := h.bb
  have hBb := h.Bb
  have hlen := rowDN3_len c k
  refine ⟨h.cur.low (by simp) (fun y hy => Below.heap_setCell _ _ _ _ (by simp; omega)), h.bel.setCell (by show B ≤ g; omega) _, ?_, h.bb, h.Bb, h.wB⟩
  have e : (rowDN3 c k).set (i * 3 + 1) (.int .i64 x) = rowDN3 (fun j => if j = i then ⟨(c j).days, x, (c j).rate⟩ else c j) k := rowDN3_ext (by simp [hlen]) (fun j hj => by
    obtain ⟨a0, a1, a2⟩ := rowDN3_get c k j hj
    by_cases e : j = i
    · subst e
      simp only [if_true]
      refine ⟨?_, ?_, ?_⟩
      · rw [List.getElem?_set_ne (by omega)]; assumption
      · rw [List.getElem?_set_self (by omega)]
      · rw [List.getElem?_set_ne (by omega)]; assumption
    · simp only [if_neg e]
      refine ⟨?_, ?_, ?_⟩ <;> (rw [List.getElem?_set_ne (by omega)]; assumption))
  rw [← e]
  exact own_set h.own _ _ (by omega)
theorem DWDN3.put2 (h : DWDN3 B b w base g k oc c W) {i : Nat} (hi : i < k) (x : Int) : DWDN3 B b w base g k oc (fun j => if j = i then ⟨(c j).days, (c j).fee, x⟩ else c j) (W.setCell ⟨g, i * 3 + 2, none⟩ (.int .i64 x)) := by
  have hg := h.gge
  have hbb := h.bb
  have hBb := h.Bb
  have hlen := rowDN3_len c k
  refine ⟨h.cur.low (by simp) (fun y hy => Below.heap_setCell _ _ _ _ (by simp; omega)), h.bel.setCell (by show B ≤ g; omega) _, ?_, h.bb, h.Bb, h.wB⟩
  have e : (rowDN3 c k).set (i * 3 + 2) (.int .i64 x) = rowDN3 (fun j => if j = i then ⟨(c j).days, (c j).fee, x⟩ else c j) k := rowDN3_ext (by simp [hlen]) (fun j hj => by
    obtain ⟨a0, a1, a2⟩ := rowDN3_get c k j hj
    by_cases e : j = i
    · subst e
      simp only [if_true]
      refine ⟨?_, ?_, ?_⟩
      · rw [List.getElem?_set_ne (by omega)]; assumption
      · rw [List.getElem?_set_ne (by omega)]; assumption
      · rw [List.getElem?_set_self (by omega)]
    · simp only [if_neg e]
      refine ⟨?_, ?_, ?_⟩ <;> (rw [List.getElem?_set_ne (by omega)]; assumption))
  rw [← e]
  exact own_set h.own _ _ (by omega)
end
end Go.Proofs.Ytlhgmdmbjpaakaa
