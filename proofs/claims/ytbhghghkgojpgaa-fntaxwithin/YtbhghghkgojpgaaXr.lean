/- Tax rules that are drawn: rows of rules in the making beside a cursor, and l10DrawRules. -/
import Derived.Test.YtbhghghkgojpgaaXn
import Derived.Test.YtbhghghkgojpgaaTr
import Derived.Deep.QuietTactic
namespace Go.Proofs.Ytbhghghkgojpgaa
open Go Go.ChangeShapes Go.WideShapes Go.ChangeAt Go.RowKit
set_option linter.unusedVariables false
set_option linter.unusedSimpArgs false

theorem oper_append {P : Program} {w : World} {o : Oper} {a : Act} {K : Act → World → Prop} {Q : Exit → Act → World → Prop} (s x : Operand) (t : TypeId)
    (ho : o.op = .call { callee := .builtin .append, args := #[s, x], argTypes := #[t, t] })
    (base : Nat) (e : TypeId) (i : TypeInfo) (z : Value) (size bytes : Nat) (ht : P.underlying t = some (.slice e)) (hi : P.info? e = some i) (hz : i.zero = some z)
    (hsize : i.size = size) (hby : i.bytes = bytes) (hzs : z.cells.size = size) (hsz : 0 < size)
    (v : Value) (n : Nat) (xs : List Value) (hs : a.eval s = v) (hown : w.ownsRow base e size v n xs)
    (ad : Addr) (m c : Nat) (news : List Value) (hx : a.eval x = .slice (some ad) m c) (hl : news.length = m * size) (hnews : ∀ j u, news[j]? = some u → w.cell? (ad.add j) = some u) (h1 : ∀ u ∈ news, u.oneCell' = true)
    (h63 : n + m ≤ maxLen) (hbytes : (n + m) * bytes ≤ 140737488355328) (hbase : base ≤ w.heap.size)
    (h : ∀ v' w', w'.ownsRow base e size v' (n + m) (xs ++ news) → w.grownBy w' v.ownBlock → (v'.ownBlock = v.ownBlock ∨ v'.ownBlock = some w.heap.size) → K (a.put o.dst v') w') :
    Oper.wp P o a w K Q := by
  obtain ⟨v', w', hr, h2, h3, h4, h5⟩ := run_append_own_at (P := P) w base t o.type e i z size bytes ht hi hz hsize hby hzs hsz v n xs hown ad m c news hl hnews h1 h63 hbytes hbase
  unfold Oper.wp execOp
  simp only [ho, resolve, invoke, builtin, Sem.run_bind, Sem.run_pure, Result.andThen_ok, List.map_toArray, List.map_cons, List.map_nil, hs, hx, hr]
  exact h v' w' h2 h3 h5


/-- A row of rules of its own beside a cursor at block b; what lay below B is as it was. -/
structure RW (B b : Nat) (w : World) (base g k oc : Nat) (c : Nat → T5) (W : World) : Prop where
  cur : Cursor W b
  bel : Below B w W
  own : W.ownsRow base 79 5 (.slice (some ⟨g, 0, none⟩) k oc) k (fl5 c k)
  sz : ∀ j, (c j).code.size ≤ 60
  bb : b < base
  Bb : B ≤ b
  wB : B ≤ w.heap.size
section
variable {B b : Nat} {w W W' : World} {base g k oc : Nat} {c : Nat → T5}
theorem RW.gge (h : RW B b w base g k oc c W) : base ≤ g ∧ g < W.heap.size := h.own.lt g rfl
theorem RW.moved (h : RW B b w base g k oc c W) (m : Moved b W W') : RW B b w base g k oc c W' := by
  have hg := h.gge
  have hb := h.bb
  have hl := h.cur.lt
  refine ⟨m.1, h.bel.trans (m.2.below h.Bb (by have := h.Bb; omega)), arow_block h.own (fun q hq => ?_), h.sz, h.bb, h.Bb, h.wB⟩
  have : q = g := by simpa [Value.ownBlock] using hq.symm
  subst this
  exact m.2.block q hg.2 (by omega)
theorem RW.below (h : RW B b w base g k oc c W) (bl : Below W.heap.size W W') : RW B b w base g k oc c W' := h.moved ⟨h.cur.below bl, Turns.of_below bl⟩
theorem RW.alloc (h : RW B b w base g k oc c W) (o : Obj) : RW B b w base g k oc c (W.alloc o) := h.below ((Below.refl _ _).alloc (Nat.le_refl _) o)
theorem RW.dN (h : RW B b w base g k oc c W) (q : Nat) : RW B b w base g k oc c (W.drewN q) := h.below (bdN (Below.refl _ _) q)
theorem RW.dr (h : RW B b w base g k oc c W) : RW B b w base g k oc c W.drew := h.below (Below.refl _ _).drew
theorem RW.set {q o : Nat} (h : RW B b w base g k oc c W) (u : Value) (h1 : q ≠ g) (h2 : b < q) (hq : q < W.heap.size) : RW B b w base g k oc c (W.setCell ⟨q, o, none⟩ u) := by
  refine ⟨h.cur.low (by simp) (fun y hy => Below.heap_setCell _ _ _ _ (by simp; omega)), h.bel.setCell (by show B ≤ q; have := h.Bb; omega) _, arow_block h.own (fun y hy => ?_), h.sz, h.bb, h.Bb, h.wB⟩
  have : y = g := by simpa [Value.ownBlock] using hy.symm
  subst this
  exact Below.heap_setCell _ _ _ _ (by simpa using fun e => h1 e.symm)
theorem RW.tr (h : RW B b w base g k oc c W) : TR W (some ⟨g, 0, none⟩) k c := row_TR h.own
theorem RW.grow {w9 : World} {g9 oc9 : Nat} {o : Obj} {c' : Nat → T5} (h : RW B b w base g k oc c W) (hg : (W.alloc o).grownBy w9 (Value.slice (some ⟨g, 0, none⟩) k oc).ownBlock) (hown : w9.ownsRow base 79 5 (.slice (some ⟨g9, 0, none⟩) (k + 1) oc9) (k + 1) (fl5 c' (k + 1))) (hs : ∀ j, (c' j).code.size ≤ 60) : RW B b w base g9 (k + 1) oc9 c' w9 := by
  have h1 := h.gge
  have h2 := h.bb
  refine ⟨(h.cur.alloc o).grown hg (fun q hq => ?_), bel_grown (h.bel.alloc (by have := h.cur.lt; have := h.Bb; omega) o) h.wB hg (fun q hq => ?_), hown, hs, h.bb, h.Bb, h.wB⟩
  · have : q = g := by simpa [Value.ownBlock] using hq.symm
    omega
  · have : q = g := by simpa [Value.ownBlock] using hq.symm
    have := h.Bb
    omega
end
theorem some_of {w : World} {base n cap : Nat} {e : TypeId} {size : Nat} {ad : Option Addr} {xs : List Value} (h : w.ownsRow base e size (.slice ad n cap) n xs) (hn : 0 < n) : ∃ g, ad = some ⟨g, 0, none⟩ := by
  obtain ⟨g, cp, h1, _⟩ := ownsRow_some h hn
  simp only [Value.slice.injEq] at h1
  exact ⟨g, h1.1⟩
/-- A row with one more. -/
def cAdd (c : Nat → T5) (k : Nat) (x : T5) (j : Nat) : T5 := if j = k then x else c j
theorem fl5_congr {u v : Nat → T5} : ∀ {n : Nat}, (∀ j, j < n → u j = v j) → fl5 u n = fl5 v n
  | 0, _ => rfl
  | n + 1, h => by rw [fl5, fl5, fl5_congr (n := n) (fun j hj => h j (by omega)), h n (by omega)]
theorem fl5_add (c : Nat → T5) (k : Nat) (x : T5) : fl5 (cAdd c k x) (k + 1) = fl5 c k ++ [.string x.code, .int .i64 x.fr, .int .i64 x.to, .int .i64 x.rate, .int .i64 x.kind] := by
  rw [fl5, fl5_congr (v := c) (fun j hj => by unfold cAdd; rw [if_neg (by omega)])]
  unfold cAdd; rw [if_pos rfl]
theorem cAdd_sz {c : Nat → T5} {k : Nat} {x : T5} (h : ∀ j, (c j).code.size ≤ 60) (hx : x.code.size ≤ 60) : ∀ j, (cAdd c k x j).code.size ≤ 60 := fun j => by unfold cAdd; split; exact hx; exact h j
/-- The cells of a row, read as a list. -/
theorem fl5_src {w : World} {g k : Nat} {c : Nat → T5} (h : TR w (some ⟨g, 0, none⟩) k c) : ∀ j v, (fl5 c k)[j]? = some v → w.cell? ((⟨g, 0, none⟩ : Addr).add j) = some v := by
  intro j v hv
  have hl := fl5_len c k
  have hj : j < k * 5 := by
    rcases Nat.lt_or_ge j (k * 5) with q | q
    · exact q
    · rw [List.getElem?_eq_none (by omega)] at hv; cases hv
  have hq : j / 5 < k := by omega
  obtain ⟨a0, a1, a2, a3, a4⟩ := h.cell hq
  obtain ⟨b0, b1, b2, b3, b4⟩ := fl5_get c k (j / 5) hq
  have e : (⟨g, 0, none⟩ : Addr).add j = ⟨g, j, none⟩ := by simp only [Addr.add]; by_cases q : j = 0 <;> simp [q]
  rw [e]
  simp only [Nat.zero_add] at a0 a1 a2 a3 a4
  have hm : j % 5 = 0 ∨ j % 5 = 1 ∨ j % 5 = 2 ∨ j % 5 = 3 ∨ j % 5 = 4 := by omega
  rcases hm with m | m | m | m | m
  · rw [show j = j / 5 * 5 by omega] at hv ⊢; rw [b0] at hv; rw [a0]; exact hv
  · rw [show j = j / 5 * 5 + 1 by omega] at hv ⊢; rw [b1] at hv; rw [a1]; exact hv
  · rw [show j = j / 5 * 5 + 2 by omega] at hv ⊢; rw [b2] at hv; rw [a2]; exact hv
  · rw [show j = j / 5 * 5 + 3 by omega] at hv ⊢; rw [b3] at hv; rw [a3]; exact hv
  · rw [show j = j / 5 * 5 + 4 by omega] at hv ⊢; rw [b4] at hv; rw [a4]; exact hv
theorem fl5_one (c : Nat → T5) : ∀ n, ∀ u ∈ fl5 c n, u.oneCell' = true
  | 0, u, h => by simp [fl5] at h
  | n + 1, u, h => by
    rw [fl5, List.mem_append] at h
    rcases h with h | h
    · exact fl5_one c n u h
    · simp at h; rcases h with rfl | rfl | rfl | rfl | rfl <;> rfl
end Go.Proofs.Ytbhghghkgojpgaa
