/- The model's rows of ways: marks of their own, ways of their own. -/
import Derived.Test.YtmbdeafpfdeigaaQo
import Derived.Test.YtmbdeafpfdeigaaQp
import Derived.Laws.OwnMore
import Derived.Deep.RegionHeldLaw
import Derived.BigRegion
namespace Go.Proofs.Ytmbdeafpfdeigaa
open Go Go.ChangeShapes Go.WideShapes Go.ChangeAt Go.RowKit
set_option linter.unusedVariables false
set_option linter.unusedSimpArgs false

theorem oper_app {P : Program} {w : World} {o : Oper} {a : Act} {K : Act → World → Prop} {Q : Exit → Act → World → Prop} (s x : Operand) (t : TypeId)
    (ho : o.op = .call { callee := .builtin .append, args := #[s, x], argTypes := #[t, t] })
    (base : Nat) (e : TypeId) (i : TypeInfo) (z : Value) (size bytes : Nat) (ht : P.underlying t = some (.slice e)) (hi : P.info? e = some i) (hz : i.zero = some z)
    (hsize : i.size = size) (hby : i.bytes = bytes) (hzs : z.cells.size = size) (hsz : 0 < size)
    (v : Value) (n : Nat) (xs : List Value) (hs : a.eval s = v) (hown : w.ownsRow base e size v n xs)
    (ad : Addr) (m c : Nat) (news : List Value) (hx : a.eval x = .slice (some ad) m c) (hl : news.length = m * size) (hnews : ∀ j u, news[j]? = some u → w.cell? (ad.add j) = some u) (h1 : ∀ u ∈ news, u.oneCell' = true)
    (h63 : n + m ≤ maxLen) (hbytes : (n + m) * bytes ≤ 140737488355328) (hbase : base ≤ w.heap.size)
    (h : ∀ v' w', w'.ownsRow base e size v' (n + m) (xs ++ news) → w.grownBy w' v.ownBlock → K (a.put o.dst v') w') :
    Oper.wp P o a w K Q := by
  obtain ⟨v', w', hr, h2, h3, h4, h5⟩ := run_append_own_at (P := P) w base t o.type e i z size bytes ht hi hz hsize hby hzs hsz v n xs hown ad m c news hl hnews h1 h63 hbytes hbase
  unfold Oper.wp execOp
  simp only [ho, resolve, invoke, builtin, Sem.run_bind, Sem.run_pure, Result.andThen_ok, List.map_toArray, List.map_cons, List.map_nil, hs, hx, hr]
  exact h v' w' h2 h3
theorem oper_app0 {P : Program} {w : World} {o : Oper} {a : Act} {K : Act → World → Prop} {Q : Exit → Act → World → Prop} (s x : Operand) (t : TypeId)
    (ho : o.op = .call { callee := .builtin .append, args := #[s, x], argTypes := #[t, t] })
    (base : Nat) (e : TypeId) (i : TypeInfo) (size : Nat) (ht : P.underlying t = some (.slice e)) (hi : P.info? e = some i)
    (v : Value) (n : Nat) (xs : List Value) (hs : a.eval s = v) (hown : w.ownsRow base e size v n xs) (hx : a.eval x = .slice none 0 0)
    (h : K (a.put o.dst v) w) : Oper.wp P o a w K Q := by
  have hr := run_append_owned_none (P := P) (w := w) base t o.type e i size ht hi v n xs hown
  unfold Oper.wp execOp
  simp only [ho, resolve, invoke, builtin, Sem.run_bind, Sem.run_pure, Result.andThen_ok, List.map_toArray, List.map_cons, List.map_nil, hs, hx, hr]
  exact h
theorem cb_srcM {w : World} {b : Nat} {l : List Value} {t : TypeId} (h : CB w b l.toArray t) : ∀ j u, l[j]? = some u → w.cell? ((⟨b, 0, none⟩ : Addr).add j) = some u := by
  intro j u hj
  have e : (⟨b, 0, none⟩ : Addr).add j = ⟨b, j, none⟩ := by simp only [Addr.add]; by_cases q : j = 0 <;> simp [q]
  rw [e, h.cell]; simpa using hj
/-- Only blocks that are no row of marks turned, and blocks were made. -/
theorem cb_ne {W : World} {g g' : Nat} {cs cs' : Array Value} {t t' : TypeId} (h : CB W g cs t) (h' : CB W g' cs' t') (ht : t ≠ t') : g ≠ g' := fun e => by
  subst e
  unfold CB at h h'
  rw [h] at h'
  simp at h'
  exact ht h'.2
/-- A way's marks: none, or in a block of their own. -/
def MkR (W : World) (lo : Nat) (a : Option Addr) (l p : Nat) (mk : Nat → Nat) : Prop := (a = none ∧ l = 0 ∧ p = 0) ∨ ∃ g cs, a = some ⟨g, 0, none⟩ ∧ lo ≤ g ∧ CB W g cs 3 ∧ 0 < l ∧ l ≤ cs.size ∧ ∀ j, j < l → cs[j]? = some (.int .i64 (mk j : Int))
section
variable {W W' : World} {lo : Nat} {a : Option Addr} {l p : Nat} {mk : Nat → Nat}
theorem MkR.row (h : MkR W lo a l p mk) : IR W a l (fun j => (mk j : Int)) := by
  rcases h with ⟨_, h, _⟩ | ⟨g, cs, rfl, _, h1, _, _, h2⟩
  · exact .inl h
  · exact IR.of_block h1 l _ h2
theorem MkR.keep (h : MkR W lo a l p mk) (hk : ∀ g cs, CB W g cs 3 → W'.heap[g]? = W.heap[g]?) : MkR W' lo a l p mk := by
  rcases h with h | ⟨g, cs, e, h0, h1, h2⟩
  · exact .inl h
  · exact .inr ⟨g, cs, e, h0, h1.keep (hk g cs h1), h2⟩
theorem MkR.below (h : MkR W lo a l p mk) (b : Below W.heap.size W W') : MkR W' lo a l p mk := h.keep (fun g cs hg => b.block g hg.lt)
theorem MkR.set (h : MkR W lo a l p mk) {g o : Nat} {cs : Array Value} {t : TypeId} (hc : CB W g cs t) (ht : t ≠ 3) (v : Value) : MkR (W.setCell ⟨g, o, none⟩ v) lo a l p mk := h.keep (fun g' cs' hg => heap_set (cb_ne hg hc (fun e => ht e.symm)))
theorem MkR.grown (h : MkR W lo a l p mk) {row : Option Nat} (hg : W.grownBy W' row) (hr : ∀ g, row = some g → ∃ cs t, CB W g cs t ∧ t ≠ 3) : MkR W' lo a l p mk := h.keep (fun g cs hc => hg.block g hc.lt (fun e => by
  obtain ⟨cs', t, h1, h2⟩ := hr g e.symm
  exact cb_ne hc h1 (fun e => h2 e.symm) rfl))
theorem MkR.mono (h : MkR W lo a l p mk) {lo' : Nat} (hl : lo' ≤ lo) : MkR W lo' a l p mk := by
  rcases h with h | ⟨g, cs, e, h0, h1, h2⟩
  · exact .inl h
  · exact .inr ⟨g, cs, e, by omega, h1, h2⟩
theorem MkR.congr (h : MkR W lo a l p mk) {mk' : Nat → Nat} (e : ∀ j, j < l → mk j = mk' j) : MkR W lo a l p mk' := by
  rcases h with h | ⟨g, cs, e', h0, h1, h2, h3, h4⟩
  · exact .inl h
  · exact .inr ⟨g, cs, e', h0, h1, h2, h3, fun j hj => by rw [← e j hj]; exact h4 j hj⟩
end
theorem MkR.of {W : World} {base l : Nat} {v : Value} {xs : List Value} {mk : Nat → Nat} (h : W.ownsRow base 3 1 v (l + 1) xs) (hx : xs = intR (fun j => (mk j : Int)) (l + 1)) : ∃ a p, v = .slice a (l + 1) p ∧ MkR W base a (l + 1) p mk := by
  subst hx
  obtain ⟨ad, cp, rfl, _, ho⟩ := ownI_of h
  rcases ho with h | ⟨g, cs, e, h0, h1, h2, h3⟩
  · omega
  · exact ⟨ad, cp, rfl, .inr ⟨g, cs, e, h0, h1, by omega, h2, h3⟩⟩
/-- Rows of ways as lists. -/
def wyL (c : Nat → Int) (a : Nat → Option Addr) (l p : Nat → Nat) : Nat → List Value
  | 0 => []
  | k + 1 => wyL c a l p k ++ [.int .i64 (c k), .slice (a k) (l k) (p k)]
theorem wyL_len (c : Nat → Int) (a : Nat → Option Addr) (l p : Nat → Nat) : ∀ n, (wyL c a l p n).length = n * 2
  | 0 => rfl
  | n + 1 => by simp [wyL, wyL_len c a l p n]; omega
theorem wyL_congr {c c' : Nat → Int} {a a' : Nat → Option Addr} {l l' p p' : Nat → Nat} : ∀ n, (∀ j, j < n → c j = c' j ∧ a j = a' j ∧ l j = l' j ∧ p j = p' j) → wyL c a l p n = wyL c' a' l' p' n
  | 0, _ => rfl
  | n + 1, h => by
    obtain ⟨h1, h2, h3, h4⟩ := h n (by omega)
    simp only [wyL]
    rw [wyL_congr n (fun j hj => h j (by omega)), h1, h2, h3, h4]
theorem wyL_get (c : Nat → Int) (a : Nat → Option Addr) (l p : Nat → Nat) : ∀ n j, j < n → (wyL c a l p n)[j * 2]? = some (.int .i64 (c j)) ∧ (wyL c a l p n)[j * 2 + 1]? = some (.slice (a j) (l j) (p j))
  | 0, j, h => by omega
  | n + 1, j, h => by
    have e := wyL_len c a l p n
    simp only [wyL]
    by_cases hj : j = n
    · subst hj
      rw [List.getElem?_append_right (by omega), List.getElem?_append_right (by omega), show j * 2 - (wyL c a l p j).length = 0 by omega, show j * 2 + 1 - (wyL c a l p j).length = 1 by omega]
      exact ⟨rfl, rfl⟩
    · rw [List.getElem?_append_left (by omega), List.getElem?_append_left (by omega)]; exact wyL_get c a l p n j (by omega)
/-- The ways up to the first e ends, in a row of their own. -/
structure WYs (S H : Int) (m : Nat → Int) (W : World) (lo : Nat) (wa : Option Addr) (e wc : Nat) (a : Nat → Option Addr) (l p : Nat → Nat) (mk : Nat → Nat → Nat) : Prop where
  own : W.ownsRow lo 120 2 (.slice wa e wc) e (wyL (fun j => (wT S H m j j).1) a l p e)
  mks : ∀ j, j < e → MkR W lo (a j) (l j) (p j) (mk j) ∧ IsCh S H m (l j) j (mk j)
section
variable {S H : Int} {m : Nat → Int} {W W' : World} {lo e wc : Nat} {wa : Option Addr} {a : Nat → Option Addr} {l p : Nat → Nat} {mk : Nat → Nat → Nat}
theorem WYs.below (h : WYs S H m W lo wa e wc a l p mk) (b : Below W.heap.size W W') : WYs S H m W' lo wa e wc a l p mk := ⟨ownsRow_below h.own b, fun j hj => ⟨(h.mks j hj).1.below b, (h.mks j hj).2⟩⟩
theorem WYs.at (h : WYs S H m W lo wa e wc a l p mk) {j : Nat} (hj : j < e) : ∃ g, wa = some ⟨g, 0, none⟩ ∧ g < W.heap.size ∧ lo ≤ g ∧ e ≤ wc ∧ (∃ cs, CB W g cs 120) ∧ ∀ j, j < e → W.cell? ⟨g, j * 2, none⟩ = some (.int .i64 (wT S H m j j).1) ∧ W.cell? ⟨g, j * 2 + 1, none⟩ = some (.slice (a j) (l j) (p j)) := by
  obtain ⟨hl, h2⟩ := h.own
  rcases h2 with ⟨q, e0⟩ | ⟨g, cap, cur, q, hb, hg, hn, hcap, hcs, ht⟩
  · omega
  · simp only [Value.slice.injEq] at q
    have hcb : CB W g cur 120 := hg
    refine ⟨g, q.1, hcb.lt, hb, by omega, ⟨cur, hcb⟩, fun j hj => ?_⟩
    have cell : ∀ o, o < e * 2 → cur[o]? = (wyL (fun j => (wT S H m j j).1) a l p e)[o]? := fun o ho => by
      rw [← ht, List.getElem?_take, if_pos (by omega)]
      simp
    rw [hcb.cell, hcb.cell, cell _ (by omega), cell _ (by omega)]
    exact wyL_get _ a l p e j hj
/-- One way more. -/
theorem WYs.grow (h : WYs S H m W lo wa e wc a l p mk) {W1 W9 : World} {v : Value} {a1 : Option Addr} {l1 p1 : Nat} {mk1 : Nat → Nat} {c1 : Int} (hc : c1 = (wT S H m e e).1) (hch : IsCh S H m l1 e mk1) (hm : MkR W lo a1 l1 p1 mk1) (b : Below W.heap.size W W1)
    (hown : W9.ownsRow lo 120 2 v (e + 1) (wyL (fun j => (wT S H m j j).1) a l p e ++ [.int .i64 c1, .slice a1 l1 p1])) (hgr : W1.grownBy W9 (Value.slice wa e wc).ownBlock) :
    ∃ wa' wc', v = .slice wa' (e + 1) wc' ∧ WYs S H m W9 lo wa' (e + 1) wc' (fun j => if j = e then a1 else a j) (fun j => if j = e then l1 else l j) (fun j => if j = e then p1 else p j) (fun j => if j = e then mk1 else mk j) := by
  obtain ⟨wa', wc', rfl⟩ := row_form hown
  have hr : ∀ g, (Value.slice wa e wc).ownBlock = some g → ∃ cs t, CB W1 g cs t ∧ t ≠ 3 := fun g hg => by
    rcases h.own.2 with ⟨q, _⟩ | ⟨g', cap, cur, q, hb, hg', _⟩
    · rw [q] at hg; simp [Value.ownBlock] at hg
    · rw [q] at hg
      simp [Value.ownBlock] at hg
      subst hg
      have hcb : CB W g' cur 120 := hg'
      exact ⟨cur, _, hcb.below b hcb.lt, by decide⟩
  refine ⟨wa', wc', rfl, ?_, fun j hj => ?_⟩
  · have : wyL (fun j => (wT S H m j j).1) (fun j => if j = e then a1 else a j) (fun j => if j = e then l1 else l j) (fun j => if j = e then p1 else p j) (e + 1) = wyL (fun j => (wT S H m j j).1) a l p e ++ [.int .i64 c1, .slice a1 l1 p1] := by
      simp only [wyL]
      rw [wyL_congr e (fun j hj => ⟨rfl, if_neg (by omega), if_neg (by omega), if_neg (by omega)⟩), hc]
      simp
    rw [this]; exact hown
  · by_cases q : j = e
    · subst q
      simp only [if_pos]
      exact ⟨(hm.below b).grown hgr hr, hch⟩
    · simp only [if_neg q]
      exact ⟨((h.mks j (by omega)).1.below b).grown hgr hr, (h.mks j (by omega)).2⟩
end
/-- What is kept on the way through the later buckets, so far. -/
theorem kP_step (m : Nat → Int) {F t : Nat} (e : Nat) (hF : F ≤ t) : kF m F t + ((t : Int) - (F : Int)) * (smQ m e - smQ m t) + (smQ m e - smQ m (t + 1)) = kF m F (t + 1) + (((t + 1 : Nat) : Int) - (F : Int)) * (smQ m e - smQ m (t + 1)) := by
  rw [kF_s m hF, smQ_s]
  have e1 : (((t + 1 : Nat) : Int) - (F : Int)) * (smQ m e - (smQ m t + m t)) = ((t : Int) - (F : Int)) * (smQ m e - smQ m t) - ((t : Int) - (F : Int)) * m t + (smQ m e - smQ m t - m t) := by
    rw [show ((t + 1 : Nat) : Int) - (F : Int) = ((t : Int) - (F : Int)) + 1 by omega, Int.add_mul, Int.one_mul, show smQ m e - (smQ m t + m t) = (smQ m e - smQ m t) - m t by omega, Int.mul_sub]
  rw [e1]; omega
end Go.Proofs.Ytmbdeafpfdeigaa
