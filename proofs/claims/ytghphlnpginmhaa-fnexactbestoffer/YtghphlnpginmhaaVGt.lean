/- Rows of rates that the call itself has made, in a map by their place: what appends and stores leave. Nothing of the program but the numbers of its types. -/
import Derived.Test.YtghphlnpginmhaaVMp
import Derived.Test.YtghphlnpginmhaaVGp
namespace Go.Proofs.Ytghphlnpginmhaa.Rt
open Go.RowKit
set_option linter.unusedVariables false
def nilS : Value := .slice none 0 0
def flatR (l : List R4) : List Value := l.flatMap R4.cells
theorem flatR_len (l : List R4) : (flatR l).length = l.length * 4 := by
  induction l with
  | nil => rfl
  | cons a t ih => simp only [flatR, List.flatMap_cons, List.length_append, List.length_cons] at *; rw [ih]; simp [R4.cells]; omega
theorem flatR_snoc (l : List R4) (x : R4) : flatR (l ++ [x]) = flatR l ++ x.cells := by simp [flatR]
theorem flatR_get : ∀ (l : List R4) (j : Nat) (h : j < l.length), (flatR l)[j * 4]? = some (.int .i64 l[j].day) ∧ (flatR l)[j * 4 + 1]? = some (.int .i64 l[j].from_) ∧ (flatR l)[j * 4 + 2]? = some (.int .i64 l[j].num) ∧ (flatR l)[j * 4 + 3]? = some (.int .i64 l[j].den)
  | [], j, h => by simp at h
  | x :: t, 0, _ => by simp [flatR, R4.cells]
  | x :: t, j + 1, h => by
    have ih := flatR_get t j (by simpa using h)
    have e : ∀ i, (flatR (x :: t))[(j + 1) * 4 + i]? = (flatR t)[j * 4 + i]? := fun i => by
      show (x.cells ++ flatR t)[(j + 1) * 4 + i]? = _
      rw [List.getElem?_append_right (by simp [R4.cells]; omega)]
      congr 1
      simp [R4.cells]; omega
    have e0 := e 0
    simp only [Nat.add_zero] at e0
    rw [e0, e, e, e]
    exact ih
/-- The map at block B holds for each place p a row of the rates L p; no two rows lie in one block. -/
def GT (P : Program) (w : World) (B n : Nat) (F : Int → Value) (L : Int → List R4) : Prop :=
  MP P 3 nilS w B n F ∧ (∀ p, w.ownsRow (B + 1) 144 4 (F p) (L p).length (flatR (L p))) ∧ ∀ p q, p ≠ q → (F p).ownBlock = none ∨ (F p).ownBlock ≠ (F q).ownBlock
theorem GT.made (P : Program) (w : World) : GT P (w.alloc (.map #[] 0)) w.heap.size 0 (fun _ => nilS) (fun _ => []) :=
  ⟨MP.made P 3 nilS w, fun p => World.ownsRow_nil _ _ _ _, fun p q _ => .inl rfl⟩
theorem GT.alloc {P : Program} {w : World} {B n : Nat} {F : Int → Value} {L : Int → List R4} (h : GT P w B n F L) (o : Obj) : GT P (w.alloc o) B n F L :=
  ⟨h.1.kept (World.grownBy_alloc w o none) (by simp), fun p => (h.2.1 p).alloc o, h.2.2⟩
theorem GT.drew {P : Program} {w : World} {B n : Nat} {F : Int → Value} {L : Int → List R4} (h : GT P w B n F L) : GT P w.drew B n F L := h
theorem GT.mono {P : Program} {w : World} {B n m : Nat} {F : Int → Value} {L : Int → List R4} (h : GT P w B n F L) (hm : n ≤ m) : GT P w B m F L := ⟨h.1.mono hm, h.2⟩
/-- A store into a block below the map leaves the tables. -/
theorem GT.setCell {P : Program} {w : World} {B n : Nat} {F : Int → Value} {L : Int → List R4} (h : GT P w B n F L) {b : Nat} (hb : b < B) (o : Nat) (u : Value) : GT P (w.setCell ⟨b, o, none⟩ u) B n F L := by
  refine ⟨h.1.block (Below.heap_setCell _ _ _ _ (by show B ≠ b; omega)), fun p => ownsRow_setCell_other (h.2.1 p) (fun e => ?_) u, h.2.2⟩
  have := ((h.2.1 p).lt _ e).1
  simp at this; omega
/-- What a table's rows are, as a row of rates. -/
theorem GT.row {P : Program} {w : World} {B n : Nat} {F : Int → Value} {L : Int → List R4} (h : GT P w B n F L) (p : Int) : ∃ ad cap, F p = .slice ad (L p).length cap ∧ RR w ad (L p).length (fun j => (L p).getD j ⟨0, 0, 0, 0⟩) := by
  obtain ⟨hl, h2⟩ := h.2.1 p
  rcases h2 with ⟨e, e0⟩ | ⟨g, cap, cur, e, hb, hg, hn, hcap, hcs, ht⟩
  · exact ⟨none, 0, by rw [e, e0], .inl e0⟩
  · refine ⟨_, cap, e, .inr ⟨g, 0, rfl, lt_of_block hg, fun j hj => ?_⟩⟩
    have cell : ∀ o, o < (L p).length * 4 → w.cell? ⟨g, o, none⟩ = (flatR (L p))[o]? := fun o ho => by
      simp only [World.cell?, hg]
      rw [← ht, List.getElem?_take, if_pos ho]
      simp
    obtain ⟨c0, c1, c2, c3⟩ := flatR_get (L p) j hj
    have eg : (L p).getD j ⟨0, 0, 0, 0⟩ = (L p)[j] := by simp [List.getD, List.getElem?_eq_getElem hj]
    unfold At4
    dsimp only
    rw [eg, Nat.zero_add, cell _ (by omega), cell _ (by omega), cell _ (by omega), cell _ (by omega)]
    exact ⟨c0, c1, c2, c3⟩
/-- Behind an append at the place p and the store of what came of it. -/
theorem GT.put {P : Program} {w w1 w2 : World} {B n : Nat} {F : Int → Value} {L : Int → List R4} {p : Int} {v : Value} {x : R4} (h : GT P w B n F L)
    (hg : w.grownBy w1 (F p).ownBlock) (ho : w1.ownsRow (B + 1) 144 4 v ((L p).length + 1) (flatR (L p ++ [x]))) (hloc : v.ownBlock = (F p).ownBlock ∨ v.ownBlock = some w.heap.size)
    (hm : MP P 3 nilS w2 B (n + 1) (fun y => if y = p then v else F y)) (hg2 : w1.grownBy w2 (some B)) :
    GT P w2 B (n + 1) (fun y => if y = p then v else F y) (fun y => if y = p then L p ++ [x] else L y) := by
  have own_lt : ∀ q g, (F q).ownBlock = some g → B + 1 ≤ g ∧ g < w.heap.size := fun q g e => (h.2.1 q).lt g e
  have ne_B : ∀ {u : Value} {k : Nat} {ys : List Value} {W : World}, W.ownsRow (B + 1) 144 4 u k ys → u.ownBlock = none ∨ u.ownBlock ≠ some B := fun {u k ys W} hu => by
    cases e : u.ownBlock with
    | none => exact .inl rfl
    | some g => exact .inr (fun e2 => by have := (hu.lt g e).1; cases e2; omega)
  have apart : ∀ q, q ≠ p → (F q).ownBlock = none ∨ (F q).ownBlock ≠ v.ownBlock := fun q hq => by
    rcases hloc with e | e
    · rw [e]; exact h.2.2 q p hq
    · cases e2 : (F q).ownBlock with
      | none => exact .inl rfl
      | some g => exact .inr (fun e3 => by rw [e] at e3; have := (own_lt q g e2).2; cases e3; omega)
  refine ⟨hm, fun q => ?_, fun q q' hne => ?_⟩
  · show w2.ownsRow (B + 1) 144 4 (if q = p then v else F q) (if q = p then L p ++ [x] else L q).length (flatR (if q = p then L p ++ [x] else L q))
    by_cases e : q = p
    · rw [if_pos e, if_pos e]
      rw [show (L p ++ [x]).length = (L p).length + 1 by simp]
      exact ho.kept hg2 (ne_B ho)
    · rw [if_neg e, if_neg e]
      have k1 := (h.2.1 q).kept hg (h.2.2 q p e)
      exact k1.kept hg2 (ne_B k1)
  · show (if q = p then v else F q).ownBlock = none ∨ (if q = p then v else F q).ownBlock ≠ (if q' = p then v else F q').ownBlock
    by_cases e : q = p
    · have e' : q' ≠ p := fun g => hne (e.trans g.symm)
      rw [if_pos e, if_neg e']
      rcases apart q' e' with g | g
      · cases e2 : v.ownBlock with
        | none => exact .inl rfl
        | some b => exact .inr (fun e3 => by rw [g] at e3; cases e3)
      · exact .inr (fun e3 => g e3.symm)
    · rw [if_neg e]
      by_cases e' : q' = p
      · rw [if_pos e']; exact apart q e
      · rw [if_neg e']; exact h.2.2 q q' hne
theorem four_new (w : World) (x : R4) (t : TypeId) : ∀ j u, x.cells[j]? = some u → (w.alloc (.cells #[.int .i64 x.day, .int .i64 x.from_, .int .i64 x.num, .int .i64 x.den] t)).cell? ((⟨w.heap.size, 0, none⟩ : Addr).add j) = some u := by
  intro j u hj
  have H := CB.new (w := w) #[.int .i64 x.day, .int .i64 x.from_, .int .i64 x.num, .int .i64 x.den] t
  match j, hj with
  | 0, hj => simp [R4.cells] at hj; subst hj; exact (H.cell 0).trans rfl
  | 1, hj => simp [R4.cells] at hj; subst hj; exact (H.cell 1).trans rfl
  | 2, hj => simp [R4.cells] at hj; subst hj; exact (H.cell 2).trans rfl
  | 3, hj => simp [R4.cells] at hj; subst hj; exact (H.cell 3).trans rfl
  | n + 4, hj => simp [R4.cells] at hj
theorem four_one (x : R4) : ∀ u ∈ x.cells, u.oneCell' = true := by intro u hu; simp [R4.cells] at hu; rcases hu with rfl | rfl | rfl | rfl <;> rfl
/-- An append at one operation of a region that draws. -/
theorem oper_append {P : Program} {w : World} {o : Oper} {a : Act} {K : Act → World → Prop} {Q : Exit → Act → World → Prop} (s x : Operand) (t : TypeId)
    (ho : o.op = .call { callee := .builtin .append, args := #[s, x], argTypes := #[t, t] })
    (base : Nat) (e : TypeId) (i : TypeInfo) (z : Value) (size bytes : Nat) (ht : P.underlying t = some (.slice e)) (hi : P.info? e = some i) (hz : i.zero = some z)
    (hsize : i.size = size) (hby : i.bytes = bytes) (hzs : z.cells.size = size) (hsz : 0 < size)
    (v : Value) (n : Nat) (xs : List Value) (hs : a.eval s = v) (hown : w.ownsRow base e size v n xs)
    (ad : Addr) (m c : Nat) (news : List Value) (hx : a.eval x = .slice (some ad) m c) (hl : news.length = m * size) (hnews : ∀ j u, news[j]? = some u → w.cell? (ad.add j) = some u) (h1 : ∀ u ∈ news, u.oneCell' = true)
    (h63 : n + m ≤ maxLen) (hbytes : (n + m) * bytes ≤ 140737488355328) (hbase : base ≤ w.heap.size)
    (h : ∀ v' w', w'.ownsRow base e size v' (n + m) (xs ++ news) → w.grownBy w' v.ownBlock → (v'.ownBlock = v.ownBlock ∨ v'.ownBlock = some w.heap.size) → K (a.put o.dst v') w') :
    Oper.wp P o a w K Q := by
  obtain ⟨v', w', hr, h2, h3, h4, h5⟩ := run_append_own_at (P := P) w base t o.type e i z size bytes ht hi hz hsize hby hzs hsz v n xs hown ad m c news hl hnews h1 h63 hbytes hbase
  unfold Oper.wp execOp
  simp only [ho, resolve, invoke, builtin, Sem.run_bind, Sem.run_pure, Result.andThen_ok, List.map_toArray, List.map_cons, List.map_nil, hs, hx, hr]
  exact h v' w' h2 h3 h5
/-- A store into a map at one operation of a region that draws. -/
theorem oper_update {P : Program} {w : World} {o : Oper} {a : Act} {K : Act → World → Prop} {Q : Exit → Act → World → Prop} (m x v : Operand) (t : TypeId) (hop : o.op = Op.mapUpdate t m x v)
    (k e : TypeId) (KK : Go.Maps.Keyed P k) (hk : P.underlying k = some (.int .i64)) (ht : P.underlying t = some (.map k e)) (z : Value) (b n : Nat) (F : Int → Value)
    (hm : a.eval m = .map (some b)) (hown : MP P k z w b n F) (hn : n < maxLen) (key : Int) (val : Value) (hx : a.eval x = .int .i64 key) (hv : a.eval v = val) (hw : (Lit.int .i64 key).wf = true)
    (hK : ∀ w', MP P k z w' b (n + 1) (fun y => if y = key then val else F y) → w.grownBy w' (some b) → K (a.put o.dst undef) w') : Oper.wp P o a w K Q := by
  obtain ⟨w', hrun, r1, r2⟩ := hown.update KK hk ht hn key hw val
  unfold Oper.wp
  simp [execOp, hop, hm, hx, hv, hrun, Result.andThen]
  exact hK w' r1 r2
end Go.Proofs.Ytghphlnpginmhaa.Rt
