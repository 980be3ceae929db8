/- A task is loaded by the program: what stands in memory, and addTask. -/
import Derived.Test.YtogolmbgboihdaaLb
import Derived.Test.YtogolmbgboihdaaSc
import Derived.Test.YtogolmbgboihdaaOe
import Derived.BigRegion
import Derived.BigQuiet
import Derived.Deep.RegionHeldLaw
import Derived.Deep.RegionHeld3
import Derived.Deep.QuietTactic
namespace Go.Proofs.Ytogolmbgboihdaa
open Go Go.ChangeShapes Go.WideShapes Go.ChangeAt Go.RowKit
set_option linter.unusedVariables false
set_option linter.unusedSimpArgs false

theorem oper_append {P : Program} {w : World} {o : Oper} {a : Act} {K : Act → World → Prop} {Q : Exit → Act → World → Prop} (s x : Operand) (t : TypeId)
    (ho : o.op = .call { callee := .builtin .append, args := #[s, x], argTypes := #[t, t] })
    (base : Nat) (e : TypeId) (i : TypeInfo) (z : Value) (size bytes : Nat) (ht : P.underlying t = some (.slice e)) (hi : P.info? e = some i) (hz : i.zero = some z)
    (hsize : i.size = size) (hby : i.bytes = bytes) (hzs : z.cells.size = size) (hsz : 0 < size)
    (v : Value) (n : Nat) (xs : List Value) (hs : a.eval s = v) (hown : w.ownsRow base e size v n xs)
    (ad : Addr) (m c : Nat) (news : List Value) (hx : a.eval x = .slice (some ad) m c) (hl : news.length = m * size) (hnews : ∀ j u, news[j]? = some u → w.cell? (ad.add j) = some u) (h1 : ∀ u ∈ news, u.oneCell' = true)
    (h63 : n + m ≤ maxLen) (hbytes : (n + m) * bytes ≤ 140737488355328) (hbase : base ≤ w.heap.size)
    (h : ∀ v' w', w'.ownsRow base e size v' (n + m) (xs ++ news) → w.grownBy w' v.ownBlock → (v'.ownBlock = v.ownBlock ∨ v'.ownBlock = some w.heap.size) → K (a.put o.dst v') w') :
    Oper.wp P o a w K Q := by
  obtain ⟨v', w', hr, h2, h3, h4, h5⟩ := run_append_own_at (P := P) w base t o.type e i z size bytes ht hi hz hsize hby hzs hsz v n xs hown ad m c news hl hnews h1 h63 hbytes hbase
  unfold Oper.wp execOp
  simp only [ho, resolve, invoke, builtin, Sem.run_bind, Sem.run_pure, Result.andThen_ok, List.map_toArray, List.map_cons, List.map_nil, hs, hx, hr]
  exact h v' w' h2 h3 h5

/-- What machine q did last, in memory. -/
def LPt (W : World) (d : Nat → JB) (S : Nat → SL5) (q k : Nat) (p : Option Addr) : Prop := (p = none ∧ lfM d S (q : Int) k = -1) ∨ ∃ pb, p = some ⟨pb, 0, none⟩ ∧ CB W pb #[.int .i64 (lfM d S (q : Int) k), .int .i64 (mxM S (q : Int) k)] 139 ∧ 0 ≤ lfM d S (q : Int) k
/-- A loading in its block, with its slots so far. -/
structure LG (w0 : World) (LB : Nat) (ma : Option Addr) (n mk : Nat) (ja : Option Addr) (m jk : Nat) (d : Nat → JB) (S : Nat → SL5) (k : Nat) (W : World) : Prop where
  bl : Below w0.heap.size w0 W
  lo : w0.heap.size ≤ LB
  main : ∃ cs sa oc, CB W LB cs 88 ∧ cs.size = 15 ∧ cs[0]? = some (.slice ma n mk) ∧ cs[1]? = some (.slice ja m jk) ∧ cs[14]? = some (.slice (some ⟨sa, 0, none⟩) k oc) ∧ W.ownsRow w0.heap.size 36 5 (.slice (some ⟨sa, 0, none⟩) k oc) k (rowSL5 S k) ∧ ∀ q, q < 12 → ∃ p, cs[2 + q]? = some (.pointer p) ∧ LPt W d S q k p
section
variable {w0 W W' : World} {LB : Nat} {ma ja : Option Addr} {n mk m jk k : Nat} {d : Nat → JB} {S : Nat → SL5}
theorem LPt.below {q : Nat} {p : Option Addr} (h : LPt W d S q k p) (b : Below W.heap.size W W') : LPt W' d S q k p := by
  rcases h with h | ⟨pb, h1, h2, h3⟩
  · exact .inl h
  · exact .inr ⟨pb, h1, h2.below b h2.lt, h3⟩
theorem LG.below (h : LG w0 LB ma n mk ja m jk d S k W) (b : Below W.heap.size W W') : LG w0 LB ma n mk ja m jk d S k W' := by
  obtain ⟨cs, sa, oc, h1, h2, h3, h4, h5, h6, h7⟩ := h.main
  refine ⟨bel_on h.bl b, h.lo, cs, sa, oc, h1.below b h1.lt, h2, h3, h4, h5, earow h6 (fun g hg => ?_), fun q hq => ?_⟩
  · rcases h6.2 with ⟨e, _⟩ | ⟨g', cap', cur, e, hb, hg', _⟩
    · cases e
    · rw [e] at hg
      simp only [Value.ownBlock, Option.some.injEq] at hg
      subst hg
      exact b.block _ (lt_of_block hg')
  · obtain ⟨p, p1, p2⟩ := h7 q hq; exact ⟨p, p1, p2.below b⟩
end
/-- A loading while a task is written down: the cell of its slots, the slots so far, the task's box. -/
structure LH (w0 : World) (LB : Nat) (ma : Option Addr) (n mk : Nat) (ja : Option Addr) (m jk : Nat) (d : Nat → JB) (S : Nat → SL5) (k TB : Nat) (tc : Array Value) (sl : Value) (kk sa oc : Nat) (W : World) : Prop where
  bl : Below w0.heap.size w0 W
  lo : w0.heap.size ≤ LB
  tb : CB W TB tc 38
  own : W.ownsRow w0.heap.size 36 5 (.slice (some ⟨sa, 0, none⟩) kk oc) kk (rowSL5 S kk)
  main : ∃ cs, CB W LB cs 88 ∧ cs.size = 15 ∧ cs[0]? = some (.slice ma n mk) ∧ cs[1]? = some (.slice ja m jk) ∧ cs[14]? = some sl ∧ ∀ q, q < 12 → ∃ p, cs[2 + q]? = some (.pointer p) ∧ LPt W d S q k p
section
variable {w0 W W' : World} {LB : Nat} {ma ja : Option Addr} {n mk m jk k TB kk sa oc : Nat} {d : Nat → JB} {S : Nat → SL5} {tc : Array Value} {sl : Value}
theorem LG.open (h : LG w0 LB ma n mk ja m jk d S k W) (ht : CB W TB tc 38) : ∃ sa oc, LH w0 LB ma n mk ja m jk d S k TB tc (.slice (some ⟨sa, 0, none⟩) k oc) k sa oc W := by
  obtain ⟨cs, sa, oc, h1, h2, h3, h4, h5, h6, h7⟩ := h.main
  exact ⟨sa, oc, h.bl, h.lo, ht, h6, cs, h1, h2, h3, h4, h5, h7⟩
theorem LH.keep (h : LH w0 LB ma n mk ja m jk d S k TB tc sl kk sa oc W) (hb : ∀ y, y < W.heap.size → y ≠ sa → W'.heap[y]? = W.heap[y]?) (b : Below w0.heap.size w0 W') {k2 sa2 oc2 : Nat} (hown : W'.ownsRow w0.heap.size 36 5 (.slice (some ⟨sa2, 0, none⟩) k2 oc2) k2 (rowSL5 S k2)) : LH w0 LB ma n mk ja m jk d S k TB tc sl k2 sa2 oc2 W' := by
  obtain ⟨cs, h1, h2, h3, h4, h5, h6⟩ := h.main
  have ne : ∀ {b : Nat} {cs : Array Value} {t : TypeId}, CB W b cs t → t ≠ 36 → b ≠ sa := fun hc ht e => CB.ne hc h.own ht (by rw [e]; rfl)
  refine ⟨b, h.lo, h.tb.keep (hb _ h.tb.lt (ne h.tb (by decide))), hown, cs, h1.keep (hb _ h1.lt (ne h1 (by decide))), h2, h3, h4, h5, fun q hq => ?_⟩
  obtain ⟨p, p1, p2⟩ := h6 q hq
  refine ⟨p, p1, ?_⟩
  rcases p2 with g | ⟨pb, g1, g2, g3⟩
  · exact .inl g
  · exact .inr ⟨pb, g1, g2.keep (hb _ g2.lt (ne g2 (by decide))), g3⟩
theorem LH.below (h : LH w0 LB ma n mk ja m jk d S k TB tc sl kk sa oc W) (b : Below W.heap.size W W') : LH w0 LB ma n mk ja m jk d S k TB tc sl kk sa oc W' := h.keep (fun y hy _ => b.block y hy) (bel_on h.bl b) (earow h.own (fun g hg => b.block g (by
  simp only [Value.ownBlock, Option.some.injEq] at hg
  subst hg
  rcases h.own.2 with ⟨e, _⟩ | ⟨g', cap', cur, e, hb, hg', _⟩
  · cases e
  · simp only [Value.slice.injEq, Option.some.injEq, Addr.mk.injEq] at e
    rw [e.1.1]; exact lt_of_block hg')))
theorem LH.c14 (h : LH w0 LB ma n mk ja m jk d S k TB tc sl kk sa oc W) : W.cell? ⟨LB, 14, none⟩ = some sl := by obtain ⟨cs, h1, h2, h3, h4, h5, h6⟩ := h.main; exact (h1.cell 14).trans h5
theorem LH.fr (h : LH w0 LB ma n mk ja m jk d S k TB tc sl kk sa oc W) (o : Nat) : W.frozen? ⟨LB, o, none⟩ = false := by obtain ⟨cs, h1, h2, h3, h4, h5, h6⟩ := h.main; exact h1.fr o
theorem LH.ltL (h : LH w0 LB ma n mk ja m jk d S k TB tc sl kk sa oc W) : LB < W.heap.size := by obtain ⟨cs, h1, h2, h3, h4, h5, h6⟩ := h.main; exact h1.lt
theorem LH.ltS (h : LH w0 LB ma n mk ja m jk d S k TB tc sl kk sa oc W) : w0.heap.size ≤ sa ∧ sa < W.heap.size := h.own.lt sa rfl
theorem LH.grow {w9 : World} {g9 oc9 : Nat} (h : LH w0 LB ma n mk ja m jk d S k TB tc sl kk sa oc W) (hg : W.grownBy w9 (Value.slice (some ⟨sa, 0, none⟩) kk oc).ownBlock) (hown : w9.ownsRow w0.heap.size 36 5 (.slice (some ⟨g9, 0, none⟩) (kk + 1) oc9) (kk + 1) (rowSL5 S (kk + 1))) : LH w0 LB ma n mk ja m jk d S k TB tc sl (kk + 1) g9 oc9 w9 :=
  h.keep (fun y hy hne => hg.block y hy (by simpa [Value.ownBlock] using hne)) (egrown h.bl (Nat.le_refl _) hg (fun q hq => by
    have : q = sa := by simpa [Value.ownBlock] using hq.symm
    have := h.ltS; omega)) hown
theorem LH.put {sl2 : Value} (h : LH w0 LB ma n mk ja m jk d S k TB tc sl kk sa oc W) : LH w0 LB ma n mk ja m jk d S k TB tc sl2 kk sa oc (W.setCell ⟨LB, 14, none⟩ sl2) := by
  obtain ⟨cs, h1, h2, h3, h4, h5, h6⟩ := h.main
  have nt : ∀ {b : Nat} {ds : Array Value} {t : TypeId}, CB W b ds t → t ≠ 88 → b ≠ LB := fun hc ht e => by
    subst e
    unfold CB at hc h1
    rw [hc] at h1
    simp at h1
    exact ht h1.2
  have hs : LB ≠ sa := fun e => CB.ne h1 h.own (by decide) (by rw [e]; rfl)
  refine ⟨h.bl.setCell h.lo _, h.lo, h.tb.other _ (nt h.tb (by decide)), earow h.own (fun g hg => ?_), _, h1.set 14 _, by simpa using h2, ?_, ?_, ?_, fun q hq => ?_⟩
  · simp only [Value.ownBlock, Option.some.injEq] at hg
    exact Below.heap_setCell _ _ _ _ (by show g ≠ LB; omega)
  · rw [get_set_ne (by omega)]; exact h3
  · rw [get_set_ne (by omega)]; exact h4
  · rw [get_set_eq (by omega)]
  · obtain ⟨p, p1, p2⟩ := h6 q hq
    refine ⟨p, by rw [get_set_ne (by omega)]; exact p1, ?_⟩
    rcases p2 with g | ⟨pb, g1, g2, g3⟩
    · exact .inl g
    · exact .inr ⟨pb, g1, g2.other _ (nt g2 (by decide)), g3⟩
/-- What the machine did last is written down. -/
theorem LH.done {Q : Nat} {y2 EV : Int} {g9 oc9 pb : Nat} (h : LH w0 LB ma n mk ja m jk d S k TB tc (.slice (some ⟨g9, 0, none⟩) (k + 1) oc9) (k + 1) g9 oc9 W) (hp : CB W pb #[.int .i64 y2, .int .i64 EV] 139) (hQ : Q < 12) (hm : (S k).mac = (Q : Int)) (hf : famS d (S k) = y2) (hy : 0 ≤ y2) (he : (S k).fin = EV) (hx : mxM S (Q : Int) k ≤ EV) : LG w0 LB ma n mk ja m jk d S (k + 1) (W.setCell ⟨LB, 2 + Q, none⟩ (.pointer (some ⟨pb, 0, none⟩))) := by
  obtain ⟨cs, h1, h2, h3, h4, h5, h6⟩ := h.main
  have nt : ∀ {b : Nat} {ds : Array Value} {t : TypeId}, CB W b ds t → t ≠ 88 → b ≠ LB := fun hc ht e => by
    subst e
    unfold CB at hc h1
    rw [hc] at h1
    simp at h1
    exact ht h1.2
  have hs : LB ≠ g9 := fun e => CB.ne h1 h.own (by decide) (by rw [e]; rfl)
  refine ⟨h.bl.setCell h.lo _, h.lo, _, g9, oc9, h1.set (2 + Q) _, by simpa using h2, ?_, ?_, ?_, earow h.own (fun g hg => ?_), fun q hq => ?_⟩
  · rw [get_set_ne (by omega)]; exact h3
  · rw [get_set_ne (by omega)]; exact h4
  · rw [get_set_ne (by omega)]; exact h5
  · simp only [Value.ownBlock, Option.some.injEq] at hg
    exact Below.heap_setCell _ _ _ _ (by show g ≠ LB; omega)
  · by_cases e : q = Q
    · subst e
      refine ⟨some ⟨pb, 0, none⟩, by rw [get_set_eq (by omega)], .inr ⟨pb, rfl, ?_, ?_⟩⟩
      · have e1 : lfM d S (q : Int) (k + 1) = y2 := by unfold lfM; rw [if_pos hm, hf]
        have e2 : mxM S (q : Int) (k + 1) = EV := by unfold mxM; rw [if_pos hm, he]; omega
        rw [e1, e2]; exact hp.other _ (nt hp (by decide))
      · unfold lfM; rw [if_pos hm, hf]; exact hy
    · obtain ⟨p, p1, p2⟩ := h6 q hq
      have hne : ¬ (S k).mac = (q : Int) := by rw [hm]; omega
      have e1 : lfM d S (q : Int) (k + 1) = lfM d S (q : Int) k := if_neg hne
      have e2 : mxM S (q : Int) (k + 1) = mxM S (q : Int) k := if_neg hne
      refine ⟨p, by rw [get_set_ne (by omega)]; exact p1, ?_⟩
      unfold LPt
      rw [e1, e2]
      rcases p2 with g | ⟨pb', g1, g2, g3⟩
      · exact .inl g
      · exact .inr ⟨pb', g1, g2.other _ (nt g2 (by decide)), g3⟩
end
/-- What addTask answers, and leaves. -/
def AtP (w0 : World) (LB : Nat) (ma : Option Addr) (n mk : Nat) (ja : Option Addr) (m jk : Nat) (d : Nat → JB) (S : Nat → SL5) (k : Nat) (e : Ending) (w' : World) : Prop := e = .returned (.int .i64 (S k).fin) ∧ Below w0.heap.size w0 w' ∧ (0 ≤ (S k).fin → LG w0 LB ma n mk ja m jk d S (k + 1) w')
end Go.Proofs.Ytogolmbgboihdaa
