/- Items that are copied into a row of their own, one field written in each: the rows of parts stay where they were. -/
import Derived.Test.YtmbdeafpfdeigaaDdM
import Derived.Test.YtmbdeafpfdeigaaKc
import Derived.Test.YtmbdeafpfdeigaaJ3
import Derived.Test.YtmbdeafpfdeigaaIn
import Derived.Test.YtmbdeafpfdeigaaJ1
import Derived.Deep.QuietTactic
import Derived.BigQuiet
import Derived.Test.YtmbdeafpfdeigaaJ5
namespace Go.Proofs.Ytmbdeafpfdeigaa
open Go Go.ChangeShapes Go.WideShapes Go.ChangeAt Go.RowKit
set_option linter.unusedVariables false
set_option linter.unusedSimpArgs false

/-- An item in cells, its parts in a world's rows. -/
def ItC (w : World) (cs : Array Value) (o : Nat) (c : IT) : Prop :=
  ∃ ra rc sa sc, c.parn ≤ rc ∧ c.alsn ≤ sc ∧ cs[o]? = some (.string c.name) ∧ cs[o + 1]? = some (.int .i64 c.batch) ∧ cs[o + 2]? = some (.bool c.pha) ∧ cs[o + 3]? = some (.slice ra c.parn rc) ∧ cs[o + 4]? = some (.slice sa c.alsn sc) ∧ PAr w ra c.parn c.parz ∧ PAr w sa c.alsn c.alsz
/-- A row of items of its own, behind world w. -/
def CI (w : World) (g n : Nat) (c : Nat → IT) (W : World) : Prop := w.heap.size ≤ g ∧ Below w.heap.size w W ∧ ∃ cs, CB W g cs 31 ∧ n * 5 ≤ cs.size ∧ ∀ j, j < n → ItC w cs (j * 5) (c j)
section
variable {w W W' : World} {g n : Nat} {c : Nat → IT}
theorem CI.lt (h : CI w g n c W) : g < W.heap.size := by obtain ⟨_, _, cs, h1, _⟩ := h; exact h1.lt
theorem CI.bel (h : CI w g n c W) : Below w.heap.size w W := h.2.1
theorem CI.row (h : CI w g n c W) : ITr W (some ⟨g, 0, none⟩) n c := by
  obtain ⟨h0, hb, cs, h1, h2, h3⟩ := h
  refine .inr ⟨g, 0, rfl, h1.lt, fun j hj => ?_⟩
  obtain ⟨ra, rc, sa, sc, e1, e2, a0, a1, a2, a3, a4, r1, r2⟩ := h3 j hj
  refine ⟨ra, rc, sa, sc, e1, e2, ?_, ?_, ?_, ?_, ?_, r1.below hb, r2.below hb⟩ <;> (rw [h1.cell]; simpa using (by assumption))
theorem CI.below (h : CI w g n c W) (b : Below W.heap.size W W') : CI w g n c W' := by
  obtain ⟨h0, hb, cs, h1, h2, h3⟩ := h
  exact ⟨h0, bel_on hb b, cs, h1.below b h1.lt, h2, h3⟩
theorem CI.pha (h : CI w g n c W) {k : Nat} (hk : k < n) (b : Bool) : CI w g n (fun j => if j = k then { c k with pha := b } else c j) (W.setCell ⟨g, k * 5 + 2, none⟩ (.bool b)) := by
  obtain ⟨h0, hb, cs, h1, h2, h3⟩ := h
  refine ⟨h0, hb.setCell h0 _, _, h1.set _ _, by simpa using h2, fun j hj => ?_⟩
  obtain ⟨ra, rc, sa, sc, e1, e2, a0, a1, a2, a3, a4, r1, r2⟩ := h3 j hj
  by_cases e : j = k
  · subst e
    simp only [if_true]
    refine ⟨ra, rc, sa, sc, e1, e2, ?_, ?_, ?_, ?_, ?_, r1, r2⟩
    · rw [get_set_ne (by omega)]; exact a0
    · rw [get_set_ne (by omega)]; exact a1
    · rw [get_set_eq (by omega)]
    · rw [get_set_ne (by omega)]; exact a3
    · rw [get_set_ne (by omega)]; exact a4
  · simp only [if_neg e]
    refine ⟨ra, rc, sa, sc, e1, e2, ?_, ?_, ?_, ?_, ?_, r1, r2⟩
    · rw [get_set_ne (by omega)]; exact a0
    · rw [get_set_ne (by omega)]; exact a1
    · rw [get_set_ne (by omega)]; exact a2
    · rw [get_set_ne (by omega)]; exact a3
    · rw [get_set_ne (by omega)]; exact a4
theorem CI.als (h : CI w g n c W) {k : Nat} (hk : k < n) (a : Option Addr) (cp : Nat) : CI w g n (fun j => if j = k then { c k with alsn := 0 } else c j) (W.setCell ⟨g, k * 5 + 4, none⟩ (.slice a 0 cp)) := by
  obtain ⟨h0, hb, cs, h1, h2, h3⟩ := h
  refine ⟨h0, hb.setCell h0 _, _, h1.set _ _, by simpa using h2, fun j hj => ?_⟩
  obtain ⟨ra, rc, sa, sc, e1, e2, a0, a1, a2, a3, a4, r1, r2⟩ := h3 j hj
  by_cases e : j = k
  · subst e
    simp only [if_true]
    refine ⟨ra, rc, a, cp, e1, Nat.zero_le _, ?_, ?_, ?_, ?_, ?_, r1, .inl rfl⟩
    · rw [get_set_ne (by omega)]; exact a0
    · rw [get_set_ne (by omega)]; exact a1
    · rw [get_set_ne (by omega)]; exact a2
    · rw [get_set_ne (by omega)]; exact a3
    · rw [get_set_eq (by omega)]
  · simp only [if_neg e]
    refine ⟨ra, rc, sa, sc, e1, e2, ?_, ?_, ?_, ?_, ?_, r1, r2⟩
    · rw [get_set_ne (by omega)]; exact a0
    · rw [get_set_ne (by omega)]; exact a1
    · rw [get_set_ne (by omega)]; exact a2
    · rw [get_set_ne (by omega)]; exact a3
    · rw [get_set_ne (by omega)]; exact a4
theorem CI.congr {c' : Nat → IT} (h : CI w g n c W) (e : ∀ j, j < n → c j = c' j) : CI w g n c' W := by
  obtain ⟨h0, hb, cs, h1, h2, h3⟩ := h
  exact ⟨h0, hb, cs, h1, h2, fun j hj => by rw [← e j hj]; exact h3 j hj⟩
/-- The two cells that may be written. -/
theorem CI.cells (h : CI w g n c W) {k : Nat} (hk : k < n) : (∃ v, W.cell? ⟨g, k * 5 + 2, none⟩ = some v) ∧ (∃ v, W.cell? ⟨g, k * 5 + 4, none⟩ = some v) ∧ (∀ o, W.frozen? ⟨g, o, none⟩ = false) := by
  obtain ⟨h0, hb, cs, h1, h2, h3⟩ := h
  obtain ⟨ra, rc, sa, sc, e1, e2, a0, a1, a2, a3, a4, r1, r2⟩ := h3 k hk
  exact ⟨⟨_, by rw [h1.cell]; exact a2⟩, ⟨_, by rw [h1.cell]; exact a4⟩, fun o => h1.fr o⟩
end
/-- The values of a row of items, as they lie. -/
theorem it_vals {w : World} {a : Addr} {n : Nat} {c : Nat → IT} (h : ITr w (some a) n c) : ∃ vs : List Value, vs.length = n * 5 ∧ (∀ v ∈ vs, v.oneCell' = true) ∧ (∀ W, Below w.heap.size w W → ∀ j u, vs[j]? = some u → W.cell? (a.add j) = some u) ∧ ∀ j, j < n → ∃ ra rc sa sc, (c j).parn ≤ rc ∧ (c j).alsn ≤ sc ∧ vs[j * 5]? = some (.string (c j).name) ∧ vs[j * 5 + 1]? = some (.int .i64 (c j).batch) ∧ vs[j * 5 + 2]? = some (.bool (c j).pha) ∧ vs[j * 5 + 3]? = some (.slice ra (c j).parn rc) ∧ vs[j * 5 + 4]? = some (.slice sa (c j).alsn sc) ∧ PAr w ra (c j).parn (c j).parz ∧ PAr w sa (c j).alsn (c j).alsz := by
  rcases h with h0 | ⟨k, off, e, hk, hc⟩
  · subst h0
    exact ⟨[], rfl, fun v hv => absurd hv (by simp), fun W b j u hj => absurd hj (by simp), fun j hj => absurd hj (by omega)⟩
  · cases e
    have hadd : ∀ j, (⟨k, off, none⟩ : Addr).add j = ⟨k, off + j, none⟩ := fun j => by unfold Addr.add; split <;> simp_all
    have one : ∀ j, j < n * 5 → ∃ u : Value, w.cell? ⟨k, off + j, none⟩ = some u ∧ u.oneCell' = true := by
      intro j hj
      obtain ⟨ra, rc, sa, sc, e1, e2, a0, a1, a2, a3, a4, r1, r2⟩ := hc (j / 5) (by omega)
      have hm : j = j / 5 * 5 ∨ j = j / 5 * 5 + 1 ∨ j = j / 5 * 5 + 2 ∨ j = j / 5 * 5 + 3 ∨ j = j / 5 * 5 + 4 := by omega
      rcases hm with hm | hm | hm | hm | hm
      · exact ⟨_, by rw [hm]; exact a0, rfl⟩
      · exact ⟨_, by rw [hm, ← Nat.add_assoc]; exact a1, rfl⟩
      · exact ⟨_, by rw [hm, ← Nat.add_assoc]; exact a2, rfl⟩
      · exact ⟨_, by rw [hm, ← Nat.add_assoc]; exact a3, rfl⟩
      · exact ⟨_, by rw [hm, ← Nat.add_assoc]; exact a4, rfl⟩
    have get : ∀ j, j < n * 5 → ((List.range (n * 5)).map fun j => (w.cell? ⟨k, off + j, none⟩).getD (.bool false))[j]? = w.cell? ⟨k, off + j, none⟩ := by
      intro j hj
      obtain ⟨u, hu, _⟩ := one j hj
      rw [List.getElem?_map, List.getElem?_range hj]
      simp [hu]
    refine ⟨(List.range (n * 5)).map fun j => (w.cell? ⟨k, off + j, none⟩).getD (.bool false), by simp, fun v hv => ?_, fun W b j u hj => ?_, fun j hj => ?_⟩
    · obtain ⟨j, hj, rfl⟩ := List.mem_map.mp hv
      obtain ⟨u, hu, h1⟩ := one j (List.mem_range.mp hj)
      simp [hu, h1]
    · have hl : j < n * 5 := by
        rcases Nat.lt_or_ge j (n * 5) with q | q
        · exact q
        · rw [List.getElem?_eq_none (by simpa using q)] at hj; cases hj
      rw [get j hl] at hj
      rw [hadd]; exact keep_cell b hj
    · obtain ⟨ra, rc, sa, sc, e1, e2, a0, a1, a2, a3, a4, r1, r2⟩ := hc j hj
      refine ⟨ra, rc, sa, sc, e1, e2, ?_, ?_, ?_, ?_, ?_, r1, r2⟩
      · rw [get _ (by omega)]; exact a0
      · rw [get _ (by omega), ← Nat.add_assoc]; exact a1
      · rw [get _ (by omega), ← Nat.add_assoc]; exact a2
      · rw [get _ (by omega), ← Nat.add_assoc]; exact a3
      · rw [get _ (by omega), ← Nat.add_assoc]; exact a4
/-- Behind the append of a row of items to an empty one. -/
def PL (w : World) (v : Value) (n : Nat) (c : Nat → IT) (W : World) : Prop := Below w.heap.size w W ∧ ∃ ad cap, v = .slice ad n cap ∧ (n = 0 ∨ ∃ g, ad = some ⟨g, 0, none⟩ ∧ CI w g n c W)
theorem PL.of {w W : World} {n : Nat} {c : Nat → IT} {v : Value} {vs : List Value} (hb : Below w.heap.size w W) (ho : W.ownsRow w.heap.size 31 5 v n vs) (hv : ∀ j, j < n → ∃ ra rc sa sc, (c j).parn ≤ rc ∧ (c j).alsn ≤ sc ∧ vs[j * 5]? = some (.string (c j).name) ∧ vs[j * 5 + 1]? = some (.int .i64 (c j).batch) ∧ vs[j * 5 + 2]? = some (.bool (c j).pha) ∧ vs[j * 5 + 3]? = some (.slice ra (c j).parn rc) ∧ vs[j * 5 + 4]? = some (.slice sa (c j).alsn sc) ∧ PAr w ra (c j).parn (c j).parz ∧ PAr w sa (c j).alsn (c j).alsz) : PL w v n c W := by
  refine ⟨hb, ?_⟩
  rcases ho.2 with ⟨rfl, h0⟩ | ⟨g, cap, cur, rfl, hbg, hgg, h1, h2, h3, h4⟩
  · exact ⟨none, 0, by rw [h0], .inl h0⟩
  · refine ⟨_, cap, rfl, .inr ⟨g, rfl, hbg, hb, cur, hgg, ?_, fun j hj => ?_⟩⟩
    · have := congrArg List.length h4
      rw [List.length_take, ho.1, Array.length_toList] at this
      omega
    · have get : ∀ o, o < n * 5 → cur[o]? = vs[o]? := fun o ho => by
        rw [← h4, List.getElem?_take, if_pos ho]; simp
      obtain ⟨ra, rc, sa, sc, e1, e2, a0, a1, a2, a3, a4, r1, r2⟩ := hv j hj
      refine ⟨ra, rc, sa, sc, e1, e2, ?_, ?_, ?_, ?_, ?_, r1, r2⟩ <;> (rw [get _ (by omega)]; assumption)
theorem madeIT {w : World} {g base : Nat} (h : CB w g #[] 31) (hb : base ≤ g) : w.ownsRow base 31 5 (.slice (some ⟨g, 0, none⟩) 0 0) 0 [] := ⟨rfl, .inr ⟨g, 0, #[], rfl, hb, h, Nat.le_refl _, Nat.zero_le _, rfl, rfl⟩⟩
set_option maxRecDepth 20000 in
set_option maxHeartbeats 2000000 in
theorem sameInts_same (ad be : Option Addr) (len cap cap2 : Nat) (z : Nat → Int) (w : World) (h : (len : Int) ≤ 1048576) (h1 : IR w ad len z) (h2 : IR w be len z) :
    Calls Try.prog 24 #[.slice ad len cap, .slice be len cap2] w fun e w' => e = .returned (.bool true) ∧ Below w.heap.size w w' := by
  have H1 : Hid (IR w ad len z) := h1
  have H2 : Hid (IR w be len z) := h2
  clear h1 h2
  go_enter Try.func24, Try.ntmps24
  go_wp2
  go_loopw [5] (fun i wr => ∃ (k q : Nat), k ≤ len ∧ i = .int .i64 (k : Int) ∧ wr = w.drewN q) (fun i _ => len - (intOf i).toNat)
  case atStart => exact ⟨0, 0, Nat.zero_le _, rfl, rfl⟩
  case round =>
    obtain ⟨k, q, hk, rfl, rfl⟩ := hrel
    by_cases hlt : k < len
    · obtain ⟨kb, off, rfl, _⟩ := H1.out.addr (by omega)
      obtain ⟨kb2, off2, rfl, _⟩ := H2.out.addr (by omega)
      have c1 := H1.out.cell hlt
      have c2 := H2.out.cell hlt
      generalize z k = y at c1 c2
      have hlt2 : (k : Int) < (len : Int) := by omega
      go_wp2
      go_quiet (fail)
      go_wp2
      go_roundw
      case rel => exact ⟨k + 1, q + nq, by omega, by go_num, rfl⟩
      case measure => simp [intOf]; omega
    · go_wp2
      go_returns
      exact ⟨rfl, ⟨rfl, rfl, rfl, Nat.le_refl _, fun _ _ => rfl⟩⟩
/-- A row of whole numbers in a block, that may be written. -/
def TI (W : World) (tb n : Nat) (f : Nat → Int) : Prop := ∃ cs, CB W tb cs 3 ∧ n ≤ cs.size ∧ ∀ j, j < n → cs[j]? = some (.int .i64 (f j))
section
variable {W W' : World} {tb n : Nat} {f : Nat → Int}
theorem TI.lt (h : TI W tb n f) : tb < W.heap.size := by obtain ⟨cs, h1, _⟩ := h; exact h1.lt
theorem TI.cell (h : TI W tb n f) {k : Nat} (hk : k < n) : W.cell? ⟨tb, k, none⟩ = some (.int .i64 (f k)) := by obtain ⟨cs, h1, h2, h3⟩ := h; rw [h1.cell]; exact h3 k hk
theorem TI.fr (h : TI W tb n f) (k : Nat) : W.frozen? ⟨tb, k, none⟩ = false := by obtain ⟨cs, h1, _⟩ := h; exact h1.fr k
theorem TI.set (h : TI W tb n f) {k : Nat} (hk : k < n) (x : Int) : TI (W.setCell ⟨tb, k, none⟩ (.int .i64 x)) tb n (fun j => if j = k then x else f j) := by
  obtain ⟨cs, h1, h2, h3⟩ := h
  refine ⟨_, h1.set _ _, by simpa using h2, fun j hj => ?_⟩
  by_cases e : j = k
  · subst e; rw [get_set_eq (by omega)]; simp
  · rw [get_set_ne (by omega), h3 j hj]; simp [e]
theorem TI.below (h : TI W tb n f) (b : Below W.heap.size W W') : TI W' tb n f := by
  obtain ⟨cs, h1, h2, h3⟩ := h
  exact ⟨cs, h1.below b h1.lt, h2, h3⟩
theorem TI.congr {f' : Nat → Int} (h : TI W tb n f) (e : ∀ j, j < n → f j = f' j) : TI W tb n f' := by
  obtain ⟨cs, h1, h2, h3⟩ := h
  exact ⟨cs, h1, h2, fun j hj => by rw [← e j hj]; exact h3 j hj⟩
theorem TI.row (h : TI W tb n f) : IR W (some ⟨tb, 0, none⟩) n f := by
  obtain ⟨cs, h1, h2, h3⟩ := h
  exact IR.of_block h1 n f h3
theorem TI.made1 (w : World) {n i : Nat} (hi : i < n) (q : Int) : TI (w.alloc (.cells ((zeros n).setIfInBounds i (.int .i64 q)) 3)) w.heap.size n (fun j => if j = i then q else 0) := ⟨_, CB.new _ _, by simp [zeros_size], fun j hj => by
  by_cases e : j = i
  · subst e; rw [get_set_eq (by rw [zeros_size]; exact hj)]; simp
  · rw [get_set_ne (by omega)]; simp [zeros, madeCells, hj, Nat.mod_one, e]⟩
theorem TI.made (w : World) (n : Nat) : TI (w.alloc (.cells (zeros n) 3)) w.heap.size n (fun _ => 0) := ⟨zeros n, CB.new _ _, by rw [zeros_size]; omega, fun j hj => by simp [zeros, madeCells, hj, Nat.mod_one]⟩
end
end Go.Proofs.Ytmbdeafpfdeigaa

namespace Go.Proofs.Ytmbdeafpfdeigaa
open Go Go.ChangeShapes Go.WideShapes Go.ChangeAt Go.RowKit
set_option linter.unusedVariables false
set_option linter.unusedSimpArgs false

/-- Drawn items and a row of numbers beside the cursor. -/
structure PX (b : Nat) (w1 : World) (it : Value) (n : Nat) (c : Nat → IV) (v : Value) (k : Nat) (z : Nat → Int) (W : World) : Prop where
  s : SX b w1 it n c W
  p : W.ownsRow w1.heap.size 3 1 v k (intR z k)
section
variable {b : Nat} {w1 W W' : World} {it v : Value} {n k : Nat} {c : Nat → IV} {z : Nat → Int}
theorem PX.turn (h : PX b w1 it n c v k z W) (m : Moved b W W') : PX b w1 it n c v k z W' := by
  have := h.s.lo
  refine ⟨h.s.turn m, arow_block h.p (fun g hg => ?_)⟩
  obtain ⟨g1, g2⟩ := h.p.lt g hg
  exact m.2.block g g2 (by omega)
theorem PX.alloc (h : PX b w1 it n c v k z W) (o : Obj) : PX b w1 it n c v k z (W.alloc o) := h.turn ((Moved.refl h.s.m.1).alloc o)
theorem SX.grow3 (h : SX b w1 it n c W) {row : Option Nat} (hgr : W.grownBy W' row) (hr : ∀ g, row = some g → w1.heap.size ≤ g ∧ ∃ cur, W.heap[g]? = some (.cells cur 3 (0, 0))) : SX b w1 it n c W' := by
  have other : ∀ {base n s : Nat} {t : TypeId} {v : Value} {xs : List Value}, t ≠ 3 → W.ownsRow base t s v n xs → ∀ g, v.ownBlock = some g → W'.heap[g]? = W.heap[g]? := by
    intro base n s t v xs ht ho g hg
    refine grown_block hgr (ho.lt g hg).2 (fun e => ?_)
    obtain ⟨cur, hc⟩ := (hr g e).2
    obtain ⟨cur2, hc2⟩ := row_cells ho hg
    rw [hc] at hc2
    simp only [Option.some.injEq, Obj.cells.injEq] at hc2
    exact ht hc2.2.1.symm
  refine ⟨h.m.grown h.lo hgr (fun q e => (hr q e).1), arow_block h.o (other (by decide) h.o), fun j hj => ?_, h.lo⟩
  obtain ⟨⟨z1, h1⟩, ⟨z2, h2⟩, h3⟩ := h.r j hj
  exact ⟨⟨z1, arow_block h1 (other (by decide) h1)⟩, ⟨z2, arow_block h2 (other (by decide) h2)⟩, h3⟩
theorem PX.grow (h : PX b w1 it n c v k z W) {v' : Value} {x : Int} (hgr : W.grownBy W' v.ownBlock) (hown : W'.ownsRow w1.heap.size 3 1 v' (k + 1) (intR z k ++ [.int .i64 x])) : PX b w1 it n c v' (k + 1) (fun j => if j = k then x else z j) W' := by
  refine ⟨h.s.grow3 hgr (fun g e => ⟨(h.p.lt g e).1, row_cells h.p e⟩), ?_⟩
  have e : intR (fun j => if j = k then x else z j) (k + 1) = intR z k ++ [.int .i64 x] := by
    simp only [intR, if_true]
    rw [intR_congr (d := z) (fun j hj => by simp; omega)]
  rw [e]; exact hown
end
theorem info3i : ∃ i, Try.prog.info? 3 = some i ∧ i.zero = some (.int .i64 0) ∧ i.size = 1 ∧ i.bytes = 8 := info3
/-- What DrawCost leaves. -/
def DkP (w : World) (e : Ending) (w' : World) : Prop := ∃ (ia : Option Addr) (n ic : Nat) (d : Nat → IT) (pa : Option Addr) (m pc : Nat) (z : Nat → Int) (a q y : Int), e = .returned (.tuple #[.slice ia n ic, .slice pa m pc, .int .i64 a, .int .i64 q, .int .i64 y]) ∧ n ≤ 60 ∧ ITr w' ia n d ∧ (∀ j, j < n → (d j).name.size ≤ 40 ∧ (d j).parn ≤ 5 ∧ (d j).alsn ≤ 1) ∧ (-1 ≤ q ∧ q ≤ 1000001) ∧ m ≤ 60 ∧ IR w' pa m z ∧ (∀ j, j < m → -1 ≤ z j ∧ z j ≤ 100001) ∧ Below w.heap.size w w' ∧ ∃ a, ia = some a
theorem DkP.of {b : Nat} {w w1 w' : World} {ad pa : Option Addr} {n cap m pc : Nat} {c : Nat → IV} {z : Nat → Int} {a q y : Int} (hb : b = w.heap.size) (h : PX b w1 (.slice ad n cap) n c (.slice pa m pc) m z w') (hn : n ≤ 60) (hm : m ≤ 60) (hz : ∀ j, j < m → -1 ≤ z j ∧ z j ≤ 100001) (hq : -1 ≤ q ∧ q ≤ 1000001) (hw : Below w.heap.size w w1) (hsa : ∃ a, ad = some a) : DkP w (.returned (.tuple #[.slice ad n cap, .slice pa m pc, .int .i64 a, .int .i64 q, .int .i64 y])) w' := by
  obtain ⟨d, h1, h2⟩ := h.s.row
  exact ⟨ad, n, cap, d, pa, m, pc, z, a, q, y, rfl, hn, h1, h2, hq, hm, row_IR h.p (fun j hj => intR_get z m j hj), hz, moved_bel hb hw h.s.m, hsa⟩
set_option maxRecDepth 20000 in
set_option maxHeartbeats 8000000 in
theorem drawCost_any (ad : Option Addr) (len cap : Nat) (w : World) (hl : (len : Int) ≤ 1048576) (hr : ByteRow w w.heap.size ad len) :
    Calls Try.prog 25 #[.slice ad len cap] w (DkP w) := by
  have HN : Hid (Calls Try.prog 52 #[.slice ad len cap] w fun e w' => e = .returned (.pointer (some ⟨w.heap.size, 0, none⟩)) ∧ Cursor w' w.heap.size ∧ Below w.heap.size w w') := new_any ad len cap w (by omega) hr
  clear hr
  obtain ⟨i0, hi, hz0, hz1, hz2⟩ := info3i
  go_enter Try.func25, Try.ntmps25
  go_wp2_with (first
    | (go_at_call 52; refine HN.out.mono ?_; rintro e w1 ⟨rfl, c1, b1⟩; have HB1 : Hid (Below w.heap.size w w1 ∧ Cursor w1 w.heap.size) := hid ⟨b1, c1⟩; clear c1 b1)
    | (go_at_call 54; refine (drawItems_any w.heap.size _ _ HB1.out.2 (by omega) (by omega)).mono ?_; rintro e w2 ⟨v, n, c, rfl, n2, n3, ho⟩; have HO : Hid (OX w.heap.size w1 v n c w2) := ho; clear ho)
    | (go_at_call 53; refine (spoilItems_any w.heap.size _ _ _ _ _ HO.out ⟨n2, by omega⟩).mono ?_; rintro e w3 ⟨a3, n9, cap9, c9, rfl, n4, hs, hsa⟩; have HSA := hid hsa; clear hsa; have HP0 : Hid (PX w.heap.size w1 (.slice a3 n9 cap9) n9 c9 (.slice (some ⟨w3.heap.size, 0, none⟩) 0 0) 0 (fun _ => 0) (w3.alloc (.cells #[] 3 (0, 0)))) := hid ⟨hs.turn ((Moved.refl hs.m.1).alloc _), ⟨rfl, .inr ⟨w3.heap.size, 0, #[], rfl, hs.m.2.size, CB.new _ _, by omega, by unfold maxLen; omega, rfl, rfl⟩⟩⟩; clear hs)
    | (go_at_call 60; refine (below_any w.heap.size _ _ HP0.out.s.m.1).mono ?_; rintro e w4 ⟨x, rfl, x0, x1, _, m4⟩; replace x1 := x1 (by decide); have HP1 := hid (HP0.out.turn m4); clear m4 HP0 HO))
  go_loopw [9, 10] (fun v u wr => ∃ (k : Nat) (q : Int) (z : Nat → Int), (k : Int) + q ≤ 60 ∧ k ≤ 60 ∧ -1 ≤ q ∧ u = .int .i64 q ∧ Hid (PX w.heap.size w1 (.slice a3 n9 cap9) n9 c9 v k z wr ∧ ∀ j, j < k → -1 ≤ z j ∧ z j ≤ 100001)) (fun _ u _ => (intOf u).toNat)
  case atStart => exact ⟨0, _, fun _ => 0, by omega, by omega, by omega, rfl, hid ⟨HP1.out, fun j hj => by omega⟩⟩
  case round =>
    clear HP1
    obtain ⟨k, q, z, hkq, hk60, hq, rfl, HH⟩ := hrel
    obtain ⟨pa, pc, rfl⟩ := own_form HH.out.1.p
    have tk1 : True := trivial
    by_cases h0 : 0 < q
    · go_wp2_with (first
        | (go_at_call 60; refine (below_any w.heap.size _ _ HH.out.1.s.m.1).mono ?_; rintro e w5 ⟨x5, rfl, x50, x51, _, m5⟩; replace x51 := x51 (by decide); have H5 := hid (HH.out.1.turn m5); clear m5)
        | (go_at_call 61; refine (spoil_any w.heap.size _ _ [-1, 100000, 100001, 0] _ _ _ (H5.out.alloc _).s.m.1 (IntRow.made H5.out.s.m.1.lt _ _ _ rfl) rfl (by decide) (by decide)).mono ?_; rintro e w6 ⟨x6, rfl, hx6, m6⟩; have H6 := hid ((H5.out.alloc _).turn m6); have HX6 : Hid (-1 ≤ x6 ∧ x6 ≤ 100001) := hid (by simp at hx6; omega); clear m6 hx6 H5)
        | (at_builtin; go_loud (refine wpList_append_own_at _ rfl _ _ 24 rfl w1.heap.size 3 i0 (.int .i64 0) 1 8 Try.underlying24 hi hz0 hz1 hz2 rfl (by decide) (.slice pa k pc) k (intR z k) rfl (H6.out.alloc _).p ⟨w6.heap.size, 0, none⟩ 1 1 [.int .i64 x6] rfl rfl (ocells_at rfl) (fun u hu => by simp at hu; subst hu; rfl) (by unfold maxLen; omega) (by omega) (by have := (H6.out.alloc (.cells #[.int .i64 x6] 3 (0, 0))).s.m.2.size; exact this) ?_); intro v9 w9 hown hgrow hnil hat; obtain ⟨pa9, pc9, rfl⟩ := own_form hown; have H9 : Hid (PX w.heap.size w1 (.slice a3 n9 cap9) n9 c9 (.slice pa9 (k + 1) pc9) (k + 1) (fun j => if j = k then x6 else z j) w9) := hid ((H6.out.alloc _).grow hgrow hown); clear hown hgrow hnil hat))
      go_roundw
      case rel => exact ⟨k + 1, q - 1, _, by omega, by omega, by omega, rfl, hid ⟨H9.out, fun j hj => by
        by_cases e : j = k
        · subst e; simp only [if_true]; exact HX6.out
        · simp only [if_neg e]; exact HH.out.2 j (by omega)⟩⟩
      case measure => simp [intOf]; omega
    · go_wp2_with (go_at_call 55; refine (drawAsk_any w.heap.size _ _ _ _ HH.out.1.s.m.1 n4).mono ?_; rintro e w7 ⟨a4, q4, y4, rfl, hq4, m⟩; have H7 := hid (HH.out.1.turn m); have HQ : Hid (-1 ≤ q4 ∧ q4 ≤ 1000001) := hq4; clear m hq4)
      go_returns
      exact DkP.of rfl H7.out n4 (by omega) HH.out.2 HQ.out HB1.out.1 HSA.out
end Go.Proofs.Ytmbdeafpfdeigaa

namespace Go.Proofs.Ytmbdeafpfdeigaa
open Go Go.ChangeShapes Go.WideShapes Go.ChangeAt Go.RowKit
set_option linter.unusedVariables false
set_option linter.unusedSimpArgs false

theorem bu_bd {c : Nat → IT} {d : Int} {z E : Nat → Int} {n : Nat} (hE : FQ E) (hz : ∀ j, j < n → 0 ≤ z j ∧ z j ≤ 100000) : ∀ k, k ≤ n → 0 ≤ buV c d z E k ∧ buV c d z E k ≤ 100000000000 * (k : Int)
  | 0, _ => by simp [buV]
  | k + 1, h => by
    have ih := bu_bd (c := c) (d := d) hE hz k (by omega)
    have h1 := hE k
    have h2 := hz k (by omega)
    have p0 : 0 ≤ E k * z k := Int.mul_nonneg h1.1 h2.1
    have p1 : E k * z k ≤ 1000000 * 100000 := Int.le_trans (Int.mul_le_mul_of_nonneg_right h1.2 h2.1) (Int.mul_le_mul_of_nonneg_left h2.2 (by omega))
    unfold buV
    split <;> omega
theorem co_t {n m : Nat} {c : Nat → IT} {z : Nat → Int} {a q d : Int} (h : coB n m c z a q d = true) (ha : ∀ j, j < n → (c j).alsn = 0) : rkB eoB n c a q d = true ∧ m = n ∧ (∀ j, j < n → 0 ≤ z j ∧ z j ≤ 100000) ∧ coV n m c z a q d = buV c d z (eoF n c d a.toNat q) n := by
  have hv : coV n m c z a q d = csV n c d z (eoF n c d a.toNat q) n := if_pos h
  unfold coB at h
  simp only [Bool.and_eq_true] at h
  obtain ⟨h1, h2, h3, h4, h5⟩ := h
  obtain rfl : m = n := of_decide_eq_true h2
  exact ⟨h1, rfl, prB_p m h3, by rw [hv, cs_buy m ha]⟩
theorem co_bd {n m : Nat} {c : Nat → IT} {z : Nat → Int} {a q d : Int} (h : coB n m c z a q d = true) : -100000000000 ≤ coV n m c z a q d ∧ coV n m c z a q d ≤ 100000000000 := by
  have hv : coV n m c z a q d = csV n c d z (eoF n c d a.toNat q) n := if_pos h
  unfold coB at h
  simp only [Bool.and_eq_true] at h
  have := inB_t h.2.2.2.2
  rw [hv]; omega
theorem co_two {n : Nat} {c : Nat → IT} {z : Nat → Int} {a q d : Int} (h : coB n n c (fun j => 2 * z j) a q d = true) (ha : ∀ j, j < n → (c j).alsn = 0) : coV n n c (fun j => 2 * z j) a q d = 2 * buV c d z (eoF n c d a.toNat q) n := by
  rw [(co_t h ha).2.2.2, bu_twice]
/-- Whether the sum of what one of it takes tells that it is bought. -/
theorem one_bought {n : Nat} {c : Nat → IT} {d : Int} {k : Nat} (hI : isB n c = true) (hk : k < n) (e : eoB n c d k 1 = true) : decide (suF (eoF n c d k 1) n = 1) = boB c d k := by
  cases hb : boB c d k
  · exact decide_eq_false (eo_made hI hk hb e)
  · rw [eo_bought hI hk hb, suF_up, if_pos hk]; rfl
set_option maxRecDepth 20000 in
set_option maxHeartbeats 2000000 in
theorem lsum_any (ad : Option Addr) (len cap : Nat) (f : Nat → Int) (w : World) (hn : len ≤ 1000) (hf : FQ f) (hr : IR w ad len f) : Calls Try.prog 28 #[.slice ad len cap] w fun e w' => e = .returned (.int .i64 (suF f len)) ∧ w' = w := by
  have HR : Hid (IR w ad len f) := hr
  have HF : Hid (FQ f) := hf
  have hl : (len : Int) ≤ 1000 := by omega
  clear hr hf
  go_enter Try.func28, Try.ntmps28
  go_wp2
  go_loopw [3, 4] (fun a i wr => ∃ k : Nat, k ≤ len ∧ a = .int .i64 (suF f k) ∧ i = .int .i64 (k : Int) ∧ wr = w) (fun _ i _ => len - (intOf i).toNat)
  case atStart => exact ⟨0, Nat.zero_le _, rfl, rfl, by first | rfl | trivial⟩
  case round =>
    obtain ⟨k, hk, rfl, rfl, rfl⟩ := hrel
    by_cases hlt : k < len
    · have hlt2 : (k : Int) < (len : Int) := by omega
      obtain ⟨kb, off, rfl, _⟩ := HR.out.addr (by omega)
      have c0 := HR.out.cell hlt
      have b0 := suF_bd HF.out k
      have b1 := HF.out k
      have HE : Hid (suF f (k + 1) = suF f k + f k) := rfl
      have hw1 : IntKind.i64.wrap (suF f k + f k) = suF f k + f k := IntWalk.i64_in _ ⟨by omega, by omega⟩
      clear b0 b1
      generalize f k = x at *
      generalize suF f k = s at *
      go_wp2
      go_roundw
      case rel => exact ⟨k + 1, by omega, by rw [HE.out], by go_num, by first | rfl | trivial⟩
      case measure => simp [intOf]; omega
    · obtain rfl : k = len := by omega
      have lkk : ¬ (k : Int) < (k : Int) := by omega
      go_wp2
      go_returns
      exact ⟨rfl, rfl⟩
end Go.Proofs.Ytmbdeafpfdeigaa
