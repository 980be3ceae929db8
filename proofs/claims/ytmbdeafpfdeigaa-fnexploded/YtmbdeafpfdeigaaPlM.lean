/- Items that are copied into a row of their own, one field written in each: the rows of parts stay where they were. -/
import Derived.Test.YtmbdeafpfdeigaaDdM
import Derived.Test.YtmbdeafpfdeigaaKc
namespace Go.Proofs.Ytmbdeafpfdeigaa
open Go Go.ChangeShapes Go.WideShapes Go.ChangeAt Go.RowKit
set_option linter.unusedVariables false
set_option linter.unusedSimpArgs false

/-- An item in cells, its parts in a world's rows. -/
def ItC (w : World) (cs : Array Value) (o : Nat) (c : IT) : Prop :=
  ∃ ra rc sa sc, c.parn ≤ rc ∧ c.alsn ≤ sc ∧ cs[o]? = some (.string c.name) ∧ cs[o + 1]? = some (.int .i64 c.batch) ∧ cs[o + 2]? = some (.bool c.pha) ∧ cs[o + 3]? = some (.slice ra c.parn rc) ∧ cs[o + 4]? = some (.slice sa c.alsn sc) ∧ PAr w ra c.parn c.parz ∧ PAr w sa c.alsn c.alsz
/-- A row of items of its own, behind world w. -/
def CI (w : World) (g n : Nat) (c : Nat → IT) (W : World) : Prop := w.heap.size ≤ g ∧ Below w.heap.size w W ∧ ∃ cs, CB W g cs 31 ∧ n * 5 ≤ cs.size ∧ ∀ j, j < n → ItC w cs (j * 5) (c j)
section
variable {w W W' : World} {g n : Nat} {c : Nat → IT}
theorem CI.lt (h : CI w g n c W) : g < W.heap.size := by obtain ⟨_, _, cs, h1, _⟩ := h; exact h1.lt
theorem CI.bel (h : CI w g n c W) : Below w.heap.size w W := h.2.1
theorem CI.row (h : CI w g n c W) : ITr W (some ⟨g, 0, none⟩) n c := by
  obtain ⟨h0, hb, cs, h1, h2, h3⟩ := h
  refine .inr ⟨g, 0, rfl, h1.lt, fun j hj => ?_⟩
  obtain ⟨ra, rc, sa, sc, e1, e2, a0, a1, a2, a3, a4, r1, r2⟩ := h3 j hj
  refine ⟨ra, rc, sa, sc, e1, e2, ?_, ?_, ?_, ?_, ?_, r1.below hb, r2.below hb⟩ <;> (rw [h1.cell]; simpa using (by assumption))
theorem CI.below (h : CI w g n c W) (b : Below W.heap.size W W') : CI w g n c W' := by
  obtain ⟨h0, hb, cs, h1, h2, h3⟩ := h
  exact ⟨h0, bel_on hb b, cs, h1.below b h1.lt, h2, h3⟩
theorem CI.pha (h : CI w g n c W) {k : Nat} (hk : k < n) (b : Bool) : CI w g n (fun j => if j = k then { c k with pha := b } else c j) (W.setCell ⟨g, k * 5 + 2, none⟩ (.bool b)) := by
  obtain ⟨h0, hb, cs, h1, h2, h3⟩ := h
  refine ⟨h0, hb.setCell h0 _, _, h1.set _ _, by simpa using h2, fun j hj => ?_⟩
  obtain ⟨ra, rc, sa, sc, e1, e2, a0, a1, a2, a3, a4, r1, r2⟩ := h3 j hj
  by_cases e : j = k
  · subst e
    simp only [if_true]
    refine ⟨ra, rc, sa, sc, e1, e2, ?_, ?_, ?_, ?_, ?_, r1, r2⟩
    · rw [get_set_ne (by omega)]; exact a0
    · rw [get_set_ne (by omega)]; exact a1
    · rw [get_set_eq (by omega)]
    · rw [get_set_ne (by omega)]; exact a3
    · rw [get_set_ne (by omega)]; exact a4
  · simp only [if_neg e]
    refine ⟨ra, rc, sa, sc, e1, e2, ?_, ?_, ?_, ?_, ?_, r1, r2⟩
    · rw [get_set_ne (by omega)]; exact a0
    · rw [get_set_ne (by omega)]; exact a1
    · rw [get_set_ne (by omega)]; exact a2
    · rw [get_set_ne (by omega)]; exact a3
    · rw [get_set_ne (by omega)]; exact a4
theorem CI.als (h : CI w g n c W) {k : Nat} (hk : k < n) (a : Option Addr) (cp : Nat) : CI w g n (fun j => if j = k then { c k with alsn := 0 } else c j) (W.setCell ⟨g, k * 5 + 4, none⟩ (.slice a 0 cp)) := by
  obtain ⟨h0, hb, cs, h1, h2, h3⟩ := h
  refine ⟨h0, hb.setCell h0 _, _, h1.set _ _, by simpa using h2, fun j hj => ?_⟩
  obtain ⟨ra, rc, sa, sc, e1, e2, a0, a1, a2, a3, a4, r1, r2⟩ := h3 j hj
  by_cases e : j = k
  · subst e
    simp only [if_true]
    refine ⟨ra, rc, a, cp, e1, Nat.zero_le _, ?_, ?_, ?_, ?_, ?_, r1, .inl rfl⟩
    · rw [get_set_ne (by omega)]; exact a0
    · rw [get_set_ne (by omega)]; exact a1
    · rw [get_set_ne (by omega)]; exact a2
    · rw [get_set_ne (by omega)]; exact a3
    · rw [get_set_eq (by omega)]
  · simp only [if_neg e]
    refine ⟨ra, rc, sa, sc, e1, e2, ?_, ?_, ?_, ?_, ?_, r1, r2⟩
    · rw [get_set_ne (by omega)]; exact a0
    · rw [get_set_ne (by omega)]; exact a1
    · rw [get_set_ne (by omega)]; exact a2
    · rw [get_set_ne (by omega)]; exact a3
    · rw [get_set_ne (by omega)]; exact a4
theorem CI.congr {c' : Nat → IT} (h : CI w g n c W) (e : ∀ j, j < n → c j = c' j) : CI w g n c' W := by
  obtain ⟨h0, hb, cs, h1, h2, h3⟩ := h
  exact ⟨h0, hb, cs, h1, h2, fun j hj => by rw [← e j hj]; exact h3 j hj⟩
/-- The two cells that may be written. -/
theorem CI.cells (h : CI w g n c W) {k : Nat} (hk : k < n) : (∃ v, W.cell? ⟨g, k * 5 + 2, none⟩ = some v) ∧ (∃ v, W.cell? ⟨g, k * 5 + 4, none⟩ = some v) ∧ (∀ o, W.frozen? ⟨g, o, none⟩ = false) := by
  obtain ⟨h0, hb, cs, h1, h2, h3⟩ := h
  obtain ⟨ra, rc, sa, sc, e1, e2, a0, a1, a2, a3, a4, r1, r2⟩ := h3 k hk
  exact ⟨⟨_, by rw [h1.cell]; exact a2⟩, ⟨_, by rw [h1.cell]; exact a4⟩, fun o => h1.fr o⟩
end
/-- The values of a row of items, as they lie. -/
theorem it_vals {w : World} {a : Addr} {n : Nat} {c : Nat → IT} (h : ITr w (some a) n c) : ∃ vs : List Value, vs.length = n * 5 ∧ (∀ v ∈ vs, v.oneCell' = true) ∧ (∀ W, Below w.heap.size w W → ∀ j u, vs[j]? = some u → W.cell? (a.add j) = some u) ∧ ∀ j, j < n → ∃ ra rc sa sc, (c j).parn ≤ rc ∧ (c j).alsn ≤ sc ∧ vs[j * 5]? = some (.string (c j).name) ∧ vs[j * 5 + 1]? = some (.int .i64 (c j).batch) ∧ vs[j * 5 + 2]? = some (.bool (c j).pha) ∧ vs[j * 5 + 3]? = some (.slice ra (c j).parn rc) ∧ vs[j * 5 + 4]? = some (.slice sa (c j).alsn sc) ∧ PAr w ra (c j).parn (c j).parz ∧ PAr w sa (c j).alsn (c j).alsz := by
  rcases h with h0 | ⟨k, off, e, hk, hc⟩
  · subst h0
    exact ⟨[], rfl, fun v hv => absurd hv (by simp), fun W b j u hj => absurd hj (by simp), fun j hj => absurd hj (by omega)⟩
  · cases e
    have hadd : ∀ j, (⟨k, off, none⟩ : Addr).add j = ⟨k, off + j, none⟩ := fun j => by unfold Addr.add; split <;> simp_all
    have one : ∀ j, j < n * 5 → ∃ u : Value, w.cell? ⟨k, off + j, none⟩ = some u ∧ u.oneCell' = true := by
      intro j hj
      obtain ⟨ra, rc, sa, sc, e1, e2, a0, a1, a2, a3, a4, r1, r2⟩ := hc (j / 5) (by omega)
      have hm : j = j / 5 * 5 ∨ j = j / 5 * 5 + 1 ∨ j = j / 5 * 5 + 2 ∨ j = j / 5 * 5 + 3 ∨ j = j / 5 * 5 + 4 := by omega
      rcases hm with hm | hm | hm | hm | hm
      · exact ⟨_, by rw [hm]; exact a0, rfl⟩
      · exact ⟨_, by rw [hm, ← Nat.add_assoc]; exact a1, rfl⟩
      · exact ⟨_, by rw [hm, ← Nat.add_assoc]; exact a2, rfl⟩
      · exact ⟨_, by rw [hm, ← Nat.add_assoc]; exact a3, rfl⟩
      · exact ⟨_, by rw [hm, ← Nat.add_assoc]; exact a4, rfl⟩
    have get : ∀ j, j < n * 5 → ((List.range (n * 5)).map fun j => (w.cell? ⟨k, off + j, none⟩).getD (.bool false))[j]? = w.cell? ⟨k, off + j, none⟩ := by
      intro j hj
      obtain ⟨u, hu, _⟩ := one j hj
      rw [List.getElem?_map, List.getElem?_range hj]
      simp [hu]
    refine ⟨(List.range (n * 5)).map fun j => (w.cell? ⟨k, off + j, none⟩).getD (.bool false), by simp, fun v hv => ?_, fun W b j u hj => ?_, fun j hj => ?_⟩
    · obtain ⟨j, hj, rfl⟩ := List.mem_map.mp hv
      obtain ⟨u, hu, h1⟩ := one j (List.mem_range.mp hj)
      simp [hu, h1]
    · have hl : j < n * 5 := by
        rcases Nat.lt_or_ge j (n * 5) with q | q
        · exact q
        · rw [List.getElem?_eq_none (by simpa using q)] at hj; cases hj
      rw [get j hl] at hj
      rw [hadd]; exact keep_cell b hj
    · obtain ⟨ra, rc, sa, sc, e1, e2, a0, a1, a2, a3, a4, r1, r2⟩ := hc j hj
      refine ⟨ra, rc, sa, sc, e1, e2, ?_, ?_, ?_, ?_, ?_, r1, r2⟩
      · rw [get _ (by omega)]; exact a0
      · rw [get _ (by omega), ← Nat.add_assoc]; exact a1
      · rw [get _ (by omega), ← Nat.add_assoc]; exact a2
      · rw [get _ (by omega), ← Nat.add_assoc]; exact a3
      · rw [get _ (by omega), ← Nat.add_assoc]; exact a4
/-- Behind the append of a row of items to an empty one. -/
def PL (w : World) (v : Value) (n : Nat) (c : Nat → IT) (W : World) : Prop := Below w.heap.size w W ∧ ∃ ad cap, v = .slice ad n cap ∧ (n = 0 ∨ ∃ g, ad = some ⟨g, 0, none⟩ ∧ CI w g n c W)
theorem PL.of {w W : World} {n : Nat} {c : Nat → IT} {v : Value} {vs : List Value} (hb : Below w.heap.size w W) (ho : W.ownsRow w.heap.size 31 5 v n vs) (hv : ∀ j, j < n → ∃ ra rc sa sc, (c j).parn ≤ rc ∧ (c j).alsn ≤ sc ∧ vs[j * 5]? = some (.string (c j).name) ∧ vs[j * 5 + 1]? = some (.int .i64 (c j).batch) ∧ vs[j * 5 + 2]? = some (.bool (c j).pha) ∧ vs[j * 5 + 3]? = some (.slice ra (c j).parn rc) ∧ vs[j * 5 + 4]? = some (.slice sa (c j).alsn sc) ∧ PAr w ra (c j).parn (c j).parz ∧ PAr w sa (c j).alsn (c j).alsz) : PL w v n c W := by
  refine ⟨hb, ?_⟩
  rcases ho.2 with ⟨rfl, h0⟩ | ⟨g, cap, cur, rfl, hbg, hgg, h1, h2, h3, h4⟩
  · exact ⟨none, 0, by rw [h0], .inl h0⟩
  · refine ⟨_, cap, rfl, .inr ⟨g, rfl, hbg, hb, cur, hgg, ?_, fun j hj => ?_⟩⟩
    · have := congrArg List.length h4
      rw [List.length_take, ho.1, Array.length_toList] at this
      omega
    · have get : ∀ o, o < n * 5 → cur[o]? = vs[o]? := fun o ho => by
        rw [← h4, List.getElem?_take, if_pos ho]; simp
      obtain ⟨ra, rc, sa, sc, e1, e2, a0, a1, a2, a3, a4, r1, r2⟩ := hv j hj
      refine ⟨ra, rc, sa, sc, e1, e2, ?_, ?_, ?_, ?_, ?_, r1, r2⟩ <;> (rw [get _ (by omega)]; assumption)
theorem madeIT {w : World} {g base : Nat} (h : CB w g #[] 31) (hb : base ≤ g) : w.ownsRow base 31 5 (.slice (some ⟨g, 0, none⟩) 0 0) 0 [] := ⟨rfl, .inr ⟨g, 0, #[], rfl, hb, h, Nat.le_refl _, Nat.zero_le _, rfl, rfl⟩⟩
set_option maxRecDepth 20000 in
set_option maxHeartbeats 2000000 in
theorem sameInts_same (ad be : Option Addr) (len cap cap2 : Nat) (z : Nat → Int) (w : World) (h : (len : Int) ≤ 1048576) (h1 : IR w ad len z) (h2 : IR w be len z) :
    Calls Try.prog 24 #[.slice ad len cap, .slice be len cap2] w fun e w' => e = .returned (.bool true) ∧ Below w.heap.size w w' := by
  have H1 : Hid (IR w ad len z) := h1
  have H2 : Hid (IR w be len z) := h2
  clear h1 h2
  go_enter Try.func24, Try.ntmps24
  go_wp2
  go_loopw [5] (fun i wr => ∃ (k q : Nat), k ≤ len ∧ i = .int .i64 (k : Int) ∧ wr = w.drewN q) (fun i _ => len - (intOf i).toNat)
  case atStart => exact ⟨0, 0, Nat.zero_le _, rfl, rfl⟩
  case round =>
    obtain ⟨k, q, hk, rfl, rfl⟩ := hrel
    by_cases hlt : k < len
    · obtain ⟨kb, off, rfl, _⟩ := H1.out.addr (by omega)
      obtain ⟨kb2, off2, rfl, _⟩ := H2.out.addr (by omega)
      have c1 := H1.out.cell hlt
      have c2 := H2.out.cell hlt
      generalize z k = y at c1 c2
      have hlt2 : (k : Int) < (len : Int) := by omega
      go_wp2
      go_quiet (fail)
      go_wp2
      go_roundw
      case rel => exact ⟨k + 1, q + nq, by omega, by go_num, rfl⟩
      case measure => simp [intOf]; omega
    · go_wp2
      go_returns
      exact ⟨rfl, ⟨rfl, rfl, rfl, Nat.le_refl _, fun _ _ => rfl⟩⟩
/-- A row of whole numbers in a block, that may be written. -/
def TI (W : World) (tb n : Nat) (f : Nat → Int) : Prop := ∃ cs, CB W tb cs 3 ∧ n ≤ cs.size ∧ ∀ j, j < n → cs[j]? = some (.int .i64 (f j))
section
variable {W W' : World} {tb n : Nat} {f : Nat → Int}
theorem TI.lt (h : TI W tb n f) : tb < W.heap.size := by obtain ⟨cs, h1, _⟩ := h; exact h1.lt
theorem TI.cell (h : TI W tb n f) {k : Nat} (hk : k < n) : W.cell? ⟨tb, k, none⟩ = some (.int .i64 (f k)) := by obtain ⟨cs, h1, h2, h3⟩ := h; rw [h1.cell]; exact h3 k hk
theorem TI.fr (h : TI W tb n f) (k : Nat) : W.frozen? ⟨tb, k, none⟩ = false := by obtain ⟨cs, h1, _⟩ := h; exact h1.fr k
theorem TI.set (h : TI W tb n f) {k : Nat} (hk : k < n) (x : Int) : TI (W.setCell ⟨tb, k, none⟩ (.int .i64 x)) tb n (fun j => if j = k then x else f j) := by
  obtain ⟨cs, h1, h2, h3⟩ := h
  refine ⟨_, h1.set _ _, by simpa using h2, fun j hj => ?_⟩
  by_cases e : j = k
  · subst e; rw [get_set_eq (by omega)]; simp
  · rw [get_set_ne (by omega), h3 j hj]; simp [e]
theorem TI.below (h : TI W tb n f) (b : Below W.heap.size W W') : TI W' tb n f := by
  obtain ⟨cs, h1, h2, h3⟩ := h
  exact ⟨cs, h1.below b h1.lt, h2, h3⟩
theorem TI.congr {f' : Nat → Int} (h : TI W tb n f) (e : ∀ j, j < n → f j = f' j) : TI W tb n f' := by
  obtain ⟨cs, h1, h2, h3⟩ := h
  exact ⟨cs, h1, h2, fun j hj => by rw [← e j hj]; exact h3 j hj⟩
theorem TI.row (h : TI W tb n f) : IR W (some ⟨tb, 0, none⟩) n f := by
  obtain ⟨cs, h1, h2, h3⟩ := h
  exact IR.of_block h1 n f h3
theorem TI.made1 (w : World) {n i : Nat} (hi : i < n) (q : Int) : TI (w.alloc (.cells ((zeros n).setIfInBounds i (.int .i64 q)) 3)) w.heap.size n (fun j => if j = i then q else 0) := ⟨_, CB.new _ _, by simp [zeros_size], fun j hj => by
  by_cases e : j = i
  · subst e; rw [get_set_eq (by rw [zeros_size]; exact hj)]; simp
  · rw [get_set_ne (by omega)]; simp [zeros, madeCells, hj, Nat.mod_one, e]⟩
theorem TI.made (w : World) (n : Nat) : TI (w.alloc (.cells (zeros n) 3)) w.heap.size n (fun _ => 0) := ⟨zeros n, CB.new _ _, by rw [zeros_size]; omega, fun j hj => by simp [zeros, madeCells, hj, Nat.mod_one]⟩
end
end Go.Proofs.Ytmbdeafpfdeigaa
