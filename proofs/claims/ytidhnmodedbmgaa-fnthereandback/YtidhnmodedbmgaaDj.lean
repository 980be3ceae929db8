/- The draw of what Cash is asked for. -/
import Derived.Test.YtidhnmodedbmgaaDc
import Derived.Test.YtidhnmodedbmgaaAm
namespace Go.Proofs.Ytidhnmodedbmgaa
open Go.ChangeShapes Go.WideShapes Go.ChangeAt Go.RowKit
set_option linter.unusedVariables false
set_option linter.unusedSimpArgs false

/-- The draw of a currency under way: the cursor at the block behind the answer's, the box of the currency at N6. -/
structure St (w : World) (N6 : Nat) (s : ByteArray) (p q : Int) (W : World) : Prop where
  cur : Cursor W (w.heap.size + 1)
  bel : Below w.heap.size w W
  z : CB W w.heap.size #[.string ByteArray.empty, .int .i64 0, .int .i64 0] 33
  box : CB W N6 #[.string s, .int .i64 p, .int .i64 q] 33
  far : w.heap.size + 1 < N6

section
variable {w W W' : World} {N6 : Nat} {s : ByteArray} {p q : Int}
theorem St.moved (h : St w N6 s p q W) (m : Moved (w.heap.size + 1) W W') : St w N6 s p q W' :=
  ⟨m.1, h.bel.trans (m.2.below (by omega) h.bel.size), h.z.turns m.2 (by omega), h.box.turns m.2 (by have := h.far; omega), h.far⟩
theorem St.alloc (h : St w N6 s p q W) (o : Obj) : St w N6 s p q (W.alloc o) := ⟨h.cur.alloc o, h.bel.alloc h.bel.size o, h.z.alloc o, h.box.alloc o, h.far⟩
theorem St.drew (h : St w N6 s p q W) : St w N6 s p q W.drew := ⟨h.cur.drew, h.bel.drew, h.z, h.box, h.far⟩
theorem St.cells (h : St w N6 s p q W) : W.cell? ⟨N6, 0, none⟩ = some (.string s) ∧ W.cell? ⟨N6, 1, none⟩ = some (.int .i64 p) ∧ W.cell? ⟨N6, 2, none⟩ = some (.int .i64 q) :=
  ⟨(h.box.cell 0).trans rfl, (h.box.cell 1).trans rfl, (h.box.cell 2).trans rfl⟩
theorem cur_set {b c o : Nat} {v : Value} (h : Cursor W b) (hc : b < c) : Cursor (W.setCell ⟨c, o, none⟩ v) b :=
  h.low (by simp) (fun k hk => Below.heap_setCell _ _ _ _ (by show k ≠ c; omega))
theorem St.set2 (h : St w N6 s p q W) (v : Int) : St w N6 s p v (W.setCell ⟨N6, 2, none⟩ (.int .i64 v)) :=
  ⟨cur_set h.cur h.far, h.bel.setCell (by have := h.far; simp; omega) _, h.z.other _ (by have := h.far; omega), by simpa using h.box.set 2 (.int .i64 v), h.far⟩
theorem St.set0 (h : St w N6 s p q W) (v : ByteArray) : St w N6 v p q (W.setCell ⟨N6, 0, none⟩ (.string v)) :=
  ⟨cur_set h.cur h.far, h.bel.setCell (by have := h.far; simp; omega) _, h.z.other _ (by have := h.far; omega), by simpa using h.box.set 0 (.string v), h.far⟩
/-- The answer stored. -/
theorem St.stored (h : St w N6 s p q W) : CB (((W.setCell ⟨w.heap.size, 0, none⟩ (.string s)).setCell ⟨w.heap.size, 1, none⟩ (.int .i64 p)).setCell ⟨w.heap.size, 2, none⟩ (.int .i64 q)) w.heap.size #[.string s, .int .i64 p, .int .i64 q] 33 ∧
    Below w.heap.size w (((W.setCell ⟨w.heap.size, 0, none⟩ (.string s)).setCell ⟨w.heap.size, 1, none⟩ (.int .i64 p)).setCell ⟨w.heap.size, 2, none⟩ (.int .i64 q)) ∧
    (((W.setCell ⟨w.heap.size, 0, none⟩ (.string s)).setCell ⟨w.heap.size, 1, none⟩ (.int .i64 p)).setCell ⟨w.heap.size, 2, none⟩ (.int .i64 q)).cell? ⟨N6, 0, none⟩ = some (.string s) ∧
    (((W.setCell ⟨w.heap.size, 0, none⟩ (.string s)).setCell ⟨w.heap.size, 1, none⟩ (.int .i64 p)).setCell ⟨w.heap.size, 2, none⟩ (.int .i64 q)).cell? ⟨N6, 1, none⟩ = some (.int .i64 p) ∧
    (((W.setCell ⟨w.heap.size, 0, none⟩ (.string s)).setCell ⟨w.heap.size, 1, none⟩ (.int .i64 p)).setCell ⟨w.heap.size, 2, none⟩ (.int .i64 q)).cell? ⟨N6, 2, none⟩ = some (.int .i64 q) := by
  have hf := h.far
  have B := ((h.box.other (c := w.heap.size) (o := 0) (.string s) (by omega)).other (c := w.heap.size) (o := 1) (.int .i64 p) (by omega)).other (c := w.heap.size) (o := 2) (.int .i64 q) (by omega)
  refine ⟨by simpa using ((h.z.set 0 (.string s)).set 1 (.int .i64 p)).set 2 (.int .i64 q), ((h.bel.setCell (by simp) _).setCell (by simp) _).setCell (by simp) _, (B.cell 0).trans rfl, (B.cell 1).trans rfl, (B.cell 2).trans rfl⟩
end

theorem CR.turns {b : Nat} {w w' : World} {g off len : Nat} {c : Nat → C3} (H : CR w (some ⟨g, off, none⟩) len c) (T : Turns b w w') (hne : g ≠ b) : CR w' (some ⟨g, off, none⟩) len c := by
  rcases H with h | ⟨k, o, e, hk, hc⟩
  · exact .inl h
  · simp only [Option.some.injEq, Addr.mk.injEq] at e
    obtain ⟨rfl, rfl, _⟩ := e
    exact .inr ⟨g, off, rfl, Nat.lt_of_lt_of_le hk T.size, fun j hj => (hc j hj).block (T.block g hk hne)⟩

theorem byte_alloc {w : World} {ad : Option Addr} {len : Nat} (h : ByteRow w w.heap.size ad len) (o : Obj) : ByteRow (w.alloc o) (w.alloc o).heap.size ad len := by
  rcases h with h0 | ⟨k, off, e, hb, hk, hc⟩
  · exact .inl h0
  · refine .inr ⟨k, off, e, by simp; omega, by simp; omega, fun j hj => ?_⟩
    obtain ⟨c, c0, c1, hcc⟩ := hc j hj
    exact ⟨c, c0, c1, by rw [World.cell?_of_block (w := w) (((Below.refl w.heap.size w).alloc (Nat.le_refl _) o).block k hk)]; exact hcc⟩

/-- One of five texts. -/
theorem pickS_any (b k : Nat) (s : ByteArray) (w : World) (hc : Cursor w b) (hr : CB w k #[.string s, .string s, .string s, .string s, .string { data := #[] }] 9) (hk : k ≠ b) :
    Calls Try.prog 46 #[.pointer (some ⟨b, 0, none⟩), .slice (some ⟨k, 0, none⟩) 5 5] w fun e w' => (∃ t : ByteArray, e = .returned (.string t) ∧ (t = s ∨ t = { data := #[] })) ∧ Moved b w w' := by
  have HC : Hid (Cursor w b) := hc
  have HR : Hid (CB w k #[.string s, .string s, .string s, .string s, .string { data := #[] }] 9) := hr
  clear hc hr
  go_enter Try.func46, Try.ntmps46
  go_wp2_with (go_at_call 33; refine (below_any b _ _ HC.out).mono ?_; rintro e w1 ⟨x, rfl, x0, x1, x2, m1⟩; have x3 := x1 (by decide); obtain ⟨j, rfl⟩ : ∃ j : Nat, x = (j : Int) := ⟨x.toNat, by omega⟩; have C1 := HR.out.turns m1.2 hk; have hcell : ∃ t : ByteArray, w1.cell? ⟨k, j, none⟩ = some (.string t) ∧ (t = s ∨ t = { data := #[] }) := (by rcases (show j = 0 ∨ j = 1 ∨ j = 2 ∨ j = 3 ∨ j = 4 by omega) with rfl | rfl | rfl | rfl | rfl; exact ⟨s, (C1.cell 0).trans rfl, .inl rfl⟩; exact ⟨s, (C1.cell 1).trans rfl, .inl rfl⟩; exact ⟨s, (C1.cell 2).trans rfl, .inl rfl⟩; exact ⟨s, (C1.cell 3).trans rfl, .inl rfl⟩; exact ⟨_, (C1.cell 4).trans rfl, .inr rfl⟩); obtain ⟨t, hc1, ht⟩ := hcell; have M1 : Hid (Moved b w w1) := m1; have HT : Hid (t = s ∨ t = { data := #[] }) := ht; clear m1 x1 x2 C1 ht)
  go_returns
  exact ⟨⟨t, rfl, HT.out⟩, M1.out⟩

end Go.Proofs.Ytidhnmodedbmgaa
