/- Rows of rates that a draw makes: appended to, stored into, read. Nothing of the program but the numbers of its types. -/
import Derived.Test.YtidhnmodedbmgaaDt
import Derived.Test.YtidhnmodedbmgaaRf
namespace Go.Proofs.Ytidhnmodedbmgaa
open Go.RowKit
set_option linter.unusedVariables false

def AllI (xs : List Value) : Prop := ∀ u ∈ xs, ∃ z : Int, u = .int .i64 z
/-- A row of n rates of whatever numbers at block g, above the cursor's. -/
def OWN (w : World) (b g n cap : Nat) : Prop := b < g ∧ ∃ xs, w.ownsRow (b + 1) 70 4 (.slice (some ⟨g, 0, none⟩) n cap) n xs ∧ AllI xs

theorem own_parts {w : World} {b g n cap : Nat} (h : OWN w b g n cap) : ∃ cur : Array Value, CB w g cur 70 ∧ n ≤ cap ∧ cap ≤ maxLen ∧ cur.size = cap * 4 ∧ AllI (cur.toList.take (n * 4)) := by
  obtain ⟨hb, xs, ⟨hl, h2⟩, hA⟩ := h
  rcases h2 with ⟨e, _⟩ | ⟨g', cap', cur, e, hb', hg, hn, hc, hs, ht⟩
  · cases e
  · simp only [Value.slice.injEq, Option.some.injEq, Addr.mk.injEq] at e
    obtain ⟨⟨rfl, _⟩, _, rfl⟩ := e
    exact ⟨cur, hg, hn, hc, hs, by rw [ht]; exact hA⟩
theorem own_mk {w : World} {b g n cap : Nat} {cur : Array Value} (hb : b < g) (h : CB w g cur 70) (hn : n ≤ cap) (hc : cap ≤ maxLen) (hs : cur.size = cap * 4) (hA : AllI (cur.toList.take (n * 4))) : OWN w b g n cap := by
  refine ⟨hb, cur.toList.take (n * 4), ⟨?_, .inr ⟨g, cap, cur, rfl, hb, h, hn, hc, hs, rfl⟩⟩, hA⟩
  simp only [List.length_take, Array.length_toList, hs]
  have := Nat.mul_le_mul_right 4 hn
  omega
theorem OWN.lt {w : World} {b g n cap : Nat} (h : OWN w b g n cap) : g < w.heap.size := by obtain ⟨cur, hc, _⟩ := own_parts h; exact hc.lt
theorem OWN.alloc {w : World} {b g n cap : Nat} (h : OWN w b g n cap) (o : Obj) : OWN (w.alloc o) b g n cap := by
  obtain ⟨cur, a, b', c, d, e⟩ := own_parts h; exact own_mk h.1 (a.alloc o) b' c d e
theorem OWN.turns {w w' : World} {b g n cap : Nat} (h : OWN w b g n cap) (T : Turns b w w') : OWN w' b g n cap := by
  obtain ⟨cur, a, b', c, d, e⟩ := own_parts h; exact own_mk h.1 (a.turns T (Nat.ne_of_gt h.1)) b' c d e
theorem take_set (l : List Value) (m o : Nat) (v : Value) : (l.set o v).take m = (l.take m).set o v := by
  rw [List.take_set]
theorem OWN.set {w : World} {b g n cap : Nat} (h : OWN w b g n cap) (o : Nat) (z : Int) : OWN (w.setCell ⟨g, o, none⟩ (.int .i64 z)) b g n cap := by
  obtain ⟨cur, a, b', c, d, e⟩ := own_parts h
  refine own_mk h.1 (a.set o (.int .i64 z)) b' c (by simp [d]) ?_
  intro u hu
  rw [Array.toList_setIfInBounds, take_set] at hu
  rcases List.mem_or_eq_of_mem_set hu with g | g
  · exact e u g
  · exact ⟨z, g⟩
theorem OWN.cell {w : World} {b g n cap : Nat} (h : OWN w b g n cap) {o : Nat} (ho : o < n * 4) : (∃ z : Int, w.cell? ⟨g, o, none⟩ = some (.int .i64 z)) ∧ w.frozen? ⟨g, o, none⟩ = false := by
  obtain ⟨cur, a, b', c, d, e⟩ := own_parts h
  have hm := Nat.mul_le_mul_right 4 b'
  have hlt : o < cur.size := by omega
  refine ⟨?_, a.fr o⟩
  have hmem : cur[o] ∈ cur.toList.take (n * 4) := by
    rw [List.mem_take_iff_getElem]
    exact ⟨o, by simp; omega, by simp⟩
  obtain ⟨z, hz⟩ := e _ hmem
  exact ⟨z, by rw [a.cell, Array.getElem?_eq_getElem hlt, hz]⟩
theorem OWN.rr {w : World} {b g n cap : Nat} (h : OWN w b g n cap) : ∃ r : Nat → R4, RR w (some ⟨g, 0, none⟩) n r := by
  let V (o : Nat) : Int := intAt ((w.cell? ⟨g, o, none⟩).getD undef)
  have get : ∀ o, o < n * 4 → w.cell? ⟨g, o, none⟩ = some (.int .i64 (V o)) := fun o ho => by
    obtain ⟨⟨z, hz⟩, _⟩ := h.cell ho
    simp only [V, hz, Option.getD_some, intAt]
  refine ⟨fun j => ⟨V (0 + j * 4), V (0 + j * 4 + 1), V (0 + j * 4 + 2), V (0 + j * 4 + 3)⟩, .inr ⟨g, 0, rfl, h.lt, fun j hj => ⟨get _ (by omega), get _ (by omega), get _ (by omega), get _ (by omega)⟩⟩⟩
theorem own_app {w' : World} {b n : Nat} {xs : List Value} {v' : Value} {z0 z1 z2 z3 : Int} (hA : AllI xs) (h : w'.ownsRow (b + 1) 70 4 v' (n + 1) (xs ++ R4.cells ⟨z0, z1, z2, z3⟩)) : ∃ g' cap', v' = .slice (some ⟨g', 0, none⟩) (n + 1) cap' ∧ OWN w' b g' (n + 1) cap' := by
  obtain ⟨g', cap', rfl, hb⟩ := ownsRow_some h (by omega)
  refine ⟨g', cap', rfl, hb, _, h, fun u hu => ?_⟩
  rcases List.mem_append.1 hu with g | g
  · exact hA u g
  · simp [R4.cells] at g
    rcases g with rfl | rfl | rfl | rfl <;> exact ⟨_, rfl⟩

end Go.Proofs.Ytidhnmodedbmgaa
