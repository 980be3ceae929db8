/- What a calendar's draw has of its row, and what it hands back. Nothing of the program but the numbers of its types. -/
import Derived.Test.YtadjdpoplaknkaaDx
namespace Go.Proofs.Ytadjdpoplaknkaa
open Go.RowKit
set_option linter.unusedVariables false

section
variable {w W W' : World} {b X n : Nat} {off : Int} {v : Value}
theorem Kp.parts (h : Kp w b X off v n W) : (v = .slice none 0 0 ∧ n = 0) ∨ ∃ g cap, ∃ cur : Array Value, v = .slice (some ⟨g, 0, none⟩) n cap ∧ X + 1 ≤ g ∧ CB W g cur 3 ∧ n ≤ cap ∧ cap ≤ maxLen ∧ cur.size = cap ∧ AllI (cur.toList.take n) := by
  obtain ⟨xs, ⟨hl, h2⟩, hA⟩ := h.row
  rcases h2 with ⟨rfl, rfl⟩ | ⟨g, cap, cur, rfl, hb, hg, hn, hc, hs, ht⟩
  · exact .inl ⟨rfl, rfl⟩
  · rw [Nat.mul_one] at ht hs
    exact .inr ⟨g, cap, cur, rfl, hb, hg, hn, hc, hs, by rw [ht]; exact hA⟩
theorem Kp.drewK (h : Kp w b X off v n W) : Kp w b X off v n W.drew := by
  obtain ⟨xs, ho, hA⟩ := h.row
  exact ⟨h.cur.drew, h.tu.drew, h.z, h.box, ⟨xs, ho, hA⟩, h.far, h.low⟩
theorem allI_at {cur : Array Value} (hA : AllI (cur.toList.take n)) {o : Nat} (ho : o < n) (hs : n ≤ cur.size) : ∃ z : Int, cur[o]? = some (.int .i64 z) := by
  have hlt : o < cur.size := by omega
  have hmem : cur[o] ∈ cur.toList.take n := by
    rw [List.mem_take_iff_getElem]
    exact ⟨o, by simp; omega, by simp⟩
  obtain ⟨z, hz⟩ := hA _ hmem
  exact ⟨z, by rw [Array.getElem?_eq_getElem hlt, hz]⟩
theorem Kp.cellN {g cap : Nat} (h : Kp w b X off (.slice (some ⟨g, 0, none⟩) n cap) n W) {o : Nat} (ho : o < n) : (∃ z : Int, W.cell? ⟨g, o, none⟩ = some (.int .i64 z)) ∧ W.frozen? ⟨g, o, none⟩ = false ∧ X + 1 ≤ g ∧ g < W.heap.size := by
  rcases h.parts with ⟨e, _⟩ | ⟨g', cap', cur, e, hb, hc, hn, hcm, hs, hA⟩
  · cases e
  · simp only [Value.slice.injEq, Option.some.injEq, Addr.mk.injEq] at e
    obtain ⟨⟨rfl, _⟩, _, rfl⟩ := e
    obtain ⟨z, hz⟩ := allI_at hA ho (by omega)
    exact ⟨⟨z, by rw [hc.cell]; exact hz⟩, hc.fr o, hb, hc.lt⟩
theorem Kp.setRow {g cap : Nat} (h : Kp w b X off (.slice (some ⟨g, 0, none⟩) n cap) n W) (o : Nat) (y : Int) : Kp w b X off (.slice (some ⟨g, 0, none⟩) n cap) n (W.setCell ⟨g, o, none⟩ (.int .i64 y)) := by
  have hf := h.far; have hl := h.low
  rcases h.parts with ⟨e, _⟩ | ⟨g', cap', cur, e, hb, hc, hn, hcm, hs, hA⟩
  · cases e
  · simp only [Value.slice.injEq, Option.some.injEq, Addr.mk.injEq] at e
    obtain ⟨⟨rfl, _⟩, _, rfl⟩ := e
    refine ⟨cur_set h.cur (by omega), set_turns h.tu (by omega), h.z.other _ (by omega), h.box.other _ (by omega), ⟨(cur.setIfInBounds o (.int .i64 y)).toList.take (n * 1), ⟨by simp; omega, .inr ⟨g, cap, _, rfl, hb, hc.set o _, hn, hcm, by simp; omega, rfl⟩⟩, ?_⟩, hf, hl⟩
    intro u hu
    rw [Nat.mul_one, Array.toList_setIfInBounds, List.take_set] at hu
    rcases List.mem_or_eq_of_mem_set hu with k | k
    · exact hA u k
    · exact ⟨y, k⟩

/-- The answer stored, and what is handed back. -/
theorem Kp.fin (h : Kp w b X off v n W) : ∃ W9, W9 = (W.setCell ⟨w.heap.size, 0, none⟩ (.int .i64 off)).setCell ⟨w.heap.size, 1, none⟩ v ∧ CB W9 w.heap.size #[.int .i64 off, v] 26 ∧ Moved b w W9 ∧
    ∃ ad cap z, v = .slice ad n cap ∧ IR W9 ad n z ∧ ∀ k o, ad = some ⟨k, o, none⟩ → w.heap.size < k := by
  have hf := h.far; have hl := h.low
  refine ⟨_, rfl, by simpa using (h.z.set 0 (.int .i64 off)).set 1 v, ⟨cur_set (cur_set h.cur hl) hl, set_turns (set_turns h.tu (Nat.le_refl _)) (Nat.le_refl _)⟩, ?_⟩
  rcases h.parts with ⟨rfl, rfl⟩ | ⟨g, cap, cur, rfl, hb, hc, hn, hcm, hs, hA⟩
  · exact ⟨none, 0, fun _ => 0, rfl, .inl rfl, fun k o e => by cases e⟩
  · have hc2 := (hc.other (c := w.heap.size) (o := 0) (.int .i64 off) (by omega)).other (c := w.heap.size) (o := 1) (.slice (some ⟨g, 0, none⟩) n cap) (by omega)
    have key : ∀ j, ∃ z : Int, j < n → cur[j]? = some (.int .i64 z) := fun j => by
      by_cases hj : j < n
      · obtain ⟨z, hz⟩ := allI_at hA hj (by omega); exact ⟨z, fun _ => hz⟩
      · exact ⟨0, fun h => absurd h hj⟩
    exact ⟨some ⟨g, 0, none⟩, cap, fun j => Classical.choose (key j), rfl, IR.of_block hc2 n _ (fun j hj => Classical.choose_spec (key j) hj), fun k o e => by simp only [Option.some.injEq, Addr.mk.injEq] at e; omega⟩
end

end Go.Proofs.Ytadjdpoplaknkaa
