/- Rows of parts as lists; such rows that are owned. -/
import Derived.Test.YtmbdeafpfdeigaaPb
import Derived.Laws.OwnMore
import Derived.Maps.AppendAt
namespace Go.Proofs.Ytmbdeafpfdeigaa
open Go.ChangeShapes Go.WideShapes Go.ChangeAt Go.RowKit
set_option linter.unusedVariables false
set_option linter.unusedSimpArgs false

theorem below_app {w w3 : World} {o : Obj} (hgrow : (w.alloc o).grownBy w3 (Value.ownBlock (.slice (some ⟨w.heap.size, 0, none⟩) 0 0))) : Below w.heap.size w w3 := Below.grown ((Below.refl _ _).alloc (Nat.le_refl _) _) hgrow (by simp) (fun k hk => by simp [Value.ownBlock] at hk; omega)
theorem ownsRow_below {w w' : World} {base n s : Nat} {t : TypeId} {v : Value} {xs : List Value} (h : w.ownsRow base t s v n xs) (b : Below w.heap.size w w') : w'.ownsRow base t s v n xs := by
  obtain ⟨hl, h2⟩ := h
  refine ⟨hl, ?_⟩
  rcases h2 with h | ⟨g, cap, cur, e, hb, hg, h3⟩
  · exact .inl h
  · exact .inr ⟨g, cap, cur, e, hb, by rw [b.block g (lt_of_block hg)]; exact hg, h3⟩
def rowPA6 (c : Nat → PA6) : Nat → List Value
  | 0 => []
  | k + 1 => rowPA6 c k ++ [.int .i64 (c k).item, .int .i64 (c k).qty, .int .i64 (c k).scr, .int .i64 (c k).fst, .int .i64 (c k).lst, .int .i64 (c k).grp]
theorem rowPA6_len (c : Nat → PA6) : ∀ n, (rowPA6 c n).length = n * 6
  | 0 => rfl
  | n + 1 => by simp [rowPA6, rowPA6_len c n]; omega
theorem rowPA6_one (c : Nat → PA6) : ∀ n, ∀ v ∈ rowPA6 c n, v.oneCell' = true
  | 0, v, h => by simp [rowPA6] at h
  | n + 1, v, h => by
    simp only [rowPA6, List.mem_append, List.mem_cons, List.not_mem_nil, or_false] at h
    rcases h with h | rfl | rfl | rfl | rfl | rfl | rfl
    · exact rowPA6_one c n v h
    all_goals rfl
theorem rowPA6_get (c : Nat → PA6) : ∀ n j, j < n → (rowPA6 c n)[j * 6]? = some (.int .i64 (c j).item) ∧ (rowPA6 c n)[j * 6 + 1]? = some (.int .i64 (c j).qty) ∧ (rowPA6 c n)[j * 6 + 2]? = some (.int .i64 (c j).scr) ∧ (rowPA6 c n)[j * 6 + 3]? = some (.int .i64 (c j).fst) ∧ (rowPA6 c n)[j * 6 + 4]? = some (.int .i64 (c j).lst) ∧ (rowPA6 c n)[j * 6 + 5]? = some (.int .i64 (c j).grp)
  | 0, j, h => by omega
  | n + 1, j, h => by
    have e := rowPA6_len c n
    by_cases hj : j = n
    · subst hj
      simp only [rowPA6]
      refine ⟨?_, ?_, ?_, ?_, ?_, ?_⟩
      · rw [List.getElem?_append_right (by omega), show j * 6 - (rowPA6 c j).length = 0 by omega]; rfl
      · rw [List.getElem?_append_right (by omega), show j * 6 + 1 - (rowPA6 c j).length = 1 by omega]; rfl
      · rw [List.getElem?_append_right (by omega), show j * 6 + 2 - (rowPA6 c j).length = 2 by omega]; rfl
      · rw [List.getElem?_append_right (by omega), show j * 6 + 3 - (rowPA6 c j).length = 3 by omega]; rfl
      · rw [List.getElem?_append_right (by omega), show j * 6 + 4 - (rowPA6 c j).length = 4 by omega]; rfl
      · rw [List.getElem?_append_right (by omega), show j * 6 + 5 - (rowPA6 c j).length = 5 by omega]; rfl
    · obtain ⟨a0, a1, a2, a3, a4, a5⟩ := rowPA6_get c n j (by omega)
      simp only [rowPA6]
      refine ⟨?_, ?_, ?_, ?_, ?_, ?_⟩ <;> (rw [List.getElem?_append_left (by omega)]; assumption)
theorem rowPA6_src {w : World} {a : Addr} {n : Nat} {c : Nat → PA6} (H : PAr w (some a) n c) : ∀ j v, (rowPA6 c n)[j]? = some v → w.cell? (a.add j) = some v := by
  intro j v hv
  have hlen := rowPA6_len c n
  have hj : j < n * 6 := by
    rcases Nat.lt_or_ge j (n * 6) with q | q
    · exact q
    · rw [List.getElem?_eq_none (by omega)] at hv; cases hv
  obtain ⟨k, off, e, hk⟩ := H.addr (by omega)
  cases e
  have hadd : (⟨k, off, none⟩ : Addr).add j = ⟨k, off + j, none⟩ := by unfold Addr.add; split <;> simp_all
  rw [hadd]
  obtain ⟨a0, a1, a2, a3, a4, a5⟩ := H.cell (j := j / 6) (by omega)
  obtain ⟨b0, b1, b2, b3, b4, b5⟩ := rowPA6_get c n (j / 6) (by omega)
  have hm : j = j / 6 * 6 ∨ j = j / 6 * 6 + 1 ∨ j = j / 6 * 6 + 2 ∨ j = j / 6 * 6 + 3 ∨ j = j / 6 * 6 + 4 ∨ j = j / 6 * 6 + 5 := by omega
  rcases hm with hm | hm | hm | hm | hm | hm
  · rw [hm] at hv ⊢; rw [b0] at hv; cases hv; exact a0
  · rw [hm] at hv ⊢; rw [b1] at hv; cases hv; rw [← Nat.add_assoc]; exact a1
  · rw [hm] at hv ⊢; rw [b2] at hv; cases hv; rw [← Nat.add_assoc]; exact a2
  · rw [hm] at hv ⊢; rw [b3] at hv; cases hv; rw [← Nat.add_assoc]; exact a3
  · rw [hm] at hv ⊢; rw [b4] at hv; cases hv; rw [← Nat.add_assoc]; exact a4
  · rw [hm] at hv ⊢; rw [b5] at hv; cases hv; rw [← Nat.add_assoc]; exact a5
set_option maxRecDepth 100000 in
theorem infoPA6 : ∃ i, Try.prog.info? 28 = some i ∧ i.zero = some (.agg #[.int .i64 0, .int .i64 0, .int .i64 0, .int .i64 0, .int .i64 0, .int .i64 0]) ∧ i.size = 6 ∧ i.bytes = 48 := by
  obtain ⟨i0, hi⟩ : ∃ i, Try.prog.info? 28 = some i := ⟨_, rfl⟩
  have hz0 : i0.zero = some (.agg #[.int .i64 0, .int .i64 0, .int .i64 0, .int .i64 0, .int .i64 0, .int .i64 0]) := by
    have : (Try.prog.info? 28).bind (·.zero) = some (.agg #[.int .i64 0, .int .i64 0, .int .i64 0, .int .i64 0, .int .i64 0, .int .i64 0]) := by kernel_rfl
    rw [hi] at this; exact this
  have hz1 : i0.size = 6 := by
    have : (Try.prog.info? 28).map (·.size) = some 6 := by kernel_rfl
    rw [hi] at this; simpa using this
  have hz2 : i0.bytes = 48 := by
    have : (Try.prog.info? 28).map (·.bytes) = some 48 := by kernel_rfl
    rw [hi] at this; simpa using this
  exact ⟨i0, hi, hz0, hz1, hz2⟩
/-- A slice of n of them that is owned from block lo on: it is empty, or lies in a block of its own, with room behind it or not. -/
def OwnPA6 (w : World) (lo : Nat) (ad : Option Addr) (n : Nat) (c : Nat → PA6) : Prop := n = 0 ∨ ∃ g cs, ad = some ⟨g, 0, none⟩ ∧ lo ≤ g ∧ CB w g cs 28 ∧ n * 6 ≤ cs.size ∧ ∀ j, j < n → cs[j * 6]? = some (.int .i64 (c j).item) ∧ cs[j * 6 + 1]? = some (.int .i64 (c j).qty) ∧ cs[j * 6 + 2]? = some (.int .i64 (c j).scr) ∧ cs[j * 6 + 3]? = some (.int .i64 (c j).fst) ∧ cs[j * 6 + 4]? = some (.int .i64 (c j).lst) ∧ cs[j * 6 + 5]? = some (.int .i64 (c j).grp)
section
variable {w w' : World} {lo n : Nat} {ad : Option Addr} {c : Nat → PA6}
theorem OwnPA6.row (h : OwnPA6 w lo ad n c) : PAr w ad n c := by
  rcases h with h | ⟨g, cs, rfl, _, h1, _, h2⟩
  · exact .inl h
  · exact PAr.of_block h1 n c h2
theorem OwnPA6.below (h : OwnPA6 w lo ad n c) (b : Below w.heap.size w w') : OwnPA6 w' lo ad n c := by
  rcases h with h | ⟨g, cs, e, h0, h1, h2⟩
  · exact .inl h
  · exact .inr ⟨g, cs, e, h0, h1.below b h1.lt, h2⟩
theorem OwnPA6.keep (h : OwnPA6 w lo ad n c) (hb : ∀ g, ad = some ⟨g, 0, none⟩ → w'.heap[g]? = w.heap[g]?) : OwnPA6 w' lo ad n c := by
  rcases h with h | ⟨g, cs, e, h0, h1, h2⟩
  · exact .inl h
  · exact .inr ⟨g, cs, e, h0, by unfold CB at h1 ⊢; rw [hb g e]; exact h1, h2⟩
theorem OwnPA6.mono (h : OwnPA6 w lo ad n c) {l : Nat} (hl : l ≤ lo) : OwnPA6 w l ad n c := by
  rcases h with h | ⟨g, cs, e, h0, h1, h2⟩
  · exact .inl h
  · exact .inr ⟨g, cs, e, Nat.le_trans hl h0, h1, h2⟩
end
theorem ownPA6_of {w : World} {base n : Nat} {v : Value} {c : Nat → PA6} (h : w.ownsRow base 28 6 v n (rowPA6 c n)) : ∃ ad cp, v = .slice ad n cp ∧ n ≤ cp ∧ OwnPA6 w base ad n c := by
  obtain ⟨hl, h2⟩ := h
  rcases h2 with ⟨e, e0⟩ | ⟨g, cap, cur, e, hb, hg, hn, hcap, hcs, ht⟩
  · exact ⟨none, 0, by rw [e, e0], by omega, .inl e0⟩
  · have hlen := rowPA6_len c n
    have hsz : n * 6 ≤ cur.size := by
      have := congrArg List.length ht
      rw [List.length_take, hlen, Array.length_toList] at this
      omega
    refine ⟨_, cap, e, hn, .inr ⟨g, cur, rfl, hb, hg, hsz, fun j hj => ?_⟩⟩
    have cell : ∀ o, o < n * 6 → cur[o]? = (rowPA6 c n)[o]? := fun o ho => by
      rw [← ht, List.getElem?_take, if_pos ho]
      simp
    obtain ⟨a0, a1, a2, a3, a4, a5⟩ := rowPA6_get c n j hj
    refine ⟨?_, ?_, ?_, ?_, ?_, ?_⟩ <;> (rw [cell _ (by omega)]; assumption)
theorem madePA6 {w : World} {g base : Nat} (h : CB w g #[] 28) (hb : base ≤ g) : w.ownsRow base 28 6 (.slice (some ⟨g, 0, none⟩) 0 0) 0 [] := ⟨rfl, .inr ⟨g, 0, #[], rfl, hb, h, Nat.le_refl _, Nat.zero_le _, rfl, rfl⟩⟩
end Go.Proofs.Ytmbdeafpfdeigaa
