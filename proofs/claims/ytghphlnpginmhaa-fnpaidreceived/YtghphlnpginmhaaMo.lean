/- Rows of match lines as lists; such rows that are owned. -/
import Derived.Test.YtghphlnpginmhaaMa
import Derived.Test.YtghphlnpginmhaaRy
namespace Go.Proofs.Ytghphlnpginmhaa
open Go.ChangeShapes Go.WideShapes Go.ChangeAt Go.RowKit
set_option linter.unusedVariables false
set_option linter.unusedSimpArgs false

def rowML4 (c : Nat → ML4) : Nat → List Value
  | 0 => []
  | k + 1 => rowML4 c k ++ [.int .i64 (c k).got, .int .i64 (c k).billed, .int .i64 (c k).due, .int .i64 (c k).state]
theorem rowML4_len (c : Nat → ML4) : ∀ n, (rowML4 c n).length = n * 4
  | 0 => rfl
  | n + 1 => by simp [rowML4, rowML4_len c n]; omega
theorem rowML4_one (c : Nat → ML4) : ∀ n, ∀ v ∈ rowML4 c n, v.oneCell' = true
  | 0, v, h => by simp [rowML4] at h
  | n + 1, v, h => by
    simp only [rowML4, List.mem_append, List.mem_cons, List.not_mem_nil, or_false] at h
    rcases h with h | rfl | rfl | rfl | rfl
    · exact rowML4_one c n v h
    all_goals rfl
theorem rowML4_get (c : Nat → ML4) : ∀ n j, j < n → (rowML4 c n)[j * 4]? = some (.int .i64 (c j).got) ∧ (rowML4 c n)[j * 4 + 1]? = some (.int .i64 (c j).billed) ∧ (rowML4 c n)[j * 4 + 2]? = some (.int .i64 (c j).due) ∧ (rowML4 c n)[j * 4 + 3]? = some (.int .i64 (c j).state)
  | 0, j, h => by omega
  | n + 1, j, h => by
    have e := rowML4_len c n
    by_cases hj : j = n
    · subst hj
      simp only [rowML4]
      refine ⟨?_, ?_, ?_, ?_⟩
      · rw [List.getElem?_append_right (by omega), show j * 4 - (rowML4 c j).length = 0 by omega]; rfl
      · rw [List.getElem?_append_right (by omega), show j * 4 + 1 - (rowML4 c j).length = 1 by omega]; rfl
      · rw [List.getElem?_append_right (by omega), show j * 4 + 2 - (rowML4 c j).length = 2 by omega]; rfl
      · rw [List.getElem?_append_right (by omega), show j * 4 + 3 - (rowML4 c j).length = 3 by omega]; rfl
    · obtain ⟨a0, a1, a2, a3⟩ := rowML4_get c n j (by omega)
      simp only [rowML4]
      refine ⟨?_, ?_, ?_, ?_⟩ <;> (rw [List.getElem?_append_left (by omega)]; assumption)
theorem rowML4_src {w : World} {a : Addr} {n : Nat} {c : Nat → ML4} (H : MLr w (some a) n c) : ∀ j v, (rowML4 c n)[j]? = some v → w.cell? (a.add j) = some v := by
  intro j v hv
  have hlen := rowML4_len c n
  have hj : j < n * 4 := by
    rcases Nat.lt_or_ge j (n * 4) with q | q
    · exact q
    · rw [List.getElem?_eq_none (by omega)] at hv; cases hv
  obtain ⟨k, off, e, hk⟩ := H.addr (by omega)
  cases e
  have hadd : (⟨k, off, none⟩ : Addr).add j = ⟨k, off + j, none⟩ := by unfold Addr.add; split <;> simp_all
  rw [hadd]
  obtain ⟨a0, a1, a2, a3⟩ := H.cell (j := j / 4) (by omega)
  obtain ⟨b0, b1, b2, b3⟩ := rowML4_get c n (j / 4) (by omega)
  have hm : j = j / 4 * 4 ∨ j = j / 4 * 4 + 1 ∨ j = j / 4 * 4 + 2 ∨ j = j / 4 * 4 + 3 := by omega
  rcases hm with hm | hm | hm | hm
  · rw [hm] at hv ⊢; rw [b0] at hv; cases hv; exact a0
  · rw [hm] at hv ⊢; rw [b1] at hv; cases hv; rw [← Nat.add_assoc]; exact a1
  · rw [hm] at hv ⊢; rw [b2] at hv; cases hv; rw [← Nat.add_assoc]; exact a2
  · rw [hm] at hv ⊢; rw [b3] at hv; cases hv; rw [← Nat.add_assoc]; exact a3
set_option maxRecDepth 100000 in
theorem infoML4 : ∃ i, Try.prog.info? 47 = some i ∧ i.zero = some (.agg #[.int .i64 0, .int .i64 0, .int .i64 0, .int .i64 0]) ∧ i.size = 4 ∧ i.bytes = 32 := by
  obtain ⟨i0, hi⟩ : ∃ i, Try.prog.info? 47 = some i := ⟨_, rfl⟩
  have hz0 : i0.zero = some (.agg #[.int .i64 0, .int .i64 0, .int .i64 0, .int .i64 0]) := by
    have : (Try.prog.info? 47).bind (·.zero) = some (.agg #[.int .i64 0, .int .i64 0, .int .i64 0, .int .i64 0]) := by kernel_rfl
    rw [hi] at this; exact this
  have hz1 : i0.size = 4 := by
    have : (Try.prog.info? 47).map (·.size) = some 4 := by kernel_rfl
    rw [hi] at this; simpa using this
  have hz2 : i0.bytes = 32 := by
    have : (Try.prog.info? 47).map (·.bytes) = some 32 := by kernel_rfl
    rw [hi] at this; simpa using this
  exact ⟨i0, hi, hz0, hz1, hz2⟩
/-- A slice of n of them that is owned from block lo on: it is empty, or lies in a block of its own, with room behind it or not. -/
def OwnML4 (w : World) (lo : Nat) (ad : Option Addr) (n : Nat) (c : Nat → ML4) : Prop := n = 0 ∨ ∃ g cs, ad = some ⟨g, 0, none⟩ ∧ lo ≤ g ∧ CB w g cs 47 ∧ n * 4 ≤ cs.size ∧ ∀ j, j < n → cs[j * 4]? = some (.int .i64 (c j).got) ∧ cs[j * 4 + 1]? = some (.int .i64 (c j).billed) ∧ cs[j * 4 + 2]? = some (.int .i64 (c j).due) ∧ cs[j * 4 + 3]? = some (.int .i64 (c j).state)
section
variable {w w' : World} {lo n : Nat} {ad : Option Addr} {c : Nat → ML4}
theorem OwnML4.row (h : OwnML4 w lo ad n c) : MLr w ad n c := by
  rcases h with h | ⟨g, cs, rfl, _, h1, _, h2⟩
  · exact .inl h
  · exact MLr.of_block h1 n c h2
theorem OwnML4.below (h : OwnML4 w lo ad n c) (b : Below w.heap.size w w') : OwnML4 w' lo ad n c := by
  rcases h with h | ⟨g, cs, e, h0, h1, h2⟩
  · exact .inl h
  · exact .inr ⟨g, cs, e, h0, h1.below b h1.lt, h2⟩
theorem OwnML4.keep (h : OwnML4 w lo ad n c) (hb : ∀ g, ad = some ⟨g, 0, none⟩ → w'.heap[g]? = w.heap[g]?) : OwnML4 w' lo ad n c := by
  rcases h with h | ⟨g, cs, e, h0, h1, h2⟩
  · exact .inl h
  · exact .inr ⟨g, cs, e, h0, by unfold CB at h1 ⊢; rw [hb g e]; exact h1, h2⟩
theorem OwnML4.mono (h : OwnML4 w lo ad n c) {l : Nat} (hl : l ≤ lo) : OwnML4 w l ad n c := by
  rcases h with h | ⟨g, cs, e, h0, h1, h2⟩
  · exact .inl h
  · exact .inr ⟨g, cs, e, Nat.le_trans hl h0, h1, h2⟩
end
theorem ownML4_of {w : World} {base n : Nat} {v : Value} {c : Nat → ML4} (h : w.ownsRow base 47 4 v n (rowML4 c n)) : ∃ ad cp, v = .slice ad n cp ∧ n ≤ cp ∧ OwnML4 w base ad n c := by
  obtain ⟨hl, h2⟩ := h
  rcases h2 with ⟨e, e0⟩ | ⟨g, cap, cur, e, hb, hg, hn, hcap, hcs, ht⟩
  · exact ⟨none, 0, by rw [e, e0], by omega, .inl e0⟩
  · have hlen := rowML4_len c n
    have hsz : n * 4 ≤ cur.size := by
      have := congrArg List.length ht
      rw [List.length_take, hlen, Array.length_toList] at this
      omega
    refine ⟨_, cap, e, hn, .inr ⟨g, cur, rfl, hb, hg, hsz, fun j hj => ?_⟩⟩
    have cell : ∀ o, o < n * 4 → cur[o]? = (rowML4 c n)[o]? := fun o ho => by
      rw [← ht, List.getElem?_take, if_pos ho]
      simp
    obtain ⟨a0, a1, a2, a3⟩ := rowML4_get c n j hj
    refine ⟨?_, ?_, ?_, ?_⟩ <;> (rw [cell _ (by omega)]; assumption)
theorem madeML4 {w : World} {g base : Nat} (h : CB w g #[] 47) (hb : base ≤ g) : w.ownsRow base 47 4 (.slice (some ⟨g, 0, none⟩) 0 0) 0 [] := ⟨rfl, .inr ⟨g, 0, #[], rfl, hb, h, Nat.le_refl _, Nat.zero_le _, rfl, rfl⟩⟩
end Go.Proofs.Ytghphlnpginmhaa
