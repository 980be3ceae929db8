/- Rows of pairs as lists; such rows that are owned. -/
import Derived.Test.YtnglofgcckdbmaaPb
import Derived.Laws.OwnMore
import Derived.Maps.AppendAt
namespace Go.Proofs.Ytnglofgcckdbmaa
open Go.ChangeShapes Go.WideShapes Go.ChangeAt Go.RowKit
set_option linter.unusedVariables false
set_option linter.unusedSimpArgs false

def rowPA3 (c : Nat → PA3) : Nat → List Value
  | 0 => []
  | k + 1 => rowPA3 c k ++ [.int .i64 (c k).left, .int .i64 (c k).right, .int .i64 (c k).amount]
theorem rowPA3_len (c : Nat → PA3) : ∀ n, (rowPA3 c n).length = n * 3
  | 0 => rfl
  | n + 1 => by simp [rowPA3, rowPA3_len c n]; omega
theorem rowPA3_one (c : Nat → PA3) : ∀ n, ∀ v ∈ rowPA3 c n, v.oneCell' = true
  | 0, v, h => by simp [rowPA3] at h
  | n + 1, v, h => by
    simp only [rowPA3, List.mem_append, List.mem_cons, List.not_mem_nil, or_false] at h
    rcases h with h | rfl | rfl | rfl
    · exact rowPA3_one c n v h
    all_goals rfl
theorem rowPA3_get (c : Nat → PA3) : ∀ n j, j < n → (rowPA3 c n)[j * 3]? = some (.int .i64 (c j).left) ∧ (rowPA3 c n)[j * 3 + 1]? = some (.int .i64 (c j).right) ∧ (rowPA3 c n)[j * 3 + 2]? = some (.int .i64 (c j).amount)
  | 0, j, h => by omega
  | n + 1, j, h => by
    have e := rowPA3_len c n
    by_cases hj : j = n
    · subst hj
      simp only [rowPA3]
      refine ⟨?_, ?_, ?_⟩
      · rw [List.getElem?_append_right (by omega), show j * 3 - (rowPA3 c j).length = 0 by omega]; rfl
      · rw [List.getElem?_append_right (by omega), show j * 3 + 1 - (rowPA3 c j).length = 1 by omega]; rfl
      · rw [List.getElem?_append_right (by omega), show j * 3 + 2 - (rowPA3 c j).length = 2 by omega]; rfl
    · obtain ⟨a0, a1, a2⟩ := rowPA3_get c n j (by omega)
      simp only [rowPA3]
      refine ⟨?_, ?_, ?_⟩ <;> (rw [List.getElem?_append_left (by omega)]; assumption)
theorem rowPA3_src {w : World} {a : Addr} {n : Nat} {c : Nat → PA3} (H : PAr w (some a) n c) : ∀ j v, (rowPA3 c n)[j]? = some v → w.cell? (a.add j) = some v := by
  intro j v hv
  have hlen := rowPA3_len c n
  have hj : j < n * 3 := by
    rcases Nat.lt_or_ge j (n * 3) with q | q
    · exact q
    · rw [List.getElem?_eq_none (by omega)] at hv; cases hv
  obtain ⟨k, off, e, hk⟩ := H.addr (by omega)
  cases e
  have hadd : (⟨k, off, none⟩ : Addr).add j = ⟨k, off + j, none⟩ := by unfold Addr.add; split <;> simp_all
  rw [hadd]
  obtain ⟨a0, a1, a2⟩ := H.cell (j := j / 3) (by omega)
  obtain ⟨b0, b1, b2⟩ := rowPA3_get c n (j / 3) (by omega)
  have hm : j = j / 3 * 3 ∨ j = j / 3 * 3 + 1 ∨ j = j / 3 * 3 + 2 := by omega
  rcases hm with hm | hm | hm
  · rw [hm] at hv ⊢; rw [b0] at hv; cases hv; exact a0
  · rw [hm] at hv ⊢; rw [b1] at hv; cases hv; rw [← Nat.add_assoc]; exact a1
  · rw [hm] at hv ⊢; rw [b2] at hv; cases hv; rw [← Nat.add_assoc]; exact a2
set_option maxRecDepth 100000 in
theorem infoPA3 : ∃ i, Try.prog.info? 38 = some i ∧ i.zero = some (.agg #[.int .i64 0, .int .i64 0, .int .i64 0]) ∧ i.size = 3 ∧ i.bytes = 24 := by
  obtain ⟨i0, hi⟩ : ∃ i, Try.prog.info? 38 = some i := ⟨_, rfl⟩
  have hz0 : i0.zero = some (.agg #[.int .i64 0, .int .i64 0, .int .i64 0]) := by
    have : (Try.prog.info? 38).bind (·.zero) = some (.agg #[.int .i64 0, .int .i64 0, .int .i64 0]) := by kernel_rfl
    rw [hi] at this; exact this
  have hz1 : i0.size = 3 := by
    have : (Try.prog.info? 38).map (·.size) = some 3 := by kernel_rfl
    rw [hi] at this; simpa using this
  have hz2 : i0.bytes = 24 := by
    have : (Try.prog.info? 38).map (·.bytes) = some 24 := by kernel_rfl
    rw [hi] at this; simpa using this
  exact ⟨i0, hi, hz0, hz1, hz2⟩
/-- A slice of n of them that is owned from block lo on: it is empty, or lies in a block of its own, with room behind it or not. -/
def OwnPA3 (w : World) (lo : Nat) (ad : Option Addr) (n : Nat) (c : Nat → PA3) : Prop := n = 0 ∨ ∃ g cs, ad = some ⟨g, 0, none⟩ ∧ lo ≤ g ∧ CB w g cs 38 ∧ n * 3 ≤ cs.size ∧ ∀ j, j < n → cs[j * 3]? = some (.int .i64 (c j).left) ∧ cs[j * 3 + 1]? = some (.int .i64 (c j).right) ∧ cs[j * 3 + 2]? = some (.int .i64 (c j).amount)
section
variable {w w' : World} {lo n : Nat} {ad : Option Addr} {c : Nat → PA3}
theorem OwnPA3.row (h : OwnPA3 w lo ad n c) : PAr w ad n c := by
  rcases h with h | ⟨g, cs, rfl, _, h1, _, h2⟩
  · exact .inl h
  · exact PAr.of_block h1 n c h2
theorem OwnPA3.below (h : OwnPA3 w lo ad n c) (b : Below w.heap.size w w') : OwnPA3 w' lo ad n c := by
  rcases h with h | ⟨g, cs, e, h0, h1, h2⟩
  · exact .inl h
  · exact .inr ⟨g, cs, e, h0, h1.below b h1.lt, h2⟩
theorem OwnPA3.keep (h : OwnPA3 w lo ad n c) (hb : ∀ g, ad = some ⟨g, 0, none⟩ → w'.heap[g]? = w.heap[g]?) : OwnPA3 w' lo ad n c := by
  rcases h with h | ⟨g, cs, e, h0, h1, h2⟩
  · exact .inl h
  · exact .inr ⟨g, cs, e, h0, by unfold CB at h1 ⊢; rw [hb g e]; exact h1, h2⟩
theorem OwnPA3.mono (h : OwnPA3 w lo ad n c) {l : Nat} (hl : l ≤ lo) : OwnPA3 w l ad n c := by
  rcases h with h | ⟨g, cs, e, h0, h1, h2⟩
  · exact .inl h
  · exact .inr ⟨g, cs, e, Nat.le_trans hl h0, h1, h2⟩
end
theorem ownPA3_of {w : World} {base n : Nat} {v : Value} {c : Nat → PA3} (h : w.ownsRow base 38 3 v n (rowPA3 c n)) : ∃ ad cp, v = .slice ad n cp ∧ n ≤ cp ∧ OwnPA3 w base ad n c := by
  obtain ⟨hl, h2⟩ := h
  rcases h2 with ⟨e, e0⟩ | ⟨g, cap, cur, e, hb, hg, hn, hcap, hcs, ht⟩
  · exact ⟨none, 0, by rw [e, e0], by omega, .inl e0⟩
  · have hlen := rowPA3_len c n
    have hsz : n * 3 ≤ cur.size := by
      have := congrArg List.length ht
      rw [List.length_take, hlen, Array.length_toList] at this
      omega
    refine ⟨_, cap, e, hn, .inr ⟨g, cur, rfl, hb, hg, hsz, fun j hj => ?_⟩⟩
    have cell : ∀ o, o < n * 3 → cur[o]? = (rowPA3 c n)[o]? := fun o ho => by
      rw [← ht, List.getElem?_take, if_pos ho]
      simp
    obtain ⟨a0, a1, a2⟩ := rowPA3_get c n j hj
    refine ⟨?_, ?_, ?_⟩ <;> (rw [cell _ (by omega)]; assumption)
theorem madePA3 {w : World} {g base : Nat} (h : CB w g #[] 38) (hb : base ≤ g) : w.ownsRow base 38 3 (.slice (some ⟨g, 0, none⟩) 0 0) 0 [] := ⟨rfl, .inr ⟨g, 0, #[], rfl, hb, h, Nat.le_refl _, Nat.zero_le _, rfl, rfl⟩⟩
/-- A row of pairs in a block of its own between lo and hi. -/
def OwnM (w : World) (lo hi : Nat) (ad : Option Addr) (n : Nat) (c : Nat → PA3) : Prop := n = 0 ∨ ∃ g cs, ad = some ⟨g, 0, none⟩ ∧ lo ≤ g ∧ g < hi ∧ CB w g cs 38 ∧ n * 3 ≤ cs.size ∧ ∀ j, j < n → cs[j * 3]? = some (.int .i64 (c j).left) ∧ cs[j * 3 + 1]? = some (.int .i64 (c j).right) ∧ cs[j * 3 + 2]? = some (.int .i64 (c j).amount)
section
variable {w w' : World} {lo hi : Nat} {ad : Option Addr} {n : Nat} {c : Nat → PA3}
theorem ownM_of (h : OwnPA3 w lo ad n c) : OwnM w lo w.heap.size ad n c := by
  rcases h with h | ⟨g, cs, h1, h2, h3, h4⟩
  · exact .inl h
  · exact .inr ⟨g, cs, h1, h2, h3.lt, h3, h4⟩
theorem OwnM.lower (h : OwnM w lo hi ad n c) {l : Nat} (hl : l ≤ lo) : OwnM w l hi ad n c := by
  rcases h with h | ⟨g, cs, h1, h2, h3⟩
  · exact .inl h
  · exact .inr ⟨g, cs, h1, by omega, h3⟩
theorem OwnM.keep (h : OwnM w lo hi ad n c) (hk : ∀ g, lo ≤ g → g < hi → g < w.heap.size → w'.heap[g]? = w.heap[g]?) : OwnM w' lo hi ad n c := by
  rcases h with h | ⟨g, cs, h1, h2, h3, h4, h5⟩
  · exact .inl h
  · exact .inr ⟨g, cs, h1, h2, h3, h4.keep (hk g h2 h3 h4.lt), h5⟩
theorem OwnM.below (h : OwnM w lo hi ad n c) (b : Below w.heap.size w w') : OwnM w' lo hi ad n c := h.keep (fun g _ _ hg => b.block g hg)
theorem OwnM.row (h : OwnM w lo hi ad n c) : PAr w ad n c := by
  rcases h with h | ⟨g, cs, rfl, h2, h3, h4, h5, h6⟩
  · exact .inl h
  · exact PAr.of_block h4 n c h6
end
theorem markM (lo hi : Nat) (ad : Option Addr) (n cap : Nat) (c : Nat → PA3) (w : World) (h : (n : Int) ≤ 1048576) (H : OwnM w lo hi ad n c) :
    Calls Try.prog 31 #[.slice ad n cap, .int .i64 1] w fun e w' => e = .returned (.int .i64 (1 + 3 * (n : Int))) ∧ PAr w' ad n (mkPA3M 1) ∧ (∀ y, y < w.heap.size → (y < lo ∨ hi ≤ y) → w'.heap[y]? = w.heap[y]?) ∧ Below lo w w' := by
  rcases H with rfl | ⟨g, cs, rfl, h2, h3, h4, h5, h6⟩
  · refine (markPA3S_no ad cap 1 w).mono ?_
    rintro e w' ⟨rfl, rfl⟩
    exact ⟨by simp, .inl rfl, fun _ _ _ => rfl, Below.refl _ _⟩
  · refine (markPA3S_is g n cap 1 cs w h (by omega) (by omega) h4 h5).mono ?_
    rintro e w' ⟨rfl, hr, _, kk, b⟩
    exact ⟨rfl, hr, fun y hy hq => kk y hy (by omega), b.mono h2⟩
end Go.Proofs.Ytnglofgcckdbmaa
