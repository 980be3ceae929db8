/- Rows of instalments as lists; such rows that are owned. -/
import Derived.Test.YtlhgmdmbjpaakaaDoorIb
import Derived.Laws.OwnMore
import Derived.Maps.AppendAt
namespace Go.Proofs.YtlhgmdmbjpaakaaDoor
open Go.ChangeShapes Go.WideShapes Go.ChangeAt Go.RowKit
set_option linter.unusedVariables false
set_option linter.unusedSimpArgs false

def rowIN4 (c : Nat → IN4) : Nat → List Value
  | 0 => []
  | k + 1 => rowIN4 c k ++ [.int .i64 (c k).day, .int .i64 (c k).part, .int .i64 (c k).interest, .int .i64 (c k).left]
theorem rowIN4_len (c : Nat → IN4) : ∀ n, (rowIN4 c n).length = n * 4
  | 0 => rfl
  | n + 1 => by simp [rowIN4, rowIN4_len c n]; omega
theorem rowIN4_one (c : Nat → IN4) : ∀ n, ∀ v ∈ rowIN4 c n, v.oneCell' = true
  | 0, v, h => by simp [rowIN4] at h
  | n + 1, v, h => by
    simp only [rowIN4, List.mem_append, List.mem_cons, List.not_mem_nil, or_false] at h
    rcases h with h | rfl | rfl | rfl | rfl
    · exact rowIN4_one c n v h
    all_goals rfl
theorem rowIN4_get (c : Nat → IN4) : ∀ n j, j < n → (rowIN4 c n)[j * 4]? = some (.int .i64 (c j).day) ∧ (rowIN4 c n)[j * 4 + 1]? = some (.int .i64 (c j).part) ∧ (rowIN4 c n)[j * 4 + 2]? = some (.int .i64 (c j).interest) ∧ (rowIN4 c n)[j * 4 + 3]? = some (.int .i64 (c j).left)
  | 0, j, h => by omega
  | n + 1, j, h => by
    have e := rowIN4_len c n
    by_cases hj : j = n
    · subst hj
      simp only [rowIN4]
      refine ⟨?_, ?_, ?_, ?_⟩
      · rw [List.getElem?_append_right (by omega), show j * 4 - (rowIN4 c j).length = 0 by omega]; rfl
      · rw [List.getElem?_append_right (by omega), show j * 4 + 1 - (rowIN4 c j).length = 1 by omega]; rfl
      · rw [List.getElem?_append_right (by omega), show j * 4 + 2 - (rowIN4 c j).length = 2 by omega]; rfl
      · rw [List.getElem?_append_right (by omega), show j * 4 + 3 - (rowIN4 c j).length = 3 by omega]; rfl
    · obtain ⟨a0, a1, a2, a3⟩ := rowIN4_get c n j (by omega)
      simp only [rowIN4]
      refine ⟨?_, ?_, ?_, ?_⟩ <;> (rw [List.getElem?_append_left (by omega)]; assumption)
theorem rowIN4_src {w : World} {a : Addr} {n : Nat} {c : Nat → IN4} (H : INr w (some a) n c) : ∀ j v, (rowIN4 c n)[j]? = some v → w.cell? (a.add j) = some v := by
  intro j v hv
  have hlen := rowIN4_len c n
  have hj : j < n * 4 := by
    rcases Nat.lt_or_ge j (n * 4) with q | q
    · exact q
    · rw [List.getElem?_eq_none (by omega)] at hv; cases hv
  obtain ⟨k, off, e, hk⟩ := H.addr (by omega)
  cases e
  have hadd : (⟨k, off, none⟩ : Addr).add j = ⟨k, off + j, none⟩ := by unfold Addr.add; split <;> simp_all
  rw [hadd]
  obtain ⟨a0, a1, a2, a3⟩ := H.cell (j := j / 4) (by omega)
  obtain ⟨b0, b1, b2, b3⟩ := rowIN4_get c n (j / 4) (by omega)
  have hm : j = j / 4 * 4 ∨ j = j / 4 * 4 + 1 ∨ j = j / 4 * 4 + 2 ∨ j = j / 4 * 4 + 3 := by omega
  rcases hm with hm | hm | hm | hm
  · rw [hm] at hv ⊢; rw [b0] at hv; cases hv; exact a0
  · rw [hm] at hv ⊢; rw [b1] at hv; cases hv; rw [← Nat.add_assoc]; exact a1
  · rw [hm] at hv ⊢; rw [b2] at hv; cases hv; rw [← Nat.add_assoc]; exact a2
  · rw [hm] at hv ⊢; rw [b3] at hv; cases hv; rw [← Nat.add_assoc]; exact a3
set_option maxRecDepth 100000 in
theorem infoIN4 : ∃ i, Tryd.prog.info? 27 = some i ∧ i.zero = some (.agg #[.int .i64 0, .int .i64 0, .int .i64 0, .int .i64 0]) ∧ i.size = 4 ∧ i.bytes = 32 := by
  obtain ⟨i0, hi⟩ : ∃ i, Tryd.prog.info? 27 = some i := ⟨_, rfl⟩
  have hz0 : i0.zero = some (.agg #[.int .i64 0, .int .i64 0, .int .i64 0, .int .i64 0]) := by
    have : (Tryd.prog.info? 27).bind (·.zero) = some (.agg #[.int .i64 0, .int .i64 0, .int .i64 0, .int .i64 0]) := by kernel_rfl
    rw [hi] at this; exact this
  have hz1 : i0.size = 4 := by
    have : (Tryd.prog.info? 27).map (·.size) = some 4 := by kernel_rfl
    rw [hi] at this; simpa using this
  have hz2 : i0.bytes = 32 := by
    have : (Tryd.prog.info? 27).map (·.bytes) = some 32 := by kernel_rfl
    rw [hi] at this; simpa using this
  exact ⟨i0, hi, hz0, hz1, hz2⟩
/-- A slice of n of them that is owned from block lo on: it is empty, or lies in a block of its own, with room behind it or not. -/
def OwnIN4 (w : World) (lo : Nat) (ad : Option Addr) (n : Nat) (c : Nat → IN4) : Prop := n = 0 ∨ ∃ g cs, ad = some ⟨g, 0, none⟩ ∧ lo ≤ g ∧ CB w g cs 27 ∧ n * 4 ≤ cs.size ∧ ∀ j, j < n → cs[j * 4]? = some (.int .i64 (c j).day) ∧ cs[j * 4 + 1]? = some (.int .i64 (c j).part) ∧ cs[j * 4 + 2]? = some (.int .i64 (c j).interest) ∧ cs[j * 4 + 3]? = some (.int .i64 (c j).left)
section
variable {w w' : World} {lo n : Nat} {ad : Option Addr} {c : Nat → IN4}
theorem OwnIN4.row (h : OwnIN4 w lo ad n c) : INr w ad n c := by
  rcases h with h | ⟨g, cs, rfl, _, h1, _, h2⟩
  · exact .inl h
  · exact INr.of_block h1 n c h2
theorem OwnIN4.below (h : OwnIN4 w lo ad n c) (b : Below w.heap.size w w') : OwnIN4 w' lo ad n c := by
  rcases h with h | ⟨g, cs, e, h0, h1, h2⟩
  · exact .inl h
  · exact .inr ⟨g, cs, e, h0, h1.below b h1.lt, h2⟩
theorem OwnIN4.keep (h : OwnIN4 w lo ad n c) (hb : ∀ g, ad = some ⟨g, 0, none⟩ → w'.heap[g]? = w.heap[g]?) : OwnIN4 w' lo ad n c := by
  rcases h with h | ⟨g, cs, e, h0, h1, h2⟩
  · exact .inl h
  · exact .inr ⟨g, cs, e, h0, by unfold CB at h1 ⊢; rw [hb g e]; exact h1, h2⟩
theorem OwnIN4.mono (h : OwnIN4 w lo ad n c) {l : Nat} (hl : l ≤ lo) : OwnIN4 w l ad n c := by
  rcases h with h | ⟨g, cs, e, h0, h1, h2⟩
  · exact .inl h
  · exact .inr ⟨g, cs, e, Nat.le_trans hl h0, h1, h2⟩
end
theorem ownIN4_of {w : World} {base n : Nat} {v : Value} {c : Nat → IN4} (h : w.ownsRow base 27 4 v n (rowIN4 c n)) : ∃ ad cp, v = .slice ad n cp ∧ n ≤ cp ∧ OwnIN4 w base ad n c := by
  obtain ⟨hl, h2⟩ := h
  rcases h2 with ⟨e, e0⟩ | ⟨g, cap, cur, e, hb, hg, hn, hcap, hcs, ht⟩
  · exact ⟨none, 0, by rw [e, e0], by omega, .inl e0⟩
  · have hlen := rowIN4_len c n
    have hsz : n * 4 ≤ cur.size := by
      have := congrArg List.length ht
      rw [List.length_take, hlen, Array.length_toList] at this
      omega
    refine ⟨_, cap, e, hn, .inr ⟨g, cur, rfl, hb, hg, hsz, fun j hj => ?_⟩⟩
    have cell : ∀ o, o < n * 4 → cur[o]? = (rowIN4 c n)[o]? := fun o ho => by
      rw [← ht, List.getElem?_take, if_pos ho]
      simp
    obtain ⟨a0, a1, a2, a3⟩ := rowIN4_get c n j hj
    refine ⟨?_, ?_, ?_, ?_⟩ <;> (rw [cell _ (by omega)]; assumption)
theorem madeIN4 {w : World} {g base : Nat} (h : CB w g #[] 27) (hb : base ≤ g) : w.ownsRow base 27 4 (.slice (some ⟨g, 0, none⟩) 0 0) 0 [] := ⟨rfl, .inr ⟨g, 0, #[], rfl, hb, h, Nat.le_refl _, Nat.zero_le _, rfl, rfl⟩⟩
/-- A row of instalments in a block of its own between lo and hi. -/
def OwnM (w : World) (lo hi : Nat) (ad : Option Addr) (n : Nat) (c : Nat → IN4) : Prop := n = 0 ∨ ∃ g cs, ad = some ⟨g, 0, none⟩ ∧ lo ≤ g ∧ g < hi ∧ CB w g cs 27 ∧ n * 4 ≤ cs.size ∧ ∀ j, j < n → cs[j * 4]? = some (.int .i64 (c j).day) ∧ cs[j * 4 + 1]? = some (.int .i64 (c j).part) ∧ cs[j * 4 + 2]? = some (.int .i64 (c j).interest) ∧ cs[j * 4 + 3]? = some (.int .i64 (c j).left)
section
variable {w w' : World} {lo hi : Nat} {ad : Option Addr} {n : Nat} {c : Nat → IN4}
theorem ownM_of (h : OwnIN4 w lo ad n c) : OwnM w lo w.heap.size ad n c := by
  rcases h with h | ⟨g, cs, h1, h2, h3, h4⟩
  · exact .inl h
  · exact .inr ⟨g, cs, h1, h2, h3.lt, h3, h4⟩
theorem OwnM.lower (h : OwnM w lo hi ad n c) {l : Nat} (hl : l ≤ lo) : OwnM w l hi ad n c := by
  rcases h with h | ⟨g, cs, h1, h2, h3⟩
  · exact .inl h
  · exact .inr ⟨g, cs, h1, by omega, h3⟩
theorem OwnM.keep (h : OwnM w lo hi ad n c) (hk : ∀ g, lo ≤ g → g < hi → g < w.heap.size → w'.heap[g]? = w.heap[g]?) : OwnM w' lo hi ad n c := by
  rcases h with h | ⟨g, cs, h1, h2, h3, h4, h5⟩
  · exact .inl h
  · exact .inr ⟨g, cs, h1, h2, h3, h4.keep (hk g h2 h3 h4.lt), h5⟩
theorem OwnM.below (h : OwnM w lo hi ad n c) (b : Below w.heap.size w w') : OwnM w' lo hi ad n c := h.keep (fun g _ _ hg => b.block g hg)
theorem OwnM.row (h : OwnM w lo hi ad n c) : INr w ad n c := by
  rcases h with h | ⟨g, cs, rfl, h2, h3, h4, h5, h6⟩
  · exact .inl h
  · exact INr.of_block h4 n c h6
end
theorem markM (lo hi : Nat) (ad : Option Addr) (n cap : Nat) (c : Nat → IN4) (w : World) (h : (n : Int) ≤ 1048576) (H : OwnM w lo hi ad n c) :
    Calls Tryd.prog 12 #[.slice ad n cap, .int .i64 1] w fun e w' => e = .returned (.int .i64 (1 + 4 * (n : Int))) ∧ INr w' ad n (mkIN4M 1) ∧ (∀ y, y < w.heap.size → (y < lo ∨ hi ≤ y) → w'.heap[y]? = w.heap[y]?) ∧ Below lo w w' := by
  rcases H with rfl | ⟨g, cs, rfl, h2, h3, h4, h5, h6⟩
  · refine (markIN4S_no ad cap 1 w).mono ?_
    rintro e w' ⟨rfl, rfl⟩
    exact ⟨by simp, .inl rfl, fun _ _ _ => rfl, Below.refl _ _⟩
  · refine (markIN4S_is g n cap 1 cs w h (by omega) (by omega) h4 h5).mono ?_
    rintro e w' ⟨rfl, hr, _, kk, b⟩
    exact ⟨rfl, hr, fun y hy hq => kk y hy (by omega), b.mono h2⟩
end Go.Proofs.YtlhgmdmbjpaakaaDoor
