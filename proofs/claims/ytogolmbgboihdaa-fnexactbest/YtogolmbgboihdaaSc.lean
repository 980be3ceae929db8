/- Rows of slots as lists; such rows that are owned. -/
import Derived.Test.YtogolmbgboihdaaSb
import Derived.Laws.OwnMore
import Derived.Maps.AppendAt
namespace Go.Proofs.Ytogolmbgboihdaa
open Go.ChangeShapes Go.WideShapes Go.ChangeAt Go.RowKit
set_option linter.unusedVariables false
set_option linter.unusedSimpArgs false

def rowSL5 (c : Nat → SL5) : Nat → List Value
  | 0 => []
  | k + 1 => rowSL5 c k ++ [.int .i64 (c k).job, .int .i64 (c k).tsk, .int .i64 (c k).mac, .int .i64 (c k).beg, .int .i64 (c k).fin]
theorem rowSL5_len (c : Nat → SL5) : ∀ n, (rowSL5 c n).length = n * 5
  | 0 => rfl
  | n + 1 => by simp [rowSL5, rowSL5_len c n]; omega
theorem rowSL5_one (c : Nat → SL5) : ∀ n, ∀ v ∈ rowSL5 c n, v.oneCell' = true
  | 0, v, h => by simp [rowSL5] at h
  | n + 1, v, h => by
    simp only [rowSL5, List.mem_append, List.mem_cons, List.not_mem_nil, or_false] at h
    rcases h with h | rfl | rfl | rfl | rfl | rfl
    · exact rowSL5_one c n v h
    all_goals rfl
theorem rowSL5_get (c : Nat → SL5) : ∀ n j, j < n → (rowSL5 c n)[j * 5]? = some (.int .i64 (c j).job) ∧ (rowSL5 c n)[j * 5 + 1]? = some (.int .i64 (c j).tsk) ∧ (rowSL5 c n)[j * 5 + 2]? = some (.int .i64 (c j).mac) ∧ (rowSL5 c n)[j * 5 + 3]? = some (.int .i64 (c j).beg) ∧ (rowSL5 c n)[j * 5 + 4]? = some (.int .i64 (c j).fin)
  | 0, j, h => by omega
  | n + 1, j, h => by
    have e := rowSL5_len c n
    by_cases hj : j = n
    · subst hj
      simp only [rowSL5]
      refine ⟨?_, ?_, ?_, ?_, ?_⟩
      · rw [List.getElem?_append_right (by omega), show j * 5 - (rowSL5 c j).length = 0 by omega]; rfl
      · rw [List.getElem?_append_right (by omega), show j * 5 + 1 - (rowSL5 c j).length = 1 by omega]; rfl
      · rw [List.getElem?_append_right (by omega), show j * 5 + 2 - (rowSL5 c j).length = 2 by omega]; rfl
      · rw [List.getElem?_append_right (by omega), show j * 5 + 3 - (rowSL5 c j).length = 3 by omega]; rfl
      · rw [List.getElem?_append_right (by omega), show j * 5 + 4 - (rowSL5 c j).length = 4 by omega]; rfl
    · obtain ⟨a0, a1, a2, a3, a4⟩ := rowSL5_get c n j (by omega)
      simp only [rowSL5]
      refine ⟨?_, ?_, ?_, ?_, ?_⟩ <;> (rw [List.getElem?_append_left (by omega)]; assumption)
theorem rowSL5_src {w : World} {a : Addr} {n : Nat} {c : Nat → SL5} (H : SLr w (some a) n c) : ∀ j v, (rowSL5 c n)[j]? = some v → w.cell? (a.add j) = some v := by
  intro j v hv
  have hlen := rowSL5_len c n
  have hj : j < n * 5 := by
    rcases Nat.lt_or_ge j (n * 5) with q | q
    · exact q
    · rw [List.getElem?_eq_none (by omega)] at hv; cases hv
  obtain ⟨k, off, e, hk⟩ := H.addr (by omega)
  cases e
  have hadd : (⟨k, off, none⟩ : Addr).add j = ⟨k, off + j, none⟩ := by unfold Addr.add; split <;> simp_all
  rw [hadd]
  obtain ⟨a0, a1, a2, a3, a4⟩ := H.cell (j := j / 5) (by omega)
  obtain ⟨b0, b1, b2, b3, b4⟩ := rowSL5_get c n (j / 5) (by omega)
  have hm : j = j / 5 * 5 ∨ j = j / 5 * 5 + 1 ∨ j = j / 5 * 5 + 2 ∨ j = j / 5 * 5 + 3 ∨ j = j / 5 * 5 + 4 := by omega
  rcases hm with hm | hm | hm | hm | hm
  · rw [hm] at hv ⊢; rw [b0] at hv; cases hv; exact a0
  · rw [hm] at hv ⊢; rw [b1] at hv; cases hv; rw [← Nat.add_assoc]; exact a1
  · rw [hm] at hv ⊢; rw [b2] at hv; cases hv; rw [← Nat.add_assoc]; exact a2
  · rw [hm] at hv ⊢; rw [b3] at hv; cases hv; rw [← Nat.add_assoc]; exact a3
  · rw [hm] at hv ⊢; rw [b4] at hv; cases hv; rw [← Nat.add_assoc]; exact a4
set_option maxRecDepth 100000 in
theorem infoSL5 : ∃ i, Try.prog.info? 36 = some i ∧ i.zero = some (.agg #[.int .i64 0, .int .i64 0, .int .i64 0, .int .i64 0, .int .i64 0]) ∧ i.size = 5 ∧ i.bytes = 40 := by
  obtain ⟨i0, hi⟩ : ∃ i, Try.prog.info? 36 = some i := ⟨_, rfl⟩
  have hz0 : i0.zero = some (.agg #[.int .i64 0, .int .i64 0, .int .i64 0, .int .i64 0, .int .i64 0]) := by
    have : (Try.prog.info? 36).bind (·.zero) = some (.agg #[.int .i64 0, .int .i64 0, .int .i64 0, .int .i64 0, .int .i64 0]) := by kernel_rfl
    rw [hi] at this; exact this
  have hz1 : i0.size = 5 := by
    have : (Try.prog.info? 36).map (·.size) = some 5 := by kernel_rfl
    rw [hi] at this; simpa using this
  have hz2 : i0.bytes = 40 := by
    have : (Try.prog.info? 36).map (·.bytes) = some 40 := by kernel_rfl
    rw [hi] at this; simpa using this
  exact ⟨i0, hi, hz0, hz1, hz2⟩
/-- A slice of n of them that is owned from block lo on: it is empty, or lies in a block of its own, with room behind it or not. -/
def OwnSL5 (w : World) (lo : Nat) (ad : Option Addr) (n : Nat) (c : Nat → SL5) : Prop := n = 0 ∨ ∃ g cs, ad = some ⟨g, 0, none⟩ ∧ lo ≤ g ∧ CB w g cs 36 ∧ n * 5 ≤ cs.size ∧ ∀ j, j < n → cs[j * 5]? = some (.int .i64 (c j).job) ∧ cs[j * 5 + 1]? = some (.int .i64 (c j).tsk) ∧ cs[j * 5 + 2]? = some (.int .i64 (c j).mac) ∧ cs[j * 5 + 3]? = some (.int .i64 (c j).beg) ∧ cs[j * 5 + 4]? = some (.int .i64 (c j).fin)
section
variable {w w' : World} {lo n : Nat} {ad : Option Addr} {c : Nat → SL5}
theorem OwnSL5.row (h : OwnSL5 w lo ad n c) : SLr w ad n c := by
  rcases h with h | ⟨g, cs, rfl, _, h1, _, h2⟩
  · exact .inl h
  · exact SLr.of_block h1 n c h2
theorem OwnSL5.below (h : OwnSL5 w lo ad n c) (b : Below w.heap.size w w') : OwnSL5 w' lo ad n c := by
  rcases h with h | ⟨g, cs, e, h0, h1, h2⟩
  · exact .inl h
  · exact .inr ⟨g, cs, e, h0, h1.below b h1.lt, h2⟩
theorem OwnSL5.keep (h : OwnSL5 w lo ad n c) (hb : ∀ g, ad = some ⟨g, 0, none⟩ → w'.heap[g]? = w.heap[g]?) : OwnSL5 w' lo ad n c := by
  rcases h with h | ⟨g, cs, e, h0, h1, h2⟩
  · exact .inl h
  · exact .inr ⟨g, cs, e, h0, by unfold CB at h1 ⊢; rw [hb g e]; exact h1, h2⟩
theorem OwnSL5.mono (h : OwnSL5 w lo ad n c) {l : Nat} (hl : l ≤ lo) : OwnSL5 w l ad n c := by
  rcases h with h | ⟨g, cs, e, h0, h1, h2⟩
  · exact .inl h
  · exact .inr ⟨g, cs, e, Nat.le_trans hl h0, h1, h2⟩
end
theorem ownSL5_of {w : World} {base n : Nat} {v : Value} {c : Nat → SL5} (h : w.ownsRow base 36 5 v n (rowSL5 c n)) : ∃ ad cp, v = .slice ad n cp ∧ n ≤ cp ∧ OwnSL5 w base ad n c := by
  obtain ⟨hl, h2⟩ := h
  rcases h2 with ⟨e, e0⟩ | ⟨g, cap, cur, e, hb, hg, hn, hcap, hcs, ht⟩
  · exact ⟨none, 0, by rw [e, e0], by omega, .inl e0⟩
  · have hlen := rowSL5_len c n
    have hsz : n * 5 ≤ cur.size := by
      have := congrArg List.length ht
      rw [List.length_take, hlen, Array.length_toList] at this
      omega
    refine ⟨_, cap, e, hn, .inr ⟨g, cur, rfl, hb, hg, hsz, fun j hj => ?_⟩⟩
    have cell : ∀ o, o < n * 5 → cur[o]? = (rowSL5 c n)[o]? := fun o ho => by
      rw [← ht, List.getElem?_take, if_pos ho]
      simp
    obtain ⟨a0, a1, a2, a3, a4⟩ := rowSL5_get c n j hj
    refine ⟨?_, ?_, ?_, ?_, ?_⟩ <;> (rw [cell _ (by omega)]; assumption)
theorem madeSL5 {w : World} {g base : Nat} (h : CB w g #[] 36) (hb : base ≤ g) : w.ownsRow base 36 5 (.slice (some ⟨g, 0, none⟩) 0 0) 0 [] := ⟨rfl, .inr ⟨g, 0, #[], rfl, hb, h, Nat.le_refl _, Nat.zero_le _, rfl, rfl⟩⟩
/-- A row of slots in a block of its own between lo and hi. -/
def OwnM (w : World) (lo hi : Nat) (ad : Option Addr) (n : Nat) (c : Nat → SL5) : Prop := n = 0 ∨ ∃ g cs, ad = some ⟨g, 0, none⟩ ∧ lo ≤ g ∧ g < hi ∧ CB w g cs 36 ∧ n * 5 ≤ cs.size ∧ ∀ j, j < n → cs[j * 5]? = some (.int .i64 (c j).job) ∧ cs[j * 5 + 1]? = some (.int .i64 (c j).tsk) ∧ cs[j * 5 + 2]? = some (.int .i64 (c j).mac) ∧ cs[j * 5 + 3]? = some (.int .i64 (c j).beg) ∧ cs[j * 5 + 4]? = some (.int .i64 (c j).fin)
section
variable {w w' : World} {lo hi : Nat} {ad : Option Addr} {n : Nat} {c : Nat → SL5}
theorem ownM_of (h : OwnSL5 w lo ad n c) : OwnM w lo w.heap.size ad n c := by
  rcases h with h | ⟨g, cs, h1, h2, h3, h4⟩
  · exact .inl h
  · exact .inr ⟨g, cs, h1, h2, h3.lt, h3, h4⟩
theorem OwnM.lower (h : OwnM w lo hi ad n c) {l : Nat} (hl : l ≤ lo) : OwnM w l hi ad n c := by
  rcases h with h | ⟨g, cs, h1, h2, h3⟩
  · exact .inl h
  · exact .inr ⟨g, cs, h1, by omega, h3⟩
theorem OwnM.keep (h : OwnM w lo hi ad n c) (hk : ∀ g, lo ≤ g → g < hi → g < w.heap.size → w'.heap[g]? = w.heap[g]?) : OwnM w' lo hi ad n c := by
  rcases h with h | ⟨g, cs, h1, h2, h3, h4, h5⟩
  · exact .inl h
  · exact .inr ⟨g, cs, h1, h2, h3, h4.keep (hk g h2 h3 h4.lt), h5⟩
theorem OwnM.below (h : OwnM w lo hi ad n c) (b : Below w.heap.size w w') : OwnM w' lo hi ad n c := h.keep (fun g _ _ hg => b.block g hg)
theorem OwnM.row (h : OwnM w lo hi ad n c) : SLr w ad n c := by
  rcases h with h | ⟨g, cs, rfl, h2, h3, h4, h5, h6⟩
  · exact .inl h
  · exact SLr.of_block h4 n c h6
end
theorem markM (lo hi : Nat) (ad : Option Addr) (n cap : Nat) (c : Nat → SL5) (w : World) (h : (n : Int) ≤ 1048576) (H : OwnM w lo hi ad n c) :
    Calls Try.prog 40 #[.slice ad n cap, .int .i64 1] w fun e w' => e = .returned (.int .i64 (1 + 5 * (n : Int))) ∧ SLr w' ad n (mkSL5M 1) ∧ (∀ y, y < w.heap.size → (y < lo ∨ hi ≤ y) → w'.heap[y]? = w.heap[y]?) ∧ Below lo w w' := by
  rcases H with rfl | ⟨g, cs, rfl, h2, h3, h4, h5, h6⟩
  · refine (markSL5S_no ad cap 1 w).mono ?_
    rintro e w' ⟨rfl, rfl⟩
    exact ⟨by simp, .inl rfl, fun _ _ _ => rfl, Below.refl _ _⟩
  · refine (markSL5S_is g n cap 1 cs w h (by omega) (by omega) h4 h5).mono ?_
    rintro e w' ⟨rfl, hr, _, kk, b⟩
    exact ⟨rfl, hr, fun y hy hq => kk y hy (by omega), b.mono h2⟩
end Go.Proofs.Ytogolmbgboihdaa
