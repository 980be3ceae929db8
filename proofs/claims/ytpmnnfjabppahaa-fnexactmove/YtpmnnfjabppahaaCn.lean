/- Rows of cells as lists; such rows that are owned; copies of them on both sides. -/
import Derived.Test.YtpmnnfjabppahaaCm
import Derived.Laws.OwnMore
import Derived.Maps.AppendAt
namespace Go.Proofs.Ytpmnnfjabppahaa
open Go.ChangeShapes Go.WideShapes Go.ChangeAt Go.RowKit
set_option linter.unusedVariables false
set_option linter.unusedSimpArgs false

theorem CB.keep {w w' : World} {b : Nat} {cs : Array Value} {t : TypeId} (H : CB w b cs t) (h : w'.heap[b]? = w.heap[b]?) : CB w' b cs t := by unfold CB at H ⊢; rw [h]; exact H
theorem below_app {w w3 : World} {o : Obj} (hgrow : (w.alloc o).grownBy w3 (Value.ownBlock (.slice (some ⟨w.heap.size, 0, none⟩) 0 0))) : Below w.heap.size w w3 := Below.grown ((Below.refl _ _).alloc (Nat.le_refl _) _) hgrow (by simp) (fun k hk => by simp [Value.ownBlock] at hk; omega)
theorem ownsRow_below {w w' : World} {base n s : Nat} {t : TypeId} {v : Value} {xs : List Value} (h : w.ownsRow base t s v n xs) (b : Below w.heap.size w w') : w'.ownsRow base t s v n xs := by
  obtain ⟨hl, h2⟩ := h
  refine ⟨hl, ?_⟩
  rcases h2 with h | ⟨g, cap, cur, e, hb, hg, h3⟩
  · exact .inl h
  · exact .inr ⟨g, cap, cur, e, hb, by rw [b.block g (lt_of_block hg)]; exact hg, h3⟩
def rowCE6 (c : Nat → CE6) : Nat → List Value
  | 0 => []
  | k + 1 => rowCE6 c k ++ [.string (c k).item, .string (c k).place, .string (c k).lot, .int .i64 (c k).exp, .int .i64 (c k).qty, .int .i64 (c k).hld]
theorem rowCE6_len (c : Nat → CE6) : ∀ n, (rowCE6 c n).length = n * 6
  | 0 => rfl
  | n + 1 => by simp [rowCE6, rowCE6_len c n]; omega
theorem rowCE6_one (c : Nat → CE6) : ∀ n, ∀ v ∈ rowCE6 c n, v.oneCell' = true
  | 0, v, h => by simp [rowCE6] at h
  | n + 1, v, h => by
    simp only [rowCE6, List.mem_append, List.mem_cons, List.not_mem_nil, or_false] at h
    rcases h with h | rfl | rfl | rfl | rfl | rfl | rfl
    · exact rowCE6_one c n v h
    all_goals rfl
theorem rowCE6_get (c : Nat → CE6) : ∀ n j, j < n → (rowCE6 c n)[j * 6]? = some (.string (c j).item) ∧ (rowCE6 c n)[j * 6 + 1]? = some (.string (c j).place) ∧ (rowCE6 c n)[j * 6 + 2]? = some (.string (c j).lot) ∧ (rowCE6 c n)[j * 6 + 3]? = some (.int .i64 (c j).exp) ∧ (rowCE6 c n)[j * 6 + 4]? = some (.int .i64 (c j).qty) ∧ (rowCE6 c n)[j * 6 + 5]? = some (.int .i64 (c j).hld)
  | 0, j, h => by omega
  | n + 1, j, h => by
    have e := rowCE6_len c n
    by_cases hj : j = n
    · subst hj
      simp only [rowCE6]
      refine ⟨?_, ?_, ?_, ?_, ?_, ?_⟩
      · rw [List.getElem?_append_right (by omega), show j * 6 - (rowCE6 c j).length = 0 by omega]; rfl
      · rw [List.getElem?_append_right (by omega), show j * 6 + 1 - (rowCE6 c j).length = 1 by omega]; rfl
      · rw [List.getElem?_append_right (by omega), show j * 6 + 2 - (rowCE6 c j).length = 2 by omega]; rfl
      · rw [List.getElem?_append_right (by omega), show j * 6 + 3 - (rowCE6 c j).length = 3 by omega]; rfl
      · rw [List.getElem?_append_right (by omega), show j * 6 + 4 - (rowCE6 c j).length = 4 by omega]; rfl
      · rw [List.getElem?_append_right (by omega), show j * 6 + 5 - (rowCE6 c j).length = 5 by omega]; rfl
    · obtain ⟨a0, a1, a2, a3, a4, a5⟩ := rowCE6_get c n j (by omega)
      simp only [rowCE6]
      refine ⟨?_, ?_, ?_, ?_, ?_, ?_⟩ <;> (rw [List.getElem?_append_left (by omega)]; assumption)
theorem rowCE6_src {w : World} {a : Addr} {n : Nat} {c : Nat → CE6} (H : CEr w (some a) n c) : ∀ j v, (rowCE6 c n)[j]? = some v → w.cell? (a.add j) = some v := by
  intro j v hv
  have hlen := rowCE6_len c n
  have hj : j < n * 6 := by
    rcases Nat.lt_or_ge j (n * 6) with q | q
    · exact q
    · rw [List.getElem?_eq_none (by omega)] at hv; cases hv
  obtain ⟨k, off, e, hk⟩ := H.addr (by omega)
  cases e
  have hadd : (⟨k, off, none⟩ : Addr).add j = ⟨k, off + j, none⟩ := by unfold Addr.add; split <;> simp_all
  rw [hadd]
  obtain ⟨a0, a1, a2, a3, a4, a5⟩ := H.cell (j := j / 6) (by omega)
  obtain ⟨b0, b1, b2, b3, b4, b5⟩ := rowCE6_get c n (j / 6) (by omega)
  have hm : j = j / 6 * 6 ∨ j = j / 6 * 6 + 1 ∨ j = j / 6 * 6 + 2 ∨ j = j / 6 * 6 + 3 ∨ j = j / 6 * 6 + 4 ∨ j = j / 6 * 6 + 5 := by omega
  rcases hm with hm | hm | hm | hm | hm | hm
  · rw [hm] at hv ⊢; rw [b0] at hv; cases hv; exact a0
  · rw [hm] at hv ⊢; rw [b1] at hv; cases hv; rw [← Nat.add_assoc]; exact a1
  · rw [hm] at hv ⊢; rw [b2] at hv; cases hv; rw [← Nat.add_assoc]; exact a2
  · rw [hm] at hv ⊢; rw [b3] at hv; cases hv; rw [← Nat.add_assoc]; exact a3
  · rw [hm] at hv ⊢; rw [b4] at hv; cases hv; rw [← Nat.add_assoc]; exact a4
  · rw [hm] at hv ⊢; rw [b5] at hv; cases hv; rw [← Nat.add_assoc]; exact a5
set_option maxRecDepth 100000 in
theorem infoCE6 : ∃ i, Try.prog.info? 28 = some i ∧ i.zero = some (.agg #[.string ByteArray.empty, .string ByteArray.empty, .string ByteArray.empty, .int .i64 0, .int .i64 0, .int .i64 0]) ∧ i.size = 6 ∧ i.bytes = 72 := by
  obtain ⟨i0, hi⟩ : ∃ i, Try.prog.info? 28 = some i := ⟨_, rfl⟩
  have hz0 : i0.zero = some (.agg #[.string ByteArray.empty, .string ByteArray.empty, .string ByteArray.empty, .int .i64 0, .int .i64 0, .int .i64 0]) := by
    have : (Try.prog.info? 28).bind (·.zero) = some (.agg #[.string ByteArray.empty, .string ByteArray.empty, .string ByteArray.empty, .int .i64 0, .int .i64 0, .int .i64 0]) := by kernel_rfl
    rw [hi] at this; exact this
  have hz1 : i0.size = 6 := by
    have : (Try.prog.info? 28).map (·.size) = some 6 := by kernel_rfl
    rw [hi] at this; simpa using this
  have hz2 : i0.bytes = 72 := by
    have : (Try.prog.info? 28).map (·.bytes) = some 72 := by kernel_rfl
    rw [hi] at this; simpa using this
  exact ⟨i0, hi, hz0, hz1, hz2⟩
/-- A slice of n of them that is owned from block lo on: it is empty, or lies in a block of its own, with room behind it or not. -/
def OwnCE6 (w : World) (lo : Nat) (ad : Option Addr) (n : Nat) (c : Nat → CE6) : Prop := n = 0 ∨ ∃ g cs, ad = some ⟨g, 0, none⟩ ∧ lo ≤ g ∧ CB w g cs 28 ∧ n * 6 ≤ cs.size ∧ ∀ j, j < n → cs[j * 6]? = some (.string (c j).item) ∧ cs[j * 6 + 1]? = some (.string (c j).place) ∧ cs[j * 6 + 2]? = some (.string (c j).lot) ∧ cs[j * 6 + 3]? = some (.int .i64 (c j).exp) ∧ cs[j * 6 + 4]? = some (.int .i64 (c j).qty) ∧ cs[j * 6 + 5]? = some (.int .i64 (c j).hld)
section
variable {w w' : World} {lo n : Nat} {ad : Option Addr} {c : Nat → CE6}
theorem OwnCE6.row (h : OwnCE6 w lo ad n c) : CEr w ad n c := by
  rcases h with h | ⟨g, cs, rfl, _, h1, _, h2⟩
  · exact .inl h
  · exact CEr.of_block h1 n c h2
theorem OwnCE6.below (h : OwnCE6 w lo ad n c) (b : Below w.heap.size w w') : OwnCE6 w' lo ad n c := by
  rcases h with h | ⟨g, cs, e, h0, h1, h2⟩
  · exact .inl h
  · exact .inr ⟨g, cs, e, h0, h1.below b h1.lt, h2⟩
theorem OwnCE6.keep (h : OwnCE6 w lo ad n c) (hb : ∀ g, ad = some ⟨g, 0, none⟩ → w'.heap[g]? = w.heap[g]?) : OwnCE6 w' lo ad n c := by
  rcases h with h | ⟨g, cs, e, h0, h1, h2⟩
  · exact .inl h
  · exact .inr ⟨g, cs, e, h0, by unfold CB at h1 ⊢; rw [hb g e]; exact h1, h2⟩
theorem OwnCE6.mono (h : OwnCE6 w lo ad n c) {l : Nat} (hl : l ≤ lo) : OwnCE6 w l ad n c := by
  rcases h with h | ⟨g, cs, e, h0, h1, h2⟩
  · exact .inl h
  · exact .inr ⟨g, cs, e, Nat.le_trans hl h0, h1, h2⟩
end
theorem ownCE6_of {w : World} {base n : Nat} {v : Value} {c : Nat → CE6} (h : w.ownsRow base 28 6 v n (rowCE6 c n)) : ∃ ad cp, v = .slice ad n cp ∧ n ≤ cp ∧ OwnCE6 w base ad n c := by
  obtain ⟨hl, h2⟩ := h
  rcases h2 with ⟨e, e0⟩ | ⟨g, cap, cur, e, hb, hg, hn, hcap, hcs, ht⟩
  · exact ⟨none, 0, by rw [e, e0], by omega, .inl e0⟩
  · have hlen := rowCE6_len c n
    have hsz : n * 6 ≤ cur.size := by
      have := congrArg List.length ht
      rw [List.length_take, hlen, Array.length_toList] at this
      omega
    refine ⟨_, cap, e, hn, .inr ⟨g, cur, rfl, hb, hg, hsz, fun j hj => ?_⟩⟩
    have cell : ∀ o, o < n * 6 → cur[o]? = (rowCE6 c n)[o]? := fun o ho => by
      rw [← ht, List.getElem?_take, if_pos ho]
      simp
    obtain ⟨a0, a1, a2, a3, a4, a5⟩ := rowCE6_get c n j hj
    refine ⟨?_, ?_, ?_, ?_, ?_, ?_⟩ <;> (rw [cell _ (by omega)]; assumption)
theorem madeCE6 {w : World} {g base : Nat} (h : CB w g #[] 28) (hb : base ≤ g) : w.ownsRow base 28 6 (.slice (some ⟨g, 0, none⟩) 0 0) 0 [] := ⟨rfl, .inr ⟨g, 0, #[], rfl, hb, h, Nat.le_refl _, Nat.zero_le _, rfl, rfl⟩⟩
set_option maxRecDepth 20000 in
set_option maxHeartbeats 1000000 in
theorem copyI_any (a : Addr) (n cap : Nat) (c : Nat → CE6) (w : World) (hn : (n : Int) ≤ 1048576) (H : CEr w (some a) n c) :
    Calls Try.prog 105 #[.slice (some a) n cap] w fun e w' => ∃ v, e = .returned v ∧ w'.ownsRow w.heap.size 28 6 v n (rowCE6 c n) ∧ Below w.heap.size w w' := by
  have HF : Hid (CEr (w.alloc (.cells #[] 28 (0, 0))) (some a) n c) := H.alloc _
  obtain ⟨i0, hi, hz0, hz1, hz2⟩ := infoCE6
  obtain ⟨RS, hRS⟩ : ∃ RS : List Value, RS = rowCE6 c n := ⟨_, rfl⟩
  have HL : Hid (RS.length = n * 6) := by rw [hRS]; exact rowCE6_len c n
  have H1 : Hid (∀ v ∈ RS, v.oneCell' = true) := by rw [hRS]; exact rowCE6_one c n
  have HSRC : Hid (∀ j v, RS[j]? = some v → (w.alloc (.cells #[] 28 (0, 0))).cell? (a.add j) = some v) := by rw [hRS]; exact rowCE6_src HF.out
  have HRS : Hid (RS = rowCE6 c n) := hRS
  clear H hRS
  go_enter Try.func105, Try.ntmps105
  go_wp2_with (first
    | (at_builtin; (refine wpList_append_own_at _ rfl _ _ 24 rfl w.heap.size 28 i0 (.agg #[.string ByteArray.empty, .string ByteArray.empty, .string ByteArray.empty, .int .i64 0, .int .i64 0, .int .i64 0]) 6 72 Try.underlying24 hi hz0 hz1 hz2 rfl (by decide) (.slice (some ⟨w.heap.size, 0, none⟩) 0 0) 0 [] rfl (madeCE6 (CB.new _ _) (Nat.le_refl _)) a n cap RS rfl HL.out HSRC.out H1.out (by unfold maxLen; omega) (by omega) (by simp) ?_; intro v' w3 hown hgrow _ _; rw [Nat.zero_add, List.nil_append, HRS.out] at hown; have HW : Hid (w3.ownsRow w.heap.size 28 6 v' n (rowCE6 c n) ∧ Below w.heap.size w w3) := ⟨hown, below_app hgrow⟩; clear hown hgrow)))
  go_returns
  exact ⟨v', rfl, HW.out.1, HW.out.2⟩
set_option maxRecDepth 20000 in
set_option maxHeartbeats 1000000 in
theorem copyS_any (a : Addr) (n cap : Nat) (c : Nat → CE6) (w : World) (hn : (n : Int) ≤ 1048576) (H : CEr w (some a) n c) :
    Calls Try.prog 68 #[.slice (some a) n cap] w fun e w' => ∃ v, e = .returned v ∧ w'.ownsRow w.heap.size 28 6 v n (rowCE6 c n) ∧ Below w.heap.size w w' := by
  have HF : Hid (CEr (w.alloc (.cells #[] 28 (0, 0))) (some a) n c) := H.alloc _
  obtain ⟨i0, hi, hz0, hz1, hz2⟩ := infoCE6
  obtain ⟨RS, hRS⟩ : ∃ RS : List Value, RS = rowCE6 c n := ⟨_, rfl⟩
  have HL : Hid (RS.length = n * 6) := by rw [hRS]; exact rowCE6_len c n
  have H1 : Hid (∀ v ∈ RS, v.oneCell' = true) := by rw [hRS]; exact rowCE6_one c n
  have HSRC : Hid (∀ j v, RS[j]? = some v → (w.alloc (.cells #[] 28 (0, 0))).cell? (a.add j) = some v) := by rw [hRS]; exact rowCE6_src HF.out
  have HRS : Hid (RS = rowCE6 c n) := hRS
  clear H hRS
  go_enter Try.func68, Try.ntmps68
  go_wp2_with (first
    | (at_builtin; (refine wpList_append_own_at _ rfl _ _ 24 rfl w.heap.size 28 i0 (.agg #[.string ByteArray.empty, .string ByteArray.empty, .string ByteArray.empty, .int .i64 0, .int .i64 0, .int .i64 0]) 6 72 Try.underlying24 hi hz0 hz1 hz2 rfl (by decide) (.slice (some ⟨w.heap.size, 0, none⟩) 0 0) 0 [] rfl (madeCE6 (CB.new _ _) (Nat.le_refl _)) a n cap RS rfl HL.out HSRC.out H1.out (by unfold maxLen; omega) (by omega) (by simp) ?_; intro v' w3 hown hgrow _ _; rw [Nat.zero_add, List.nil_append, HRS.out] at hown; have HW : Hid (w3.ownsRow w.heap.size 28 6 v' n (rowCE6 c n) ∧ Below w.heap.size w w3) := ⟨hown, below_app hgrow⟩; clear hown hgrow)))
  go_returns
  exact ⟨v', rfl, HW.out.1, HW.out.2⟩
/-- A row of cells in a block of its own between lo and hi. -/
def OwnM (w : World) (lo hi : Nat) (ad : Option Addr) (n : Nat) (c : Nat → CE6) : Prop := n = 0 ∨ ∃ g cs, ad = some ⟨g, 0, none⟩ ∧ lo ≤ g ∧ g < hi ∧ CB w g cs 28 ∧ n * 6 ≤ cs.size ∧ ∀ j, j < n → cs[j * 6]? = some (.string (c j).item) ∧ cs[j * 6 + 1]? = some (.string (c j).place) ∧ cs[j * 6 + 2]? = some (.string (c j).lot) ∧ cs[j * 6 + 3]? = some (.int .i64 (c j).exp) ∧ cs[j * 6 + 4]? = some (.int .i64 (c j).qty) ∧ cs[j * 6 + 5]? = some (.int .i64 (c j).hld)
section
variable {w w' : World} {lo hi : Nat} {ad : Option Addr} {n : Nat} {c : Nat → CE6}
theorem ownM_of (h : OwnCE6 w lo ad n c) : OwnM w lo w.heap.size ad n c := by
  rcases h with h | ⟨g, cs, h1, h2, h3, h4⟩
  · exact .inl h
  · exact .inr ⟨g, cs, h1, h2, h3.lt, h3, h4⟩
theorem OwnM.lower (h : OwnM w lo hi ad n c) {l : Nat} (hl : l ≤ lo) : OwnM w l hi ad n c := by
  rcases h with h | ⟨g, cs, h1, h2, h3⟩
  · exact .inl h
  · exact .inr ⟨g, cs, h1, by omega, h3⟩
theorem OwnM.keep (h : OwnM w lo hi ad n c) (hk : ∀ g, lo ≤ g → g < hi → g < w.heap.size → w'.heap[g]? = w.heap[g]?) : OwnM w' lo hi ad n c := by
  rcases h with h | ⟨g, cs, h1, h2, h3, h4, h5⟩
  · exact .inl h
  · exact .inr ⟨g, cs, h1, h2, h3, h4.keep (hk g h2 h3 h4.lt), h5⟩
theorem OwnM.below (h : OwnM w lo hi ad n c) (b : Below w.heap.size w w') : OwnM w' lo hi ad n c := h.keep (fun g _ _ hg => b.block g hg)
theorem OwnM.row (h : OwnM w lo hi ad n c) : CEr w ad n c := by
  rcases h with h | ⟨g, cs, rfl, h2, h3, h4, h5, h6⟩
  · exact .inl h
  · exact CEr.of_block h4 n c h6
end
theorem markM (lo hi : Nat) (ad : Option Addr) (n cap : Nat) (c : Nat → CE6) (w : World) (h : (n : Int) ≤ 1048576) (H : OwnM w lo hi ad n c) :
    Calls Try.prog 38 #[.slice ad n cap, .int .i64 1] w fun e w' => e = .returned (.int .i64 (1 + 6 * (n : Int))) ∧ CEr w' ad n (mkCE6M 1) ∧ (∀ y, y < w.heap.size → (y < lo ∨ hi ≤ y) → w'.heap[y]? = w.heap[y]?) ∧ Below lo w w' := by
  rcases H with rfl | ⟨g, cs, rfl, h2, h3, h4, h5, h6⟩
  · refine (markCE6S_no ad cap 1 w).mono ?_
    rintro e w' ⟨rfl, rfl⟩
    exact ⟨by simp, .inl rfl, fun _ _ _ => rfl, Below.refl _ _⟩
  · refine (markCE6S_is g n cap 1 cs w h (by omega) (by omega) h4 h5).mono ?_
    rintro e w' ⟨rfl, hr, _, kk, b⟩
    exact ⟨rfl, hr, fun y hy hq => kk y hy (by omega), b.mono h2⟩
end Go.Proofs.Ytpmnnfjabppahaa
