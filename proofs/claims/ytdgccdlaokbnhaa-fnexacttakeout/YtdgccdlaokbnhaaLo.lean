/- Rows of lays as lists; such rows that are owned. -/
import Derived.Test.YtdgccdlaokbnhaaLb
import Derived.Laws.OwnMore
import Derived.Maps.AppendAt
namespace Go.Proofs.Ytdgccdlaokbnhaa
open Go.ChangeShapes Go.WideShapes Go.ChangeAt Go.RowKit
set_option linter.unusedVariables false
set_option linter.unusedSimpArgs false

theorem below_app {w w3 : World} {o : Obj} (hgrow : (w.alloc o).grownBy w3 (Value.ownBlock (.slice (some ⟨w.heap.size, 0, none⟩) 0 0))) : Below w.heap.size w w3 := Below.grown ((Below.refl _ _).alloc (Nat.le_refl _) _) hgrow (by simp) (fun k hk => by simp [Value.ownBlock] at hk; omega)
theorem earow {w w' : World} {base : Nat} {e : TypeId} {size : Nat} {v : Value} {n : Nat} {xs : List Value} (h : w.ownsRow base e size v n xs) (hb : ∀ g, v.ownBlock = some g → w'.heap[g]? = w.heap[g]?) : w'.ownsRow base e size v n xs := by
  refine ⟨h.1, ?_⟩
  rcases h.2 with hn | ⟨g, cap, cur, rfl, hb', hgg, rest⟩
  · exact .inl hn
  · refine .inr ⟨g, cap, cur, rfl, hb', ?_, rest⟩
    rw [hb g rfl]
    exact hgg
theorem egrown {B : Nat} {A w w' : World} {row : Option Nat} (h : Below B A w) (hA : B ≤ A.heap.size) (g : w.grownBy w' row) (hr : ∀ r, row = some r → B ≤ r) : Below B A w' :=
  ⟨g.os.trans h.os, g.tape.trans h.tape, g.output.trans h.output, Nat.le_trans h.size g.size, fun k hk => (g.block k (by have := h.size; omega) (fun e => by have := hr k e.symm; omega)).trans (h.block k hk)⟩
theorem ecells {w : World} {b : Nat} {l : List Value} {t : TypeId} (hb : w.heap.size = b) : ∀ j u, l[j]? = some u → (w.alloc (.cells l.toArray t (0, 0))).cell? ((⟨b, 0, none⟩ : Addr).add j) = some u := by
  intro j u hj
  have h := (CB.newAt hb l.toArray t).cell j
  have e : (⟨b, 0, none⟩ : Addr).add j = ⟨b, j, none⟩ := by
    simp only [Addr.add]; by_cases q : j = 0 <;> simp [q]
  rw [e, h]; simpa using hj
def rowLA2 (c : Nat → LA2) : Nat → List Value
  | 0 => []
  | k + 1 => rowLA2 c k ++ [.int .i64 (c k).qty, .int .i64 (c k).cost]
theorem rowLA2_len (c : Nat → LA2) : ∀ n, (rowLA2 c n).length = n * 2
  | 0 => rfl
  | n + 1 => by simp [rowLA2, rowLA2_len c n]; omega
theorem rowLA2_one (c : Nat → LA2) : ∀ n, ∀ v ∈ rowLA2 c n, v.oneCell' = true
  | 0, v, h => by simp [rowLA2] at h
  | n + 1, v, h => by
    simp only [rowLA2, List.mem_append, List.mem_cons, List.not_mem_nil, or_false] at h
    rcases h with h | rfl | rfl
    · exact rowLA2_one c n v h
    all_goals rfl
theorem rowLA2_get (c : Nat → LA2) : ∀ n j, j < n → (rowLA2 c n)[j * 2]? = some (.int .i64 (c j).qty) ∧ (rowLA2 c n)[j * 2 + 1]? = some (.int .i64 (c j).cost)
  | 0, j, h => by omega
  | n + 1, j, h => by
    have e := rowLA2_len c n
    by_cases hj : j = n
    · subst hj
      simp only [rowLA2]
      refine ⟨?_, ?_⟩
      · rw [List.getElem?_append_right (by omega), show j * 2 - (rowLA2 c j).length = 0 by omega]; rfl
      · rw [List.getElem?_append_right (by omega), show j * 2 + 1 - (rowLA2 c j).length = 1 by omega]; rfl
    · obtain ⟨a0, a1⟩ := rowLA2_get c n j (by omega)
      simp only [rowLA2]
      refine ⟨?_, ?_⟩ <;> (rw [List.getElem?_append_left (by omega)]; assumption)
theorem rowLA2_src {w : World} {a : Addr} {n : Nat} {c : Nat → LA2} (H : LAr w (some a) n c) : ∀ j v, (rowLA2 c n)[j]? = some v → w.cell? (a.add j) = some v := by
  intro j v hv
  have hlen := rowLA2_len c n
  have hj : j < n * 2 := by
    rcases Nat.lt_or_ge j (n * 2) with q | q
    · exact q
    · rw [List.getElem?_eq_none (by omega)] at hv; cases hv
  obtain ⟨k, off, e, hk⟩ := H.addr (by omega)
  cases e
  have hadd : (⟨k, off, none⟩ : Addr).add j = ⟨k, off + j, none⟩ := by unfold Addr.add; split <;> simp_all
  rw [hadd]
  obtain ⟨a0, a1⟩ := H.cell (j := j / 2) (by omega)
  obtain ⟨b0, b1⟩ := rowLA2_get c n (j / 2) (by omega)
  have hm : j = j / 2 * 2 ∨ j = j / 2 * 2 + 1 := by omega
  rcases hm with hm | hm
  · rw [hm] at hv ⊢; rw [b0] at hv; cases hv; exact a0
  · rw [hm] at hv ⊢; rw [b1] at hv; cases hv; rw [← Nat.add_assoc]; exact a1
set_option maxRecDepth 100000 in
theorem infoLA2 : ∃ i, Try.prog.info? 40 = some i ∧ i.zero = some (.agg #[.int .i64 0, .int .i64 0]) ∧ i.size = 2 ∧ i.bytes = 16 := by
  obtain ⟨i0, hi⟩ : ∃ i, Try.prog.info? 40 = some i := ⟨_, rfl⟩
  have hz0 : i0.zero = some (.agg #[.int .i64 0, .int .i64 0]) := by
    have : (Try.prog.info? 40).bind (·.zero) = some (.agg #[.int .i64 0, .int .i64 0]) := by kernel_rfl
    rw [hi] at this; exact this
  have hz1 : i0.size = 2 := by
    have : (Try.prog.info? 40).map (·.size) = some 2 := by kernel_rfl
    rw [hi] at this; simpa using this
  have hz2 : i0.bytes = 16 := by
    have : (Try.prog.info? 40).map (·.bytes) = some 16 := by kernel_rfl
    rw [hi] at this; simpa using this
  exact ⟨i0, hi, hz0, hz1, hz2⟩
/-- A slice of n of them that is owned from block lo on: it is empty, or lies in a block of its own, with room behind it or not. -/
def OwnLA2 (w : World) (lo : Nat) (ad : Option Addr) (n : Nat) (c : Nat → LA2) : Prop := n = 0 ∨ ∃ g cs, ad = some ⟨g, 0, none⟩ ∧ lo ≤ g ∧ CB w g cs 40 ∧ n * 2 ≤ cs.size ∧ ∀ j, j < n → cs[j * 2]? = some (.int .i64 (c j).qty) ∧ cs[j * 2 + 1]? = some (.int .i64 (c j).cost)
section
variable {w w' : World} {lo n : Nat} {ad : Option Addr} {c : Nat → LA2}
theorem OwnLA2.row (h : OwnLA2 w lo ad n c) : LAr w ad n c := by
  rcases h with h | ⟨g, cs, rfl, _, h1, _, h2⟩
  · exact .inl h
  · exact LAr.of_block h1 n c h2
theorem OwnLA2.below (h : OwnLA2 w lo ad n c) (b : Below w.heap.size w w') : OwnLA2 w' lo ad n c := by
  rcases h with h | ⟨g, cs, e, h0, h1, h2⟩
  · exact .inl h
  · exact .inr ⟨g, cs, e, h0, h1.below b h1.lt, h2⟩
theorem OwnLA2.keep (h : OwnLA2 w lo ad n c) (hb : ∀ g, ad = some ⟨g, 0, none⟩ → w'.heap[g]? = w.heap[g]?) : OwnLA2 w' lo ad n c := by
  rcases h with h | ⟨g, cs, e, h0, h1, h2⟩
  · exact .inl h
  · exact .inr ⟨g, cs, e, h0, by unfold CB at h1 ⊢; rw [hb g e]; exact h1, h2⟩
theorem OwnLA2.mono (h : OwnLA2 w lo ad n c) {l : Nat} (hl : l ≤ lo) : OwnLA2 w l ad n c := by
  rcases h with h | ⟨g, cs, e, h0, h1, h2⟩
  · exact .inl h
  · exact .inr ⟨g, cs, e, Nat.le_trans hl h0, h1, h2⟩
end
theorem ownLA2_of {w : World} {base n : Nat} {v : Value} {c : Nat → LA2} (h : w.ownsRow base 40 2 v n (rowLA2 c n)) : ∃ ad cp, v = .slice ad n cp ∧ n ≤ cp ∧ OwnLA2 w base ad n c := by
  obtain ⟨hl, h2⟩ := h
  rcases h2 with ⟨e, e0⟩ | ⟨g, cap, cur, e, hb, hg, hn, hcap, hcs, ht⟩
  · exact ⟨none, 0, by rw [e, e0], by omega, .inl e0⟩
  · have hlen := rowLA2_len c n
    have hsz : n * 2 ≤ cur.size := by
      have := congrArg List.length ht
      rw [List.length_take, hlen, Array.length_toList] at this
      omega
    refine ⟨_, cap, e, hn, .inr ⟨g, cur, rfl, hb, hg, hsz, fun j hj => ?_⟩⟩
    have cell : ∀ o, o < n * 2 → cur[o]? = (rowLA2 c n)[o]? := fun o ho => by
      rw [← ht, List.getElem?_take, if_pos ho]
      simp
    obtain ⟨a0, a1⟩ := rowLA2_get c n j hj
    refine ⟨?_, ?_⟩ <;> (rw [cell _ (by omega)]; assumption)
theorem madeLA2 {w : World} {g base : Nat} (h : CB w g #[] 40) (hb : base ≤ g) : w.ownsRow base 40 2 (.slice (some ⟨g, 0, none⟩) 0 0) 0 [] := ⟨rfl, .inr ⟨g, 0, #[], rfl, hb, h, Nat.le_refl _, Nat.zero_le _, rfl, rfl⟩⟩
/-- A row of lays in a block of its own between lo and hi. -/
def OwnM (w : World) (lo hi : Nat) (ad : Option Addr) (n : Nat) (c : Nat → LA2) : Prop := n = 0 ∨ ∃ g cs, ad = some ⟨g, 0, none⟩ ∧ lo ≤ g ∧ g < hi ∧ CB w g cs 40 ∧ n * 2 ≤ cs.size ∧ ∀ j, j < n → cs[j * 2]? = some (.int .i64 (c j).qty) ∧ cs[j * 2 + 1]? = some (.int .i64 (c j).cost)
section
variable {w w' : World} {lo hi : Nat} {ad : Option Addr} {n : Nat} {c : Nat → LA2}
theorem ownM_of (h : OwnLA2 w lo ad n c) : OwnM w lo w.heap.size ad n c := by
  rcases h with h | ⟨g, cs, h1, h2, h3, h4⟩
  · exact .inl h
  · exact .inr ⟨g, cs, h1, h2, h3.lt, h3, h4⟩
theorem OwnM.lower (h : OwnM w lo hi ad n c) {l : Nat} (hl : l ≤ lo) : OwnM w l hi ad n c := by
  rcases h with h | ⟨g, cs, h1, h2, h3⟩
  · exact .inl h
  · exact .inr ⟨g, cs, h1, by omega, h3⟩
theorem OwnM.keep (h : OwnM w lo hi ad n c) (hk : ∀ g, lo ≤ g → g < hi → g < w.heap.size → w'.heap[g]? = w.heap[g]?) : OwnM w' lo hi ad n c := by
  rcases h with h | ⟨g, cs, h1, h2, h3, h4, h5⟩
  · exact .inl h
  · exact .inr ⟨g, cs, h1, h2, h3, h4.keep (hk g h2 h3 h4.lt), h5⟩
theorem OwnM.below (h : OwnM w lo hi ad n c) (b : Below w.heap.size w w') : OwnM w' lo hi ad n c := h.keep (fun g _ _ hg => b.block g hg)
theorem OwnM.row (h : OwnM w lo hi ad n c) : LAr w ad n c := by
  rcases h with h | ⟨g, cs, rfl, h2, h3, h4, h5, h6⟩
  · exact .inl h
  · exact LAr.of_block h4 n c h6
end
theorem markM (lo hi : Nat) (ad : Option Addr) (n cap : Nat) (c : Nat → LA2) (w : World) (h : (n : Int) ≤ 1048576) (H : OwnM w lo hi ad n c) :
    Calls Try.prog 46 #[.slice ad n cap, .int .i64 1] w fun e w' => e = .returned (.int .i64 (1 + 2 * (n : Int))) ∧ LAr w' ad n (mkLA2M 1) ∧ (∀ y, y < w.heap.size → (y < lo ∨ hi ≤ y) → w'.heap[y]? = w.heap[y]?) ∧ Below lo w w' := by
  rcases H with rfl | ⟨g, cs, rfl, h2, h3, h4, h5, h6⟩
  · refine (markLA2S_no ad cap 1 w).mono ?_
    rintro e w' ⟨rfl, rfl⟩
    exact ⟨by simp, .inl rfl, fun _ _ _ => rfl, Below.refl _ _⟩
  · refine (markLA2S_is g n cap 1 cs w h (by omega) (by omega) h4 h5).mono ?_
    rintro e w' ⟨rfl, hr, _, kk, b⟩
    exact ⟨rfl, hr, fun y hy hq => kk y hy (by omega), b.mono h2⟩
set_option maxRecDepth 20000 in
set_option maxHeartbeats 1000000 in
theorem copyLays_some (a : Addr) (n cap : Nat) (c : Nat → LA2) (w : World) (hn : (n : Int) ≤ 1048576) (H : LAr w (some a) n c) :
    Calls Try.prog 49 #[.slice (some a) n cap] w fun e w' => ∃ v, e = .returned v ∧ w'.ownsRow w.heap.size 40 2 v n (rowLA2 c n) ∧ Below w.heap.size w w' := by
  have HF : Hid (LAr (w.alloc (.cells #[] 40 (0, 0))) (some a) n c) := H.alloc _
  obtain ⟨i0, hi, hz0, hz1, hz2⟩ := infoLA2
  obtain ⟨RS, hRS⟩ : ∃ RS : List Value, RS = rowLA2 c n := ⟨_, rfl⟩
  have HL : Hid (RS.length = n * 2) := by rw [hRS]; exact rowLA2_len c n
  have H1 : Hid (∀ v ∈ RS, v.oneCell' = true) := by rw [hRS]; exact rowLA2_one c n
  have HSRC : Hid (∀ j v, RS[j]? = some v → (w.alloc (.cells #[] 40 (0, 0))).cell? (a.add j) = some v) := by rw [hRS]; exact rowLA2_src HF.out
  have HRS : Hid (RS = rowLA2 c n) := hRS
  clear H hRS
  go_enter Try.func49, Try.ntmps49
  go_wp2_with (first
    | (at_builtin; go_loud (refine wpList_append_own_at _ rfl _ _ 24 rfl w.heap.size 40 i0 (.agg #[.int .i64 0, .int .i64 0]) 2 16 Try.underlying24 hi hz0 hz1 hz2 rfl (by decide) (.slice (some ⟨w.heap.size, 0, none⟩) 0 0) 0 [] rfl (madeLA2 (CB.new _ _) (Nat.le_refl _)) a n cap RS rfl HL.out HSRC.out H1.out (by unfold maxLen; omega) (by omega) (by simp) ?_; intro v' w3 hown hgrow _ _; rw [Nat.zero_add, List.nil_append, HRS.out] at hown; have HW : Hid (w3.ownsRow w.heap.size 40 2 v' n (rowLA2 c n) ∧ Below w.heap.size w w3) := ⟨hown, below_app hgrow⟩; clear hown hgrow)))
  go_returns
  exact ⟨v', rfl, HW.out.1, HW.out.2⟩

end Go.Proofs.Ytdgccdlaokbnhaa
