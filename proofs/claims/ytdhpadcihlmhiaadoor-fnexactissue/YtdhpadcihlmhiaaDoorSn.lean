/- Rows of series and of papers as lists; such rows that are owned; slices.Clone of them. -/
import Derived.Test.YtdhpadcihlmhiaaDoorSm
namespace Go.Proofs.YtdhpadcihlmhiaaDoor
open Go.ChangeShapes Go.WideShapes Go.ChangeAt Go.RowKit
set_option linter.unusedVariables false
set_option linter.unusedSimpArgs false

theorem below_app {w w3 : World} {o : Obj} (hgrow : (w.alloc o).grownBy w3 (Value.ownBlock (.slice (some ⟨w.heap.size, 0, none⟩) 0 0))) : Below w.heap.size w w3 := Below.grown ((Below.refl _ _).alloc (Nat.le_refl _) _) hgrow (by simp) (fun k hk => by simp [Value.ownBlock] at hk; omega)
theorem ownsRow_below {w w' : World} {base n s : Nat} {t : TypeId} {v : Value} {xs : List Value} (h : w.ownsRow base t s v n xs) (b : Below w.heap.size w w') : w'.ownsRow base t s v n xs := by
  obtain ⟨hl, h2⟩ := h
  refine ⟨hl, ?_⟩
  rcases h2 with h | ⟨g, cap, cur, e, hb, hg, h3⟩
  · exact .inl h
  · exact .inr ⟨g, cap, cur, e, hb, by rw [b.block g (lt_of_block hg)]; exact hg, h3⟩
def rowS2 (c : Nat → S2) : Nat → List Value
  | 0 => []
  | k + 1 => rowS2 c k ++ [.string (c k).pre, .int .i64 (c k).wid]
theorem rowS2_len (c : Nat → S2) : ∀ n, (rowS2 c n).length = n * 2
  | 0 => rfl
  | n + 1 => by simp [rowS2, rowS2_len c n]; omega
theorem rowS2_one (c : Nat → S2) : ∀ n, ∀ v ∈ rowS2 c n, v.oneCell' = true
  | 0, v, h => by simp [rowS2] at h
  | n + 1, v, h => by
    simp only [rowS2, List.mem_append, List.mem_cons, List.not_mem_nil, or_false] at h
    rcases h with h | rfl | rfl
    · exact rowS2_one c n v h
    all_goals rfl
theorem rowS2_get (c : Nat → S2) : ∀ n j, j < n → (rowS2 c n)[j * 2]? = some (.string (c j).pre) ∧ (rowS2 c n)[j * 2 + 1]? = some (.int .i64 (c j).wid)
  | 0, j, h => by omega
  | n + 1, j, h => by
    have e := rowS2_len c n
    by_cases hj : j = n
    · subst hj
      simp only [rowS2]
      refine ⟨?_, ?_⟩
      · rw [List.getElem?_append_right (by omega), show j * 2 - (rowS2 c j).length = 0 by omega]; rfl
      · rw [List.getElem?_append_right (by omega), show j * 2 + 1 - (rowS2 c j).length = 1 by omega]; rfl
    · obtain ⟨a0, a1⟩ := rowS2_get c n j (by omega)
      simp only [rowS2]
      refine ⟨?_, ?_⟩ <;> (rw [List.getElem?_append_left (by omega)]; assumption)
theorem rowS2_src {w : World} {a : Addr} {n : Nat} {c : Nat → S2} (H : SRw w (some a) n c) : ∀ j v, (rowS2 c n)[j]? = some v → w.cell? (a.add j) = some v := by
  intro j v hv
  have hlen := rowS2_len c n
  have hj : j < n * 2 := by
    rcases Nat.lt_or_ge j (n * 2) with q | q
    · exact q
    · rw [List.getElem?_eq_none (by omega)] at hv; cases hv
  obtain ⟨k, off, e, hk⟩ := H.addr (by omega)
  cases e
  have hadd : (⟨k, off, none⟩ : Addr).add j = ⟨k, off + j, none⟩ := by unfold Addr.add; split <;> simp_all
  rw [hadd]
  obtain ⟨a0, a1⟩ := H.cell (j := j / 2) (by omega)
  obtain ⟨b0, b1⟩ := rowS2_get c n (j / 2) (by omega)
  have hm : j = j / 2 * 2 ∨ j = j / 2 * 2 + 1 := by omega
  rcases hm with hm | hm
  · rw [hm] at hv ⊢; rw [b0] at hv; cases hv; exact a0
  · rw [hm] at hv ⊢; rw [b1] at hv; cases hv; rw [← Nat.add_assoc]; exact a1
set_option maxRecDepth 100000 in
theorem infoS2 : ∃ i, Tryd.prog.info? 75 = some i ∧ i.zero = some (.agg #[.string ByteArray.empty, .int .i64 0]) ∧ i.size = 2 ∧ i.bytes = 24 := by
  obtain ⟨i0, hi⟩ : ∃ i, Tryd.prog.info? 75 = some i := ⟨_, rfl⟩
  have hz0 : i0.zero = some (.agg #[.string ByteArray.empty, .int .i64 0]) := by
    have : (Tryd.prog.info? 75).bind (·.zero) = some (.agg #[.string ByteArray.empty, .int .i64 0]) := by kernel_rfl
    rw [hi] at this; exact this
  have hz1 : i0.size = 2 := by
    have : (Tryd.prog.info? 75).map (·.size) = some 2 := by kernel_rfl
    rw [hi] at this; simpa using this
  have hz2 : i0.bytes = 24 := by
    have : (Tryd.prog.info? 75).map (·.bytes) = some 24 := by kernel_rfl
    rw [hi] at this; simpa using this
  exact ⟨i0, hi, hz0, hz1, hz2⟩
/-- A slice of n of them that is owned from block lo on: it is empty, or lies in a block of its own, with room behind it or not. -/
def OwnS2 (w : World) (lo : Nat) (ad : Option Addr) (n : Nat) (c : Nat → S2) : Prop := n = 0 ∨ ∃ g cs, ad = some ⟨g, 0, none⟩ ∧ lo ≤ g ∧ CB w g cs 75 ∧ n * 2 ≤ cs.size ∧ ∀ j, j < n → cs[j * 2]? = some (.string (c j).pre) ∧ cs[j * 2 + 1]? = some (.int .i64 (c j).wid)
section
variable {w w' : World} {lo n : Nat} {ad : Option Addr} {c : Nat → S2}
theorem OwnS2.row (h : OwnS2 w lo ad n c) : SRw w ad n c := by
  rcases h with h | ⟨g, cs, rfl, _, h1, _, h2⟩
  · exact .inl h
  · exact SRw.of_block h1 n c h2
theorem OwnS2.below (h : OwnS2 w lo ad n c) (b : Below w.heap.size w w') : OwnS2 w' lo ad n c := by
  rcases h with h | ⟨g, cs, e, h0, h1, h2⟩
  · exact .inl h
  · exact .inr ⟨g, cs, e, h0, h1.below b h1.lt, h2⟩
theorem OwnS2.keep (h : OwnS2 w lo ad n c) (hb : ∀ g, ad = some ⟨g, 0, none⟩ → w'.heap[g]? = w.heap[g]?) : OwnS2 w' lo ad n c := by
  rcases h with h | ⟨g, cs, e, h0, h1, h2⟩
  · exact .inl h
  · exact .inr ⟨g, cs, e, h0, by unfold CB at h1 ⊢; rw [hb g e]; exact h1, h2⟩
theorem OwnS2.mono (h : OwnS2 w lo ad n c) {l : Nat} (hl : l ≤ lo) : OwnS2 w l ad n c := by
  rcases h with h | ⟨g, cs, e, h0, h1, h2⟩
  · exact .inl h
  · exact .inr ⟨g, cs, e, Nat.le_trans hl h0, h1, h2⟩
end
theorem ownS2_of {w : World} {base n : Nat} {v : Value} {c : Nat → S2} (h : w.ownsRow base 75 2 v n (rowS2 c n)) : ∃ ad cp, v = .slice ad n cp ∧ n ≤ cp ∧ OwnS2 w base ad n c := by
  obtain ⟨hl, h2⟩ := h
  rcases h2 with ⟨e, e0⟩ | ⟨g, cap, cur, e, hb, hg, hn, hcap, hcs, ht⟩
  · exact ⟨none, 0, by rw [e, e0], by omega, .inl e0⟩
  · have hlen := rowS2_len c n
    have hsz : n * 2 ≤ cur.size := by
      have := congrArg List.length ht
      rw [List.length_take, hlen, Array.length_toList] at this
      omega
    refine ⟨_, cap, e, hn, .inr ⟨g, cur, rfl, hb, hg, hsz, fun j hj => ?_⟩⟩
    have cell : ∀ o, o < n * 2 → cur[o]? = (rowS2 c n)[o]? := fun o ho => by
      rw [← ht, List.getElem?_take, if_pos ho]
      simp
    obtain ⟨a0, a1⟩ := rowS2_get c n j hj
    refine ⟨?_, ?_⟩ <;> (rw [cell _ (by omega)]; assumption)
theorem madeS2 {w : World} {g base : Nat} (h : CB w g #[] 75) (hb : base ≤ g) : w.ownsRow base 75 2 (.slice (some ⟨g, 0, none⟩) 0 0) 0 [] := ⟨rfl, .inr ⟨g, 0, #[], rfl, hb, h, Nat.le_refl _, Nat.zero_le _, rfl, rfl⟩⟩
set_option maxRecDepth 20000 in
set_option maxHeartbeats 1000000 in
theorem cloneS2_any (a : Addr) (n cap : Nat) (c : Nat → S2) (w : World) (hn : (n : Int) ≤ 1048576) (H : SRw w (some a) n c) :
    Calls Tryd.prog 103 #[.slice (some a) n cap] w fun e w' => ∃ v, e = .returned v ∧ w'.ownsRow w.heap.size 75 2 v n (rowS2 c n) ∧ Below w.heap.size w w' := by
  have HF : Hid (SRw (w.alloc (.cells #[] 75 (0, 0))) (some a) n c) := H.alloc _
  obtain ⟨i0, hi, hz0, hz1, hz2⟩ := infoS2
  obtain ⟨RS, hRS⟩ : ∃ RS : List Value, RS = rowS2 c n := ⟨_, rfl⟩
  have HL : Hid (RS.length = n * 2) := by rw [hRS]; exact rowS2_len c n
  have H1 : Hid (∀ v ∈ RS, v.oneCell' = true) := by rw [hRS]; exact rowS2_one c n
  have HSRC : Hid (∀ j v, RS[j]? = some v → (w.alloc (.cells #[] 75 (0, 0))).cell? (a.add j) = some v) := by rw [hRS]; exact rowS2_src HF.out
  have HRS : Hid (RS = rowS2 c n) := hRS
  clear H hRS
  have he : ∀ w : World, (binOp .eql 24 (.slice (some a) n cap) (.slice none 0 0)).run Tryd.prog w = .ok (.bool false) w := fun _ => rfl
  go_enter Tryd.func103, Tryd.ntmps103
  go_wp2_with (first
    | (at_builtin; go_loud (refine wpList_append_own_at _ rfl _ _ 24 rfl w.heap.size 75 i0 (.agg #[.string ByteArray.empty, .int .i64 0]) 2 24 Tryd.underlying24 hi hz0 hz1 hz2 rfl (by decide) (.slice (some ⟨w.heap.size, 0, none⟩) 0 0) 0 [] rfl (madeS2 (CB.new _ _) (Nat.le_refl _)) a n cap RS rfl HL.out HSRC.out H1.out (by unfold maxLen; omega) (by omega) (by simp) ?_; intro v' w3 hown hgrow _ _; rw [Nat.zero_add, List.nil_append, HRS.out] at hown; have HW : Hid (w3.ownsRow w.heap.size 75 2 v' n (rowS2 c n) ∧ Below w.heap.size w w3) := ⟨hown, below_app hgrow⟩; clear hown hgrow)))
  go_returns
  exact ⟨v', rfl, HW.out.1, HW.out.2⟩
def rowP4 (c : Nat → P4) : Nat → List Value
  | 0 => []
  | k + 1 => rowP4 c k ++ [.int .i64 (c k).ser, .int .i64 (c k).num, .int .i64 (c k).day, .bool (c k).vd]
theorem rowP4_len (c : Nat → P4) : ∀ n, (rowP4 c n).length = n * 4
  | 0 => rfl
  | n + 1 => by simp [rowP4, rowP4_len c n]; omega
theorem rowP4_one (c : Nat → P4) : ∀ n, ∀ v ∈ rowP4 c n, v.oneCell' = true
  | 0, v, h => by simp [rowP4] at h
  | n + 1, v, h => by
    simp only [rowP4, List.mem_append, List.mem_cons, List.not_mem_nil, or_false] at h
    rcases h with h | rfl | rfl | rfl | rfl
    · exact rowP4_one c n v h
    all_goals rfl
theorem rowP4_get (c : Nat → P4) : ∀ n j, j < n → (rowP4 c n)[j * 4]? = some (.int .i64 (c j).ser) ∧ (rowP4 c n)[j * 4 + 1]? = some (.int .i64 (c j).num) ∧ (rowP4 c n)[j * 4 + 2]? = some (.int .i64 (c j).day) ∧ (rowP4 c n)[j * 4 + 3]? = some (.bool (c j).vd)
  | 0, j, h => by omega
  | n + 1, j, h => by
    have e := rowP4_len c n
    by_cases hj : j = n
    · subst hj
      simp only [rowP4]
      refine ⟨?_, ?_, ?_, ?_⟩
      · rw [List.getElem?_append_right (by omega), show j * 4 - (rowP4 c j).length = 0 by omega]; rfl
      · rw [List.getElem?_append_right (by omega), show j * 4 + 1 - (rowP4 c j).length = 1 by omega]; rfl
      · rw [List.getElem?_append_right (by omega), show j * 4 + 2 - (rowP4 c j).length = 2 by omega]; rfl
      · rw [List.getElem?_append_right (by omega), show j * 4 + 3 - (rowP4 c j).length = 3 by omega]; rfl
    · obtain ⟨a0, a1, a2, a3⟩ := rowP4_get c n j (by omega)
      simp only [rowP4]
      refine ⟨?_, ?_, ?_, ?_⟩ <;> (rw [List.getElem?_append_left (by omega)]; assumption)
theorem rowP4_src {w : World} {a : Addr} {n : Nat} {c : Nat → P4} (H : PRw w (some a) n c) : ∀ j v, (rowP4 c n)[j]? = some v → w.cell? (a.add j) = some v := by
  intro j v hv
  have hlen := rowP4_len c n
  have hj : j < n * 4 := by
    rcases Nat.lt_or_ge j (n * 4) with q | q
    · exact q
    · rw [List.getElem?_eq_none (by omega)] at hv; cases hv
  obtain ⟨k, off, e, hk⟩ := H.addr (by omega)
  cases e
  have hadd : (⟨k, off, none⟩ : Addr).add j = ⟨k, off + j, none⟩ := by unfold Addr.add; split <;> simp_all
  rw [hadd]
  obtain ⟨a0, a1, a2, a3⟩ := H.cell (j := j / 4) (by omega)
  obtain ⟨b0, b1, b2, b3⟩ := rowP4_get c n (j / 4) (by omega)
  have hm : j = j / 4 * 4 ∨ j = j / 4 * 4 + 1 ∨ j = j / 4 * 4 + 2 ∨ j = j / 4 * 4 + 3 := by omega
  rcases hm with hm | hm | hm | hm
  · rw [hm] at hv ⊢; rw [b0] at hv; cases hv; exact a0
  · rw [hm] at hv ⊢; rw [b1] at hv; cases hv; rw [← Nat.add_assoc]; exact a1
  · rw [hm] at hv ⊢; rw [b2] at hv; cases hv; rw [← Nat.add_assoc]; exact a2
  · rw [hm] at hv ⊢; rw [b3] at hv; cases hv; rw [← Nat.add_assoc]; exact a3
set_option maxRecDepth 100000 in
theorem infoP4 : ∃ i, Tryd.prog.info? 32 = some i ∧ i.zero = some (.agg #[.int .i64 0, .int .i64 0, .int .i64 0, .bool false]) ∧ i.size = 4 ∧ i.bytes = 32 := by
  obtain ⟨i0, hi⟩ : ∃ i, Tryd.prog.info? 32 = some i := ⟨_, rfl⟩
  have hz0 : i0.zero = some (.agg #[.int .i64 0, .int .i64 0, .int .i64 0, .bool false]) := by
    have : (Tryd.prog.info? 32).bind (·.zero) = some (.agg #[.int .i64 0, .int .i64 0, .int .i64 0, .bool false]) := by kernel_rfl
    rw [hi] at this; exact this
  have hz1 : i0.size = 4 := by
    have : (Tryd.prog.info? 32).map (·.size) = some 4 := by kernel_rfl
    rw [hi] at this; simpa using this
  have hz2 : i0.bytes = 32 := by
    have : (Tryd.prog.info? 32).map (·.bytes) = some 32 := by kernel_rfl
    rw [hi] at this; simpa using this
  exact ⟨i0, hi, hz0, hz1, hz2⟩
/-- A slice of n of them that is owned from block lo on: it is empty, or lies in a block of its own, with room behind it or not. -/
def OwnP4 (w : World) (lo : Nat) (ad : Option Addr) (n : Nat) (c : Nat → P4) : Prop := n = 0 ∨ ∃ g cs, ad = some ⟨g, 0, none⟩ ∧ lo ≤ g ∧ CB w g cs 32 ∧ n * 4 ≤ cs.size ∧ ∀ j, j < n → cs[j * 4]? = some (.int .i64 (c j).ser) ∧ cs[j * 4 + 1]? = some (.int .i64 (c j).num) ∧ cs[j * 4 + 2]? = some (.int .i64 (c j).day) ∧ cs[j * 4 + 3]? = some (.bool (c j).vd)
section
variable {w w' : World} {lo n : Nat} {ad : Option Addr} {c : Nat → P4}
theorem OwnP4.row (h : OwnP4 w lo ad n c) : PRw w ad n c := by
  rcases h with h | ⟨g, cs, rfl, _, h1, _, h2⟩
  · exact .inl h
  · exact PRw.of_block h1 n c h2
theorem OwnP4.below (h : OwnP4 w lo ad n c) (b : Below w.heap.size w w') : OwnP4 w' lo ad n c := by
  rcases h with h | ⟨g, cs, e, h0, h1, h2⟩
  · exact .inl h
  · exact .inr ⟨g, cs, e, h0, h1.below b h1.lt, h2⟩
theorem OwnP4.keep (h : OwnP4 w lo ad n c) (hb : ∀ g, ad = some ⟨g, 0, none⟩ → w'.heap[g]? = w.heap[g]?) : OwnP4 w' lo ad n c := by
  rcases h with h | ⟨g, cs, e, h0, h1, h2⟩
  · exact .inl h
  · exact .inr ⟨g, cs, e, h0, by unfold CB at h1 ⊢; rw [hb g e]; exact h1, h2⟩
theorem OwnP4.mono (h : OwnP4 w lo ad n c) {l : Nat} (hl : l ≤ lo) : OwnP4 w l ad n c := by
  rcases h with h | ⟨g, cs, e, h0, h1, h2⟩
  · exact .inl h
  · exact .inr ⟨g, cs, e, Nat.le_trans hl h0, h1, h2⟩
end
theorem ownP4_of {w : World} {base n : Nat} {v : Value} {c : Nat → P4} (h : w.ownsRow base 32 4 v n (rowP4 c n)) : ∃ ad cp, v = .slice ad n cp ∧ n ≤ cp ∧ OwnP4 w base ad n c := by
  obtain ⟨hl, h2⟩ := h
  rcases h2 with ⟨e, e0⟩ | ⟨g, cap, cur, e, hb, hg, hn, hcap, hcs, ht⟩
  · exact ⟨none, 0, by rw [e, e0], by omega, .inl e0⟩
  · have hlen := rowP4_len c n
    have hsz : n * 4 ≤ cur.size := by
      have := congrArg List.length ht
      rw [List.length_take, hlen, Array.length_toList] at this
      omega
    refine ⟨_, cap, e, hn, .inr ⟨g, cur, rfl, hb, hg, hsz, fun j hj => ?_⟩⟩
    have cell : ∀ o, o < n * 4 → cur[o]? = (rowP4 c n)[o]? := fun o ho => by
      rw [← ht, List.getElem?_take, if_pos ho]
      simp
    obtain ⟨a0, a1, a2, a3⟩ := rowP4_get c n j hj
    refine ⟨?_, ?_, ?_, ?_⟩ <;> (rw [cell _ (by omega)]; assumption)
theorem madeP4 {w : World} {g base : Nat} (h : CB w g #[] 32) (hb : base ≤ g) : w.ownsRow base 32 4 (.slice (some ⟨g, 0, none⟩) 0 0) 0 [] := ⟨rfl, .inr ⟨g, 0, #[], rfl, hb, h, Nat.le_refl _, Nat.zero_le _, rfl, rfl⟩⟩
set_option maxRecDepth 20000 in
set_option maxHeartbeats 1000000 in
theorem cloneP4_any (a : Addr) (n cap : Nat) (c : Nat → P4) (w : World) (hn : (n : Int) ≤ 1048576) (H : PRw w (some a) n c) :
    Calls Tryd.prog 104 #[.slice (some a) n cap] w fun e w' => ∃ v, e = .returned v ∧ w'.ownsRow w.heap.size 32 4 v n (rowP4 c n) ∧ Below w.heap.size w w' := by
  have HF : Hid (PRw (w.alloc (.cells #[] 32 (0, 0))) (some a) n c) := H.alloc _
  obtain ⟨i0, hi, hz0, hz1, hz2⟩ := infoP4
  obtain ⟨RS, hRS⟩ : ∃ RS : List Value, RS = rowP4 c n := ⟨_, rfl⟩
  have HL : Hid (RS.length = n * 4) := by rw [hRS]; exact rowP4_len c n
  have H1 : Hid (∀ v ∈ RS, v.oneCell' = true) := by rw [hRS]; exact rowP4_one c n
  have HSRC : Hid (∀ j v, RS[j]? = some v → (w.alloc (.cells #[] 32 (0, 0))).cell? (a.add j) = some v) := by rw [hRS]; exact rowP4_src HF.out
  have HRS : Hid (RS = rowP4 c n) := hRS
  clear H hRS
  have he : ∀ w : World, (binOp .eql 25 (.slice (some a) n cap) (.slice none 0 0)).run Tryd.prog w = .ok (.bool false) w := fun _ => rfl
  go_enter Tryd.func104, Tryd.ntmps104
  go_wp2_with (first
    | (at_builtin; go_loud (refine wpList_append_own_at _ rfl _ _ 25 rfl w.heap.size 32 i0 (.agg #[.int .i64 0, .int .i64 0, .int .i64 0, .bool false]) 4 32 Tryd.underlying25 hi hz0 hz1 hz2 rfl (by decide) (.slice (some ⟨w.heap.size, 0, none⟩) 0 0) 0 [] rfl (madeP4 (CB.new _ _) (Nat.le_refl _)) a n cap RS rfl HL.out HSRC.out H1.out (by unfold maxLen; omega) (by omega) (by simp) ?_; intro v' w3 hown hgrow _ _; rw [Nat.zero_add, List.nil_append, HRS.out] at hown; have HW : Hid (w3.ownsRow w.heap.size 32 4 v' n (rowP4 c n) ∧ Below w.heap.size w w3) := ⟨hown, below_app hgrow⟩; clear hown hgrow)))
  go_returns
  exact ⟨v', rfl, HW.out.1, HW.out.2⟩
end Go.Proofs.YtdhpadcihlmhiaaDoor
