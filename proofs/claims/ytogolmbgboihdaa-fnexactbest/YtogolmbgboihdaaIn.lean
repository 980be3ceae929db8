/- Rows of whole numbers in the form of the other rows: marks, owned rows. -/
import Derived.Test.YtogolmbgboihdaaRx
namespace Go.Proofs.Ytogolmbgboihdaa
open Go.ChangeShapes Go.WideShapes Go.ChangeAt Go.RowKit
set_option linter.unusedVariables false
set_option linter.unusedSimpArgs false

set_option maxRecDepth 20000 in
set_option maxHeartbeats 2000000 in
theorem markI_is (g len cap : Nat) (s0 : Int) (cs0 : Array Value) (w : World) (h : (len : Int) ≤ 1048576) (q0 : 0 ≤ s0) (q1 : s0 ≤ 20000000000000) (hC0 : CB w g cs0 3) (hsz : len ≤ cs0.size) :
    Calls Try.prog 39 #[.slice (some ⟨g, 0, none⟩) len cap, .int .i64 s0] w fun e w' => e = .returned (.int .i64 (s0 + (len : Int))) ∧ IR w' (some ⟨g, 0, none⟩) len (fun j => (j : Int) + s0) ∧ (∀ y, y < w.heap.size → y ≠ g → w'.heap[y]? = w.heap[y]?) ∧ Below g w w' := by
  have HC : Hid (CB w g cs0 3) := hC0
  clear hC0
  go_enter Try.func39, Try.ntmps39
  go_wp2
  go_loopw [1, 5] (fun u i wr => ∃ (k : Nat) (cs : Array Value), k ≤ len ∧ i = .int .i64 (k : Int) ∧ u = .int .i64 ((k : Int) + s0) ∧ CB wr g cs 3 ∧ len ≤ cs.size ∧ (∀ j, j < k → cs[j]? = some (.int .i64 ((j : Int) + s0))) ∧ (∀ y, y ≠ g → wr.heap[y]? = w.heap[y]?) ∧ Below g w wr) (fun u i _ => len - (intOf i).toNat)
  case atStart => exact ⟨0, cs0, Nat.zero_le _, rfl, by simp, HC.out, hsz, fun j hj => by omega, fun y hy => rfl, Below.refl _ _⟩
  case round =>
    obtain ⟨k, cs, hk, rfl, rfl, hC, hs, hcs, hkeep, hB⟩ := hrel
    by_cases hlt : k < len
    · have hlt2 : (k : Int) < (len : Int) := by omega
      obtain ⟨v1, d1⟩ : ∃ v, cs[k]? = some v := ⟨cs[k]'(by omega), Array.getElem?_eq_getElem (by omega)⟩
      have x1 := (hC.cell k).trans d1
      have f1 := hC.fr k
      have HN : Hid (CB (wr.setCell ⟨g, k, none⟩ (.int .i64 ((k : Int) + s0))) g (cs.setIfInBounds k (.int .i64 ((k : Int) + s0))) 3 ∧ len ≤ (cs.setIfInBounds k (.int .i64 ((k : Int) + s0))).size ∧ (∀ j, j < k + 1 → (cs.setIfInBounds k (.int .i64 ((k : Int) + s0)))[j]? = some (.int .i64 ((j : Int) + s0))) ∧ (∀ y, y ≠ g → (wr.setCell ⟨g, k, none⟩ (.int .i64 ((k : Int) + s0))).heap[y]? = w.heap[y]?) ∧ Below g w (wr.setCell ⟨g, k, none⟩ (.int .i64 ((k : Int) + s0)))) := by
        refine ⟨hC.set _ _, by simpa using hs, fun j hj => ?_, fun y hy => (heap_set hy).trans (hkeep y hy), hB.setCell (Nat.le_refl _) _⟩
        by_cases e : j = k
        · subst e; rw [get_set_eq (by omega)]
        · rw [get_set_ne (by omega)]; exact hcs j (by omega)
      clear hC hs hcs hkeep hB d1
      go_wp2
      go_roundw
      case rel =>
        obtain ⟨z1, z2, z3, z4, z5⟩ := HN.out
        exact ⟨k + 1, _, by omega, by go_num, by go_num, z1, z2, z3, z4, z5⟩
      case measure => simp [intOf]; omega
    · obtain rfl : k = len := by omega
      have HN : Hid (IR wr (some ⟨g, 0, none⟩) k (fun j => (j : Int) + s0) ∧ (∀ y, y < w.heap.size → y ≠ g → wr.heap[y]? = w.heap[y]?) ∧ Below g w wr) :=
        ⟨IR.of_block hC k _ hcs, fun y _ hy => hkeep y hy, hB⟩
      clear hC hs hcs hkeep hB
      go_wp2
      go_returns
      exact ⟨by simp [Int.add_comm], HN.out.1, HN.out.2.1, HN.out.2.2⟩
set_option maxRecDepth 20000 in
set_option maxHeartbeats 2000000 in
theorem heldI_is (ad : Option Addr) (len cap : Nat) (s0 : Int) (w : World) (h : (len : Int) ≤ 1048576) (q0 : 0 ≤ s0) (q1 : s0 ≤ 20000000000000) (h1 : IR w ad len (fun j => (j : Int) + s0)) :
    Calls Try.prog 43 #[.slice ad len cap, .int .i64 s0] w fun e w' => e = .returned (.int .i64 (s0 + (len : Int))) ∧ w' = w := by
  have H1 : Hid (IR w ad len (fun j => (j : Int) + s0)) := h1
  clear h1
  go_enter Try.func43, Try.ntmps43
  go_wp2
  go_loop [1, 5] (fun u i => ∃ (k : Nat), k ≤ len ∧ i = .int .i64 (k : Int) ∧ u = .int .i64 ((k : Int) + s0)) (fun u i => len - (intOf i).toNat)
  case atStart => exact ⟨0, Nat.zero_le _, rfl, by simp⟩
  case round =>
    obtain ⟨k, hk, rfl, rfl⟩ := hrel
    by_cases hlt : k < len
    · obtain ⟨kb, off, rfl, _⟩ := H1.out.addr (by omega)
      have c1 := H1.out.cell hlt
      have hlt2 : (k : Int) < (len : Int) := by omega
      go_wp2
      go_round
      case rel => exact ⟨k + 1, by omega, by go_num, by go_num⟩
      case measure => simp [intOf]; omega
    · obtain rfl : k = len := by omega
      go_wp2
      go_returns
      exact ⟨by simp [Int.add_comm], rfl⟩
def OwnI (w : World) (lo : Nat) (ad : Option Addr) (n : Nat) (c : Nat → Int) : Prop := n = 0 ∨ ∃ g cs, ad = some ⟨g, 0, none⟩ ∧ lo ≤ g ∧ CB w g cs 3 ∧ n ≤ cs.size ∧ ∀ j, j < n → cs[j]? = some (.int .i64 (c j))
section
variable {w w' : World} {lo n : Nat} {ad : Option Addr} {c : Nat → Int}
theorem OwnI.row (h : OwnI w lo ad n c) : IR w ad n c := by
  rcases h with h | ⟨g, cs, rfl, _, h1, _, h2⟩
  · exact .inl h
  · exact IR.of_block h1 n c h2
theorem OwnI.below (h : OwnI w lo ad n c) (b : Below w.heap.size w w') : OwnI w' lo ad n c := by
  rcases h with h | ⟨g, cs, e, h0, h1, h2⟩
  · exact .inl h
  · exact .inr ⟨g, cs, e, h0, h1.below b h1.lt, h2⟩
theorem OwnI.keep (h : OwnI w lo ad n c) (hb : ∀ g, ad = some ⟨g, 0, none⟩ → w'.heap[g]? = w.heap[g]?) : OwnI w' lo ad n c := by
  rcases h with h | ⟨g, cs, e, h0, h1, h2⟩
  · exact .inl h
  · exact .inr ⟨g, cs, e, h0, by unfold CB at h1 ⊢; rw [hb g e]; exact h1, h2⟩
theorem OwnI.mono (h : OwnI w lo ad n c) {l : Nat} (hl : l ≤ lo) : OwnI w l ad n c := by
  rcases h with h | ⟨g, cs, e, h0, h1, h2⟩
  · exact .inl h
  · exact .inr ⟨g, cs, e, Nat.le_trans hl h0, h1, h2⟩
end
def intR (c : Nat → Int) : Nat → List Value
  | 0 => []
  | k + 1 => intR c k ++ [.int .i64 (c k)]
theorem intR_len (c : Nat → Int) : ∀ n, (intR c n).length = n
  | 0 => rfl
  | n + 1 => by simp [intR, intR_len c n]
theorem intR_one (c : Nat → Int) : ∀ n, ∀ v ∈ intR c n, v.oneCell' = true
  | 0, v, h => by simp [intR] at h
  | n + 1, v, h => by
    simp only [intR, List.mem_append, List.mem_cons, List.not_mem_nil, or_false] at h
    rcases h with h | rfl
    · exact intR_one c n v h
    · rfl
theorem intR_get (c : Nat → Int) : ∀ n j, j < n → (intR c n)[j]? = some (.int .i64 (c j))
  | 0, j, h => by omega
  | n + 1, j, h => by
    have e := intR_len c n
    simp only [intR]
    by_cases hj : j = n
    · subst hj
      rw [List.getElem?_append_right (by omega), show j - (intR c j).length = 0 by omega]; rfl
    · rw [List.getElem?_append_left (by omega)]; exact intR_get c n j (by omega)
theorem intR_congr {c d : Nat → Int} : ∀ {n : Nat}, (∀ j, j < n → c j = d j) → intR c n = intR d n
  | 0, _ => rfl
  | n + 1, h => by simp only [intR]; rw [intR_congr (fun j hj => h j (by omega)), h n (by omega)]
theorem ownI_of {w : World} {base n : Nat} {v : Value} {c : Nat → Int} (h : w.ownsRow base 3 1 v n (intR c n)) : ∃ ad cp, v = .slice ad n cp ∧ n ≤ cp ∧ OwnI w base ad n c := by
  obtain ⟨hl, h2⟩ := h
  rcases h2 with ⟨e, e0⟩ | ⟨g, cap, cur, e, hb, hg, hn, hcap, hcs, ht⟩
  · exact ⟨none, 0, by rw [e, e0], by omega, .inl e0⟩
  · have hlen := intR_len c n
    have hsz : n ≤ cur.size := by
      have := congrArg List.length ht
      rw [List.length_take, hlen, Array.length_toList] at this
      omega
    refine ⟨_, cap, e, hn, .inr ⟨g, cur, rfl, hb, hg, hsz, fun j hj => ?_⟩⟩
    have cell : ∀ o, o < n → cur[o]? = (intR c n)[o]? := fun o ho => by
      rw [← ht, List.getElem?_take, if_pos (by omega)]
      simp
    rw [cell _ (by omega)]; exact intR_get c n j hj
theorem madeI {w : World} {g base : Nat} (h : CB w g #[] 3) (hb : base ≤ g) : w.ownsRow base 3 1 (.slice (some ⟨g, 0, none⟩) 0 0) 0 [] := ⟨rfl, .inr ⟨g, 0, #[], rfl, hb, h, Nat.le_refl _, Nat.zero_le _, rfl, rfl⟩⟩
/-- A row of whole numbers in a block of its own between lo and hi. -/
def OwnMI (w : World) (lo hi : Nat) (ad : Option Addr) (n : Nat) (c : Nat → Int) : Prop := n = 0 ∨ ∃ g cs, ad = some ⟨g, 0, none⟩ ∧ lo ≤ g ∧ g < hi ∧ CB w g cs 3 ∧ n ≤ cs.size ∧ ∀ j, j < n → cs[j]? = some (.int .i64 (c j))
section
variable {w w' : World} {lo hi : Nat} {ad : Option Addr} {n : Nat} {c : Nat → Int}
theorem ownMI_of (h : OwnI w lo ad n c) : OwnMI w lo w.heap.size ad n c := by
  rcases h with h | ⟨g, cs, h1, h2, h3, h4⟩
  · exact .inl h
  · exact .inr ⟨g, cs, h1, h2, h3.lt, h3, h4⟩
theorem OwnMI.lower (h : OwnMI w lo hi ad n c) {l : Nat} (hl : l ≤ lo) : OwnMI w l hi ad n c := by
  rcases h with h | ⟨g, cs, h1, h2, h3⟩
  · exact .inl h
  · exact .inr ⟨g, cs, h1, by omega, h3⟩
theorem OwnMI.keep (h : OwnMI w lo hi ad n c) (hk : ∀ g, lo ≤ g → g < hi → g < w.heap.size → w'.heap[g]? = w.heap[g]?) : OwnMI w' lo hi ad n c := by
  rcases h with h | ⟨g, cs, h1, h2, h3, h4, h5⟩
  · exact .inl h
  · exact .inr ⟨g, cs, h1, h2, h3, h4.keep (hk g h2 h3 h4.lt), h5⟩
theorem OwnMI.below (h : OwnMI w lo hi ad n c) (b : Below w.heap.size w w') : OwnMI w' lo hi ad n c := h.keep (fun g _ _ hg => b.block g hg)
theorem OwnMI.row (h : OwnMI w lo hi ad n c) : IR w ad n c := by
  rcases h with h | ⟨g, cs, rfl, h2, h3, h4, h5, h6⟩
  · exact .inl h
  · exact IR.of_block h4 n c h6
end
theorem markI_no (ad : Option Addr) (cap : Nat) (s0 : Int) (w : World) :
    Calls Try.prog 39 #[.slice ad 0 cap, .int .i64 s0] w fun e w' => e = .returned (.int .i64 s0) ∧ w' = w := by
  go_enter Try.func39, Try.ntmps39
  go_wp2
  refine wp_loop_rounds 1 ?_
  rw [rounds_succ]
  go_wp2
  go_returns
  exact ⟨rfl, rfl⟩
theorem markMI (lo hi : Nat) (ad : Option Addr) (n cap : Nat) (c : Nat → Int) (w : World) (h : (n : Int) ≤ 1048576) (H : OwnMI w lo hi ad n c) :
    Calls Try.prog 39 #[.slice ad n cap, .int .i64 1] w fun e w' => e = .returned (.int .i64 (1 + (n : Int))) ∧ IR w' ad n (fun j => (j : Int) + 1) ∧ (∀ y, y < w.heap.size → (y < lo ∨ hi ≤ y) → w'.heap[y]? = w.heap[y]?) ∧ Below lo w w' := by
  rcases H with rfl | ⟨g, cs, rfl, h2, h3, h4, h5, h6⟩
  · refine (markI_no ad cap 1 w).mono ?_
    rintro e w' ⟨rfl, rfl⟩
    exact ⟨by simp, .inl rfl, fun _ _ _ => rfl, Below.refl _ _⟩
  · refine (markI_is g n cap 1 cs w h (by omega) (by omega) h4 h5).mono ?_
    rintro e w' ⟨rfl, hr, kk, b⟩
    exact ⟨rfl, hr, fun y hy hq => kk y hy (by omega), b.mono h2⟩
end Go.Proofs.Ytogolmbgboihdaa
