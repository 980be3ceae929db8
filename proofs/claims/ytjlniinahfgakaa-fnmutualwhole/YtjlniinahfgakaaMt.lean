/- What is handed on all at once: plain, and what stands by. -/
import Derived.Test.YtjlniinahfgakaaMu
import Derived.Test.YtjlniinahfgakaaHo
namespace Go.Proofs.Ytjlniinahfgakaa
open Go Go.ChangeShapes Go.WideShapes Go.ChangeAt Go.RowKit
set_option linter.unusedVariables false
set_option linter.unusedSimpArgs false

set_option maxRecDepth 100000 in
theorem infoS : ∃ i, Try.prog.info? 24 = some i ∧ i.zero = some (.slice none 0 0) ∧ i.size = 1 ∧ i.bytes = 24 := by
  obtain ⟨i0, hi⟩ : ∃ i, Try.prog.info? 24 = some i := ⟨_, rfl⟩
  have hz0 : i0.zero = some (.slice none 0 0) := by
    have : (Try.prog.info? 24).bind (·.zero) = some (.slice none 0 0) := by kernel_rfl
    rw [hi] at this; exact this
  have hz1 : i0.size = 1 := by
    have : (Try.prog.info? 24).map (·.size) = some 1 := by kernel_rfl
    rw [hi] at this; simpa using this
  have hz2 : i0.bytes = 24 := by
    have : (Try.prog.info? 24).map (·.bytes) = some 24 := by kernel_rfl
    rw [hi] at this; simpa using this
  exact ⟨i0, hi, hz0, hz1, hz2⟩
/-- What came of service i, and to how many places. -/
def cmV (n N : Nat) (z : Nat → Nat → Int) (c : Nat → Int) (i : Nat) : Nat → Int := shV (c i) (N - n) (wtF n z i)
noncomputable def cmN (n N : Nat) (z : Nat → Nat → Int) (c : Nat → Int) (i : Nat) : Nat := shM (c i) (N - n) (wtF n z i)
/-- The first k numbers of v added behind the services. -/
def adC (n : Nat) (c v : Nat → Int) (k : Nat) : Nat → Int := fun p => if n ≤ p ∧ p < n + k then c p + v (p - n) else c p
noncomputable def hC (n N : Nat) (z : Nat → Nat → Int) (c : Nat → Int) : Nat → (Nat → Int)
  | 0 => c
  | i + 1 => upd (adC n (hC n N z c i) (cmV n N z c i) (cmN n N z c i)) i 0
theorem adC_succ (n : Nat) (c v : Nat → Int) (k : Nat) : adC n c v (k + 1) = upd (adC n c v k) (n + k) (c (n + k) + v k) := by
  funext p
  unfold adC upd
  by_cases e : p = n + k
  · subst e; rw [if_pos rfl, if_pos ⟨by omega, by omega⟩, show n + k - n = k by omega]
  · rw [if_neg e]
    (try dsimp only)
    by_cases h : n ≤ p ∧ p < n + k
    · rw [if_pos h, if_pos ⟨h.1, by omega⟩]
    · rw [if_neg h, if_neg (fun q => h ⟨q.1, by omega⟩)]
theorem adC_zero (n : Nat) (c v : Nat → Int) : adC n c v 0 = c := by
  funext p; unfold adC; rw [if_neg (by omega)]
theorem adC_at (n : Nat) (c v : Nat → Int) (k : Nat) : adC n c v k (n + k) = c (n + k) := by unfold adC; rw [if_neg (by omega)]
theorem cmN_le (n N : Nat) (z : Nat → Nat → Int) (c : Nat → Int) (i : Nat) : cmN n N z c i ≤ N - n := by
  unfold cmN shM; split <;> omega
theorem cmV_bd {n N : Nat} {z : Nat → Nat → Int} {c : Nat → Int} {i k : Nat} (hk : k < cmN n N z c i) : -200000000000 ≤ cmV n N z c i k ∧ cmV n N z c i k ≤ 200000000000 := by
  unfold cmN shM at hk
  split at hk
  · exact shV_bd (by assumption) hk
  · omega
theorem hC_bd {n N : Nat} {z : Nat → Nat → Int} {c : Nat → Int} (hn : n ≤ N) (hc : ∀ j, j < N → AmtP (c j)) : ∀ (i p : Nat), p < N → -(100000000000 + 200000000000 * (i : Int)) ≤ hC n N z c i p ∧ hC n N z c i p ≤ 100000000000 + 200000000000 * (i : Int)
  | 0, p, hp => by have := hc p hp; unfold AmtP at this; simp only [hC]; omega
  | i + 1, p, hp => by
    have ih := hC_bd (n := n) (z := z) hn hc i p hp
    simp only [hC]
    unfold upd
    split
    · omega
    · unfold adC
      split
      · have := cmV_bd (n := n) (N := N) (z := z) (c := c) (i := i) (k := p - n) (by omega)
        omega
      · omega
/-- What came so far, in a list of lists. -/
structure CW (w : World) (i : Nat) (cad : Option Addr) (ccap lo : Nat) (vs : List Value) (n N : Nat) (z : Nat → Nat → Int) (c : Nat → Int) (W : World) : Prop where
  row : W.ownsRow w.heap.size 24 1 (.slice cad i ccap) i vs
  el : ∀ q, q < i → ∃ a cp, vs[q]? = some (.slice a (cmN n N z c q) cp) ∧ W.ownsRow lo 3 1 (.slice a (cmN n N z c q) cp) (cmN n N z c q) (intL (cmV n N z c q) (cmN n N z c q))
section
variable {w : World} {i : Nat} {cad : Option Addr} {ccap lo : Nat} {vs : List Value} {n N : Nat} {z : Nat → Nat → Int} {c : Nat → Int} {W W' : World}
theorem CW.below (h : CW w i cad ccap lo vs n N z c W) (b : Below W.heap.size W W') : CW w i cad ccap lo vs n N z c W' :=
  ⟨row_below h.row b, fun q hq => by obtain ⟨a, cp, h1, h2⟩ := h.el q hq; exact ⟨a, cp, h1, row_below h2 b⟩⟩
theorem CW.set (h : CW w i cad ccap lo vs n N z c W) {b o : Nat} {cs : Array Value} {t : TypeId} (v : Value) (hb : CB W b cs t) (ht : t ≠ 24) (hlo : b < lo) : CW w i cad ccap lo vs n N z c (W.setCell ⟨b, o, none⟩ v) :=
  ⟨row_block h.row (fun g hg => heap_set (fun e => hb.ne h.row ht (by rw [← e]; exact hg.symm))), fun q hq => by
    obtain ⟨a, cp, h1, h2⟩ := h.el q hq
    exact ⟨a, cp, h1, row_block h2 (fun g hg => heap_set (by have := (h2.lt g hg).1; omega))⟩⟩
theorem CW.app {a1 : Option Addr} {cp1 : Nat} {cad' : Option Addr} {ccap' : Nat} {o : Obj} (h : CW w i cad ccap lo vs n N z c W) (h1 : W.ownsRow lo 3 1 (.slice a1 (cmN n N z c i) cp1) (cmN n N z c i) (intL (cmV n N z c i) (cmN n N z c i)))
    (hown : W'.ownsRow w.heap.size 24 1 (.slice cad' (i + 1) ccap') (i + 1) (vs ++ [.slice a1 (cmN n N z c i) cp1])) (hg : (W.alloc o).grownBy W' (Value.ownBlock (.slice cad i ccap))) : CW w (i + 1) cad' ccap' lo (vs ++ [.slice a1 (cmN n N z c i) cp1]) n N z c W' := by
  have keep : ∀ {v : Value} {m : Nat} {xs : List Value}, W.ownsRow lo 3 1 v m xs → W'.ownsRow lo 3 1 v m xs := fun {v m xs} hr => by
    have hr2 := row_below hr ((Below.refl W.heap.size W).alloc (Nat.le_refl _) o)
    refine row_block hr2 (fun g hgg => hg.block g (hr2.lt g hgg).2 (fun e => ?_))
    obtain ⟨cur, hcur⟩ := row_cells hr hgg
    exact CB.ne (w := W) hcur h.row (by decide) e
  have hlen : vs.length = i := by have := h.row.1; simpa using this
  refine ⟨hown, fun q hq => ?_⟩
  by_cases e : q = i
  · subst e
    exact ⟨a1, cp1, by rw [List.getElem?_append_right (by omega), hlen]; simp, keep h1⟩
  · obtain ⟨a, cp, g1, g2⟩ := h.el q (by omega)
    exact ⟨a, cp, by rw [List.getElem?_append_left (by omega)]; exact g1, keep g2⟩
theorem CW.sr (h : CW w i cad ccap lo vs n N z c W) : SR W cad i (cmN n N z c) (cmV n N z c) := by
  by_cases h0 : i = 0
  · exact .inl h0
  · obtain ⟨g, cap, e, hlt, _, hc⟩ := row_get h.row (j := 0) (by omega)
    simp only [Value.slice.injEq] at e
    refine .inr ⟨g, 0, e.1, hlt, fun q hq => ?_⟩
    obtain ⟨a, cp, h1, h2⟩ := h.el q hq
    exact ⟨a, cp, by rw [Nat.zero_add, hc q hq]; exact h1, row_IR h2 (fun j hj => intL_get hj)⟩
end
end Go.Proofs.Ytjlniinahfgakaa
