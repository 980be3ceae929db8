/- Both determinants are one number. -/
import Derived.Test.YtjlniinahfgakaaMq
namespace Go.Proofs.Ytjlniinahfgakaa
open Go Go.ChangeShapes Go.WideShapes Go.ChangeAt Go.RowKit
set_option linter.unusedVariables false
set_option linter.unusedSimpArgs false

theorem dl_dt {n : Nat} {f : Nat → Nat → Int} (h0 : 0 < n) (h3 : n ≤ 3) (h1 : ∀ i j, n ≤ i → f i j = if i = j then 1 else 0) (h2 : ∀ i j, i < n → n ≤ j → f i j = 0) : dl f 3 (oF false false false) = dt n f := by
  rcases (by omega : n = 1 ∨ n = 2 ∨ n = 3) with rfl | rfl | rfl
  · have a01 := h2 0 1 (by omega) (by omega)
    have a02 := h2 0 2 (by omega) (by omega)
    have a10 := h1 1 0 (by omega)
    have a11 := h1 1 1 (by omega)
    have a12 := h1 1 2 (by omega)
    have a20 := h1 2 0 (by omega)
    have a21 := h1 2 1 (by omega)
    have a22 := h1 2 2 (by omega)
    simp at a10 a11 a12 a20 a21 a22
    simp [dl, dlS, dt, mnr, updB, oF, a01, a02, a10, a11, a12, a20, a21, a22]
  · have a02 := h2 0 2 (by omega) (by omega)
    have a12 := h2 1 2 (by omega) (by omega)
    have a20 := h1 2 0 (by omega)
    have a21 := h1 2 1 (by omega)
    have a22 := h1 2 2 (by omega)
    simp at a20 a21 a22
    simp [dl, dlS, dt, mnr, updB, oF, a02, a12, a20, a21, a22]
  · simp [dl, dlS, dt, mnr, updB, oF]
theorem mF_out {n : Nat} (z : Nat → Nat → Int) : (∀ i j, n ≤ i → mF n z i j = if i = j then 1 else 0) ∧ (∀ i j, i < n → n ≤ j → mF n z i j = 0) :=
  ⟨fun i j h => by unfold mF; rw [if_neg (by omega)], fun i j h1 h2 => by unfold mF; rw [if_pos h1, if_neg (by omega), if_neg (by omega)]⟩
theorem pC_out {n s p : Nat} (z : Nat → Nat → Int) (hs : s < n) : (∀ i j, n ≤ i → pC (mF n z) s (cF n z p) i j = if i = j then 1 else 0) ∧ (∀ i j, i < n → n ≤ j → pC (mF n z) s (cF n z p) i j = 0) :=
  ⟨fun i j h => by
    unfold pC
    by_cases e : j = s
    · rw [if_pos e, if_neg (by omega)]; unfold cF; rw [if_neg (by omega)]
    · rw [if_neg e]; exact (mF_out z).1 i j h, fun i j h1 h2 => by
    unfold pC; rw [if_neg (by omega)]; exact (mF_out z).2 i j h1 h2⟩
theorem mF_det {n : Nat} (z : Nat → Nat → Int) (h0 : 0 < n) (h3 : n ≤ 3) : dt n (mF n z) = dl (mF n z) 3 (oF false false false) := (dl_dt h0 h3 (mF_out z).1 (mF_out z).2).symm
theorem wtF_det {n s : Nat} (z : Nat → Nat → Int) (k : Nat) (hs : s < n) (h3 : n ≤ 3) : dt n (pC (mF n z) s (cF n z (n + k))) = wtF n z s k := (dl_dt (by omega) h3 (pC_out z hs).1 (pC_out z hs).2).symm
theorem mF_bd {n : Nat} {z : Nat → Nat → Int} (hz : ∀ i j, i < n → j < n → 0 ≤ z i j ∧ z i j ≤ 100) (i j : Nat) : -100 ≤ mF n z i j ∧ mF n z i j ≤ 100 := by
  unfold mF
  split
  · split
    · omega
    · split
      · have := hz i j (by assumption) (by assumption); omega
      · omega
  · split <;> omega
theorem pC_bd {n N s p : Nat} {z : Nat → Nat → Int} (hz : ∀ i j, i < n → j < N → 0 ≤ z i j ∧ z i j ≤ 100) (hn : n ≤ N) (hp : p < N) (i j : Nat) : -100 ≤ pC (mF n z) s (cF n z p) i j ∧ pC (mF n z) s (cF n z p) i j ≤ 100 := by
  unfold pC
  split
  · unfold cF
    split
    · have := hz i p (by assumption) hp; omega
    · omega
  · exact mF_bd (fun i j h1 h2 => hz i j h1 (by omega)) i j
theorem row_putI {w : World} {base g n cp j : Nat} {o : Nat → Int} (h : w.ownsRow base 3 1 (.slice (some ⟨g, 0, none⟩) n cp) n (intL o n)) (hj : j < n) (x : Int) : w.cell? ⟨g, j, none⟩ = some (.int .i64 (o j)) ∧ w.frozen? ⟨g, j, none⟩ = false ∧ (w.setCell ⟨g, j, none⟩ (.int .i64 x)).ownsRow base 3 1 (.slice (some ⟨g, 0, none⟩) n cp) n (intL (upd o j x) n) := by
  obtain ⟨g', cap', cur, e, hb, hc, hs⟩ := row_block_of h (by omega)
  simp only [Value.slice.injEq, Option.some.injEq, Addr.mk.injEq] at e
  obtain ⟨⟨rfl, _⟩, _, rfl⟩ := e
  obtain ⟨g2, c2, e2, _, _, hcell⟩ := row_get h hj
  simp only [Value.slice.injEq, Option.some.injEq, Addr.mk.injEq] at e2
  obtain ⟨⟨rfl, _⟩, _, rfl⟩ := e2
  refine ⟨(hcell j hj).trans (intL_get hj), hc.fr j, ?_⟩
  rw [← intL_set x hj]
  exact (h.stored j (.int .i64 x)).1
end Go.Proofs.Ytjlniinahfgakaa
