/- Rules that are drawn, as a list of rules. -/
import Derived.Test.YtjlniinahfgakaaHe
namespace Go.Proofs.Ytjlniinahfgakaa
open Go.ChangeShapes Go.WideShapes Go.ChangeAt Go.RowKit
set_option linter.unusedVariables false
set_option linter.unusedSimpArgs false

theorem own_cap {W : World} {base n cap : Nat} {ad : Option Addr} {xs : List Value} (h : W.ownsRow base 3 1 (.slice ad n cap) n xs) : n ≤ cap := by
  rcases h.2 with ⟨e, h0⟩ | ⟨g, c1, cur, e, _, _, h1, _⟩
  · omega
  · simp only [Value.slice.injEq] at e; omega
/-- The rules' block, written out. -/
theorem DQ.block {a W : World} {b : Nat} {ra : Option Addr} {k rc : Nat} {f : Nat → Int} {z y : Nat → Nat → Int} {N bt ct bw cw : Nat → Nat} (h : DQ a b (.slice ra k rc) k f z y N bt ct bw cw W) (hk : 0 < k) : ∃ g cs, ra = some ⟨g, 0, none⟩ ∧ CB W g cs 36 ∧ k * 3 ≤ cs.size ∧ (a.heap.size ≤ g) ∧ (∀ j, j < k → g ≠ bt j ∧ g ≠ bw j) ∧ ∀ j, j < k → cs[j * 3]? = some (.int .i64 (f j)) ∧ cs[j * 3 + 1]? = some (tvs bt ct N j) ∧ cs[j * 3 + 2]? = some (tvs bw cw N j) := by
  rcases h.row.2 with ⟨e, h0⟩ | ⟨g, c1, cur, e, hb, hC, h1, h2, h3, h4⟩
  · omega
  · simp only [Value.slice.injEq] at e
    obtain ⟨rfl, _, rfl⟩ := e
    refine ⟨g, cur, rfl, hC, by omega, hb, fun j hj => ⟨fun e => own_ne (h.t j hj) h.row (g := bt j) rfl (by rw [← e]; rfl), fun e => own_ne (h.u j hj) h.row (g := bw j) rfl (by rw [← e]; rfl)⟩, fun j hj => ?_⟩
    obtain ⟨q1, q2, q3⟩ := tri_get (f := f) (t := tvs bt ct N) (u := tvs bw cw N) hj
    rw [← h4] at q1 q2 q3
    rw [List.getElem?_take, if_pos (by omega)] at q1 q2 q3
    exact ⟨by simpa using q1, by simpa using q2, by simpa using q3⟩
/-- A block of rules whose lists lie somewhere. -/
theorem RU.of {W : World} {g k : Nat} {cs : Array Value} {rs : Nat → R3} (hC : CB W g cs 36) (h : ∀ j, j < k → cs[j * 3]? = some (.int .i64 (rs j).frm) ∧ ∃ ta tc wa wc, cs[j * 3 + 1]? = some (.slice ta (rs j).tn tc) ∧ cs[j * 3 + 2]? = some (.slice wa (rs j).wn wc) ∧ IR W ta (rs j).tn (rs j).to ∧ IR W wa (rs j).wn (rs j).wt ∧ (rs j).tn ≤ tc) : RU W (some ⟨g, 0, none⟩) k rs := by
  refine .inr ⟨g, 0, rfl, hC.lt, fun j hj => ?_⟩
  obtain ⟨h1, ta, tc, wa, wc, h2, h3, h4, h5, h6⟩ := h j hj
  exact ⟨ta, tc, wa, wc, by rw [Nat.zero_add, hC.cell]; exact h1, by rw [Nat.zero_add, hC.cell]; exact h2, by rw [Nat.zero_add, hC.cell]; exact h3, h4, h5, h6⟩
def dqR (f : Nat → Int) (z y : Nat → Nat → Int) (N : Nat → Nat) (j : Nat) : R3 := ⟨f j, N j, z j, N j, y j⟩
theorem DQ.ru {a W : World} {b : Nat} {ra : Option Addr} {k rc : Nat} {f : Nat → Int} {z y : Nat → Nat → Int} {N bt ct bw cw : Nat → Nat} (h : DQ a b (.slice ra k rc) k f z y N bt ct bw cw W) : RU W ra k (dqR f z y N) := by
  by_cases hk : 0 < k
  · obtain ⟨g, cs, rfl, hC, _, _, _, h5⟩ := h.block hk
    refine RU.of hC (fun j hj => ?_)
    obtain ⟨q1, q2, q3⟩ := h5 j hj
    exact ⟨q1, _, _, _, _, q2, q3, row_IR (h.t j hj) (fun i hi => intL_get hi), row_IR (h.u j hj) (fun i hi => intL_get hi), own_cap (h.t j hj)⟩
  · exact .inl (by omega)
end Go.Proofs.Ytjlniinahfgakaa
