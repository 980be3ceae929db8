/- One drawn rule, spoiled. -/
import Derived.Test.YtjlniinahfgakaaHg
namespace Go.Proofs.Ytjlniinahfgakaa
open Go.ChangeShapes Go.WideShapes Go.ChangeAt Go.RowKit
set_option linter.unusedVariables false
set_option linter.unusedSimpArgs false

section
variable {a W W' : World} {b : Nat} {g : Nat} {k rc : Nat} {f : Nat → Int} {z y : Nat → Nat → Int} {N bt ct bw cw : Nat → Nat}
/-- One rule put anew, the others as they were. -/
theorem DQ.put (h : DQ a b (.slice (some ⟨g, 0, none⟩) k rc) k f z y N bt ct bw cw W) {j0 : Nat} (hj : j0 < k) {cs cs' : Array Value} (hcs : ∀ j, j < k → cs[j * 3]? = some (.int .i64 (f j)) ∧ cs[j * 3 + 1]? = some (tvs bt ct N j) ∧ cs[j * 3 + 2]? = some (tvs bw cw N j)) (hC : CB W' g cs' 36) (ho : ∀ i, i < j0 * 3 ∨ j0 * 3 + 3 ≤ i → cs'[i]? = cs[i]?)
    (hr : ∀ j, j < k → j ≠ j0 → W'.heap[bt j]? = W.heap[bt j]? ∧ W'.heap[bw j]? = W.heap[bw j]?) (r : R3) (ta wa : Option Addr) (tc wc : Nat) (n0 : cs'[j0 * 3]? = some (.int .i64 r.frm)) (n1 : cs'[j0 * 3 + 1]? = some (.slice ta r.tn tc)) (n2 : cs'[j0 * 3 + 2]? = some (.slice wa r.wn wc)) (i1 : IR W' ta r.tn r.to) (i2 : IR W' wa r.wn r.wt) (hc : r.tn ≤ tc) :
    RU W' (some ⟨g, 0, none⟩) k (ifk j0 r (dqR f z y N)) := by
  refine RU.of hC (fun j hj2 => ?_)
  by_cases e : j = j0
  · subst e
    rw [ifk_eq]
    exact ⟨n0, ta, tc, wa, wc, n1, n2, i1, i2, hc⟩
  · rw [ifk_ne _ _ e]
    obtain ⟨q1, q2, q3⟩ := hcs j hj2
    obtain ⟨k1, k2⟩ := hr j hj2 e
    refine ⟨by rw [ho _ (by omega)]; exact q1, _, _, _, _, by rw [ho _ (by omega)]; exact q2, by rw [ho _ (by omega)]; exact q3, row_IR (row_block (h.t j hj2) (fun q hq => ?_)) (fun i hi => intL_get hi), row_IR (row_block (h.u j hj2) (fun q hq => ?_)) (fun i hi => intL_get hi), own_cap (h.t j hj2)⟩
    · simp only [tvs, Value.ownBlock, Option.some.injEq] at hq; subst hq; exact k1
    · simp only [tvs, Value.ownBlock, Option.some.injEq] at hq; subst hq; exact k2
/-- Another place that gives. -/
theorem DQ.spoilFrom (h : DQ a b (.slice (some ⟨g, 0, none⟩) k rc) k f z y N bt ct bw cw W) {j0 : Nat} (hj : j0 < k) (p : Int) : RU (W.setCell ⟨g, j0 * 3, none⟩ (.int .i64 p)) (some ⟨g, 0, none⟩) k (ifk j0 ⟨p, N j0, z j0, N j0, y j0⟩ (dqR f z y N)) := by
  obtain ⟨g', cs, e, hC, hs, hag, hne, hcs⟩ := h.block (by omega)
  cases e
  obtain ⟨q1, q2, q3⟩ := hcs j0 hj
  refine h.put hj hcs (hC.set (j0 * 3) (.int .i64 p)) (fun i hi => get_set_ne (by omega)) (fun j hj2 _ => ⟨heap_set (fun e => (hne j hj2).1 e.symm), heap_set (fun e => (hne j hj2).2 e.symm)⟩) ⟨p, N j0, z j0, N j0, y j0⟩ _ _ _ _ (get_set_eq (by omega)) ((get_set_ne (by omega)).trans q2) ((get_set_ne (by omega)).trans q3) ?_ ?_ (own_cap (h.t j0 hj))
  · exact (row_IR (h.t j0 hj) (fun i hi => intL_get hi)).other _ (fun e => (hne j0 hj).1 e.symm)
  · exact (row_IR (h.u j0 hj) (fun i hi => intL_get hi)).other _ (fun e => (hne j0 hj).2 e.symm)
/-- Its first place cut off. -/
theorem DQ.spoilCut (h : DQ a b (.slice (some ⟨g, 0, none⟩) k rc) k f z y N bt ct bw cw W) {j0 : Nat} (hj : j0 < k) : RU (W.setCell ⟨g, j0 * 3 + 1, none⟩ (.slice (some ⟨bt j0, 1, none⟩) (N j0 - 1) (ct j0 - 1))) (some ⟨g, 0, none⟩) k (ifk j0 ⟨f j0, N j0 - 1, fun i => z j0 (i + 1), N j0, y j0⟩ (dqR f z y N)) := by
  obtain ⟨g', cs, e, hC, hs, hag, hne, hcs⟩ := h.block (by omega)
  cases e
  obtain ⟨q1, q2, q3⟩ := hcs j0 hj
  have hp := h.pos j0 hj
  have hcp := own_cap (h.t j0 hj)
  refine h.put hj hcs (hC.set (j0 * 3 + 1) _) (fun i hi => get_set_ne (by omega)) (fun j hj2 _ => ⟨heap_set (fun e => (hne j hj2).1 e.symm), heap_set (fun e => (hne j hj2).2 e.symm)⟩) ⟨f j0, N j0 - 1, fun i => z j0 (i + 1), N j0, y j0⟩ _ _ _ _ ((get_set_ne (by omega)).trans q1) (get_set_eq (by omega)) ((get_set_ne (by omega)).trans q3) ?_ ?_ (by show N j0 - 1 ≤ ct j0 - 1; omega)
  · have hI : IR W (some ⟨bt j0, 0, none⟩) (N j0) (z j0) := row_IR (h.t j0 hj) (fun i hi => intL_get hi)
    refine .inr ⟨bt j0, 1, rfl, by simpa [World.setCell] using ((h.t j0 hj).lt (bt j0) rfl).2, fun i hi => ?_⟩
    have := (hI.other (c := g) (o := j0 * 3 + 1) (.slice (some ⟨bt j0, 1, none⟩) (N j0 - 1) (ct j0 - 1)) (fun e => (hne j0 hj).1 e.symm)).cell (j := i + 1) (by have : i < N j0 - 1 := hi; omega)
    rw [show 0 + (i + 1) = 1 + i by omega] at this
    exact this
  · exact (row_IR (h.u j0 hj) (fun i hi => intL_get hi)).other _ (fun e => (hne j0 hj).2 e.symm)
/-- Its first place another one. -/
theorem DQ.spoilTo (h : DQ a b (.slice (some ⟨g, 0, none⟩) k rc) k f z y N bt ct bw cw W) {j0 : Nat} (hj : j0 < k) (p : Int) : RU (W.setCell ⟨bt j0, 0, none⟩ (.int .i64 p)) (some ⟨g, 0, none⟩) k (ifk j0 ⟨f j0, N j0, upd (z j0) 0 p, N j0, y j0⟩ (dqR f z y N)) := by
  obtain ⟨g', cs, e, hC, hs, hag, hne, hcs⟩ := h.block (by omega)
  cases e
  obtain ⟨q1, q2, q3⟩ := hcs j0 hj
  have hp := h.pos j0 hj
  have hap : ∀ j, j < k → j ≠ j0 → bt j ≠ bt j0 ∧ bw j ≠ bt j0 := fun j hj2 e => by
    rcases Nat.lt_or_ge j j0 with q | q
    · have := h.inc j j0 q hj; omega
    · have := h.inc j0 j (by omega) hj2; omega
  refine h.put hj hcs (hC.other _ (hne j0 hj).1) (fun i hi => rfl) (fun j hj2 e => ⟨heap_set (hap j hj2 e).1, heap_set (hap j hj2 e).2⟩) ⟨f j0, N j0, upd (z j0) 0 p, N j0, y j0⟩ _ _ _ _ q1 q2 q3 ?_ ?_ (own_cap (h.t j0 hj))
  · have := ((h.t j0 hj).stored 0 (.int .i64 p)).1
    rw [intL_set p (by omega)] at this
    exact row_IR this (fun i hi => intL_get hi)
  · exact (row_IR (h.u j0 hj) (fun i hi => intL_get hi)).other _ (fun e => h.ne j0 hj e.symm)
end
end Go.Proofs.Ytjlniinahfgakaa
