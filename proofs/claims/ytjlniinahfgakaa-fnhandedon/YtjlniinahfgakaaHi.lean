/- One drawn rule, spoiled: no lists at all; one place more. -/
import Derived.Test.YtjlniinahfgakaaHh
namespace Go.Proofs.Ytjlniinahfgakaa
open Go.ChangeShapes Go.WideShapes Go.ChangeAt Go.RowKit
set_option linter.unusedVariables false
set_option linter.unusedSimpArgs false

section
variable {a W W1 W3 : World} {b : Nat} {g : Nat} {k rc : Nat} {f : Nat → Int} {z y : Nat → Nat → Int} {N bt ct bw cw : Nat → Nat}
theorem DQ.apart (h : DQ a b (.slice (some ⟨g, 0, none⟩) k rc) k f z y N bt ct bw cw W) {j0 : Nat} (hj : j0 < k) : ∀ j, j < k → j ≠ j0 → bt j ≠ bt j0 ∧ bw j ≠ bt j0 ∧ bt j ≠ bw j0 ∧ bw j ≠ bw j0 := fun j hj2 e => by
  rcases Nat.lt_or_ge j j0 with q | q
  · have := h.inc j j0 q hj; omega
  · have := h.inc j0 j (by omega) hj2; omega
theorem DQ.spoilCut0 (h : DQ a b (.slice (some ⟨g, 0, none⟩) k rc) k f z y N bt ct bw cw W) {j0 : Nat} (hj : j0 < k) (h0 : N j0 - 1 = 0) (ta : Option Addr) (c1 : Nat) : RU (W.setCell ⟨g, j0 * 3 + 1, none⟩ (.slice ta (N j0 - 1) c1)) (some ⟨g, 0, none⟩) k (ifk j0 ⟨f j0, N j0 - 1, z j0, N j0, y j0⟩ (dqR f z y N)) := by
  obtain ⟨g', cs, e, hC, hs, hag, hne, hcs⟩ := h.block (by omega)
  cases e
  obtain ⟨q1, q2, q3⟩ := hcs j0 hj
  refine h.put hj hcs (hC.set (j0 * 3 + 1) _) (fun i hi => get_set_ne (by omega)) (fun j hj2 _ => ⟨heap_set (fun e => (hne j hj2).1 e.symm), heap_set (fun e => (hne j hj2).2 e.symm)⟩) ⟨f j0, N j0 - 1, z j0, N j0, y j0⟩ _ _ _ _ ((get_set_ne (by omega)).trans q1) (get_set_eq (by omega)) ((get_set_ne (by omega)).trans q3) (.inl h0) ?_ (by show N j0 - 1 ≤ c1; omega)
  exact (row_IR (h.u j0 hj) (fun i hi => intL_get hi)).other _ (fun e => (hne j0 hj).2 e.symm)
theorem DQ.spoilNone (h : DQ a b (.slice (some ⟨g, 0, none⟩) k rc) k f z y N bt ct bw cw W) {j0 : Nat} (hj : j0 < k) (o1 o2 : Obj) (ta wa : Option Addr) (c1 c2 : Nat) : RU ((((W.alloc o1).setCell ⟨g, j0 * 3 + 1, none⟩ (.slice ta 0 c1)).alloc o2).setCell ⟨g, j0 * 3 + 2, none⟩ (.slice wa 0 c2)) (some ⟨g, 0, none⟩) k (ifk j0 ⟨f j0, 0, z j0, 0, y j0⟩ (dqR f z y N)) ∧ Turns b a ((((W.alloc o1).setCell ⟨g, j0 * 3 + 1, none⟩ (.slice ta 0 c1)).alloc o2).setCell ⟨g, j0 * 3 + 2, none⟩ (.slice wa 0 c2)) := by
  obtain ⟨g', cs, e, hC, hs, hag, hne, hcs⟩ := h.block (by omega)
  cases e
  obtain ⟨q1, q2, q3⟩ := hcs j0 hj
  have old : ∀ x, x < W.heap.size → x ≠ g → ((((W.alloc o1).setCell ⟨g, j0 * 3 + 1, none⟩ (.slice ta 0 c1)).alloc o2).setCell ⟨g, j0 * 3 + 2, none⟩ (.slice wa 0 c2)).heap[x]? = W.heap[x]? := fun x hx hg => (heap_set hg).trans ((alloc_old _ o2 (by simp [World.setCell]; omega)).trans ((heap_set hg).trans (alloc_old W o1 hx)))
  refine ⟨h.put hj hcs ((((hC.alloc o1).set (j0 * 3 + 1) _).alloc o2).set (j0 * 3 + 2) _) (fun i hi => (get_set_ne (by omega)).trans (get_set_ne (by omega))) (fun j hj2 _ => ⟨old _ ((h.t j hj2).lt (bt j) rfl).2 (fun e => (hne j hj2).1 e.symm), old _ ((h.u j hj2).lt (bw j) rfl).2 (fun e => (hne j hj2).2 e.symm)⟩) ⟨f j0, 0, z j0, 0, y j0⟩ ta wa c1 c2 (((get_set_ne (by omega)).trans (get_set_ne (by omega))).trans q1) ((get_set_ne (by omega)).trans (get_set_eq (by omega))) (get_set_eq (by simp; omega)) (.inl rfl) (.inl rfl) (Nat.zero_le _), ?_⟩
  exact (((h.trn.alloc o1).set2 _ hag).alloc o2).set2 _ hag
theorem DQ.spoilNone2 (h : DQ a b (.slice (some ⟨g, 0, none⟩) k rc) k f z y N bt ct bw cw W) {j0 : Nat} (hj : j0 < k) (o1 o2 : Obj) (ta wa : Option Addr) (c1 c2 : Nat) : RU ((((W.setCell ⟨g, j0 * 3 + 1, none⟩ (.slice ta 0 c1)).setCell ⟨g, j0 * 3 + 2, none⟩ (.slice wa 0 c2)).alloc o1).alloc o2) (some ⟨g, 0, none⟩) k (ifk j0 ⟨f j0, 0, z j0, 0, y j0⟩ (dqR f z y N)) ∧ Turns b a ((((W.setCell ⟨g, j0 * 3 + 1, none⟩ (.slice ta 0 c1)).setCell ⟨g, j0 * 3 + 2, none⟩ (.slice wa 0 c2)).alloc o1).alloc o2) := by
  obtain ⟨g', cs, e, hC, hs, hag, hne, hcs⟩ := h.block (by omega)
  cases e
  obtain ⟨q1, q2, q3⟩ := hcs j0 hj
  have r : RU ((W.setCell ⟨g, j0 * 3 + 1, none⟩ (.slice ta 0 c1)).setCell ⟨g, j0 * 3 + 2, none⟩ (.slice wa 0 c2)) (some ⟨g, 0, none⟩) k (ifk j0 ⟨f j0, 0, z j0, 0, y j0⟩ (dqR f z y N)) := h.put hj hcs ((hC.set (j0 * 3 + 1) _).set (j0 * 3 + 2) _) (fun i hi => (get_set_ne (by omega)).trans (get_set_ne (by omega))) (fun j hj2 _ => ⟨(heap_set (fun e => (hne j hj2).1 e.symm)).trans (heap_set (fun e => (hne j hj2).1 e.symm)), (heap_set (fun e => (hne j hj2).2 e.symm)).trans (heap_set (fun e => (hne j hj2).2 e.symm))⟩) ⟨f j0, 0, z j0, 0, y j0⟩ ta wa c1 c2 (((get_set_ne (by omega)).trans (get_set_ne (by omega))).trans q1) ((get_set_ne (by omega)).trans (get_set_eq (by omega))) (get_set_eq (by simp; omega)) (.inl rfl) (.inl rfl) (Nat.zero_le _)
  exact ⟨(r.below ((Below.refl _ _).alloc (Nat.le_refl _) _)).below ((Below.refl _ _).alloc (Nat.le_refl _) _), (((h.trn.set2 _ hag).set2 _ hag).alloc o1).alloc o2⟩
theorem DQ.spoilMore (h : DQ a b (.slice (some ⟨g, 0, none⟩) k rc) k f z y N bt ct bw cw W) {j0 : Nat} (hj : j0 < k) {o1 o2 : Obj} {ta wa : Option Addr} {c1 c2 : Nat} {p1 p2 : Int}
    (n1 : W1.ownsRow a.heap.size 3 1 (.slice ta (N j0 + 1) c1) (N j0 + 1) (intL (z j0) (N j0) ++ [.int .i64 p1])) (g1 : (W.alloc o1).grownBy W1 (some (bt j0))) (l1 : (Value.slice ta (N j0 + 1) c1).ownBlock = some (bt j0) ∨ (Value.slice ta (N j0 + 1) c1).ownBlock = some (W.alloc o1).heap.size)
    (n2 : W3.ownsRow a.heap.size 3 1 (.slice wa (N j0 + 1) c2) (N j0 + 1) (intL (y j0) (N j0) ++ [.int .i64 p2])) (g2 : ((W1.setCell ⟨g, j0 * 3 + 1, none⟩ (.slice ta (N j0 + 1) c1)).alloc o2).grownBy W3 (some (bw j0))) :
    RU (W3.setCell ⟨g, j0 * 3 + 2, none⟩ (.slice wa (N j0 + 1) c2)) (some ⟨g, 0, none⟩) k (ifk j0 ⟨f j0, N j0 + 1, upd (z j0) (N j0) p1, N j0 + 1, upd (y j0) (N j0) p2⟩ (dqR f z y N)) ∧ Turns b a (W3.setCell ⟨g, j0 * 3 + 2, none⟩ (.slice wa (N j0 + 1) c2)) := by
  obtain ⟨g', cs, e, hC, hs, hag, hne, hcs⟩ := h.block (by omega)
  cases e
  obtain ⟨q1, q2, q3⟩ := hcs j0 hj
  have ht0 := (h.t j0 hj).lt (bt j0) rfl
  have hu0 := (h.u j0 hj).lt (bw j0) rfl
  have hgl := hC.lt
  have s1 := g1.size
  have s2 := g2.size
  simp [World.setCell] at s1 s2
  have hn0 := hne j0 hj
  have k1 : ∀ x, x < W.heap.size → x ≠ bt j0 → W1.heap[x]? = W.heap[x]? := fun x hx hb => (g1.block x (by simp; omega) (by simpa using hb)).trans (alloc_old W o1 hx)
  have k2 : ∀ x, x < W1.heap.size → x ≠ g → x ≠ bw j0 → W3.heap[x]? = W1.heap[x]? := fun x hx hg hb => (g2.block x (by simp [World.setCell]; omega) (by simpa using hb)).trans ((alloc_old _ o2 (by simpa [World.setCell] using hx)).trans (heap_set hg))
  have C1 : CB W1 g cs 36 := hC.keep (k1 g hgl hn0.1)
  have C3 : CB W3 g (cs.setIfInBounds (j0 * 3 + 1) (.slice ta (N j0 + 1) c1)) 36 := (C1.set (j0 * 3 + 1) _).keep ((g2.block g (by simp [World.setCell]; omega) (by simpa using hn0.2)).trans (alloc_old _ o2 (by simp [World.setCell]; omega)))
  have e1 := C1.ne n1 (by decide)
  have e3 := C3.ne n2 (by decide)
  have hap := h.apart hj
  have hne0 := h.ne j0 hj
  refine ⟨h.put hj hcs (C3.set (j0 * 3 + 2) _) (fun i hi => (get_set_ne (by omega)).trans (get_set_ne (by omega))) (fun j hj2 e => ?_) ⟨f j0, N j0 + 1, upd (z j0) (N j0) p1, N j0 + 1, upd (y j0) (N j0) p2⟩ ta wa c1 c2 (((get_set_ne (by omega)).trans (get_set_ne (by omega))).trans q1) ((get_set_ne (by omega)).trans (get_set_eq (by omega))) (get_set_eq (by simp; omega)) ?_ ?_ (own_cap n1), ?_⟩
  · obtain ⟨p1', p2', p3', p4'⟩ := hap j hj2 e
    have t1 := ((h.t j hj2).lt (bt j) rfl).2
    have t2 := ((h.u j hj2).lt (bw j) rfl).2
    have nn := hne j hj2
    exact ⟨(heap_set (fun q => nn.1 q.symm)).trans ((k2 _ (by omega) (fun q => nn.1 q.symm) p3').trans (k1 _ t1 p1')), (heap_set (fun q => nn.2 q.symm)).trans ((k2 _ (by omega) (fun q => nn.2 q.symm) p4').trans (k1 _ t2 p2'))⟩
  · have : (W3.setCell ⟨g, j0 * 3 + 2, none⟩ (.slice wa (N j0 + 1) c2)).ownsRow a.heap.size 3 1 (.slice ta (N j0 + 1) c1) (N j0 + 1) (intL (z j0) (N j0) ++ [.int .i64 p1]) := row_block n1 (fun x hx => by
      have hxg : x ≠ g := fun q => e1 (by rw [hx, q])
      refine (heap_set hxg).trans (k2 x (n1.lt x hx).2 hxg ?_)
      rcases l1 with l | l
      · rw [l] at hx; simp at hx; omega
      · rw [l] at hx; simp at hx; omega)
    rw [← intL_snoc] at this
    exact row_IR this (fun i hi => intL_get hi)
  · have : (W3.setCell ⟨g, j0 * 3 + 2, none⟩ (.slice wa (N j0 + 1) c2)).ownsRow a.heap.size 3 1 (.slice wa (N j0 + 1) c2) (N j0 + 1) (intL (y j0) (N j0) ++ [.int .i64 p2]) := row_block n2 (fun x hx => heap_set (fun q => e3 (by rw [hx, q])))
    rw [← intL_snoc] at this
    exact row_IR this (fun i hi => intL_get hi)
  · exact ((((h.trn.alloc o1).grown g1 (fun r e => by cases e; exact ht0.1)).set2 _ hag |>.alloc o2).grown g2 (fun r e => by cases e; exact hu0.1)).set2 _ hag
end
end Go.Proofs.Ytjlniinahfgakaa
