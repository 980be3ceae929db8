/- A drawn chart that may be spoilt. -/
import Derived.Test.YtkplhiahfebmlaaDoorDh
namespace Go.Proofs.YtkplhiahfebmlaaDoor
open Go.ChangeShapes Go.WideShapes Go.ChangeAt Go.RowKit
set_option linter.unusedVariables false
set_option linter.unusedSimpArgs false

theorem flatC_len (l : List C3) : (flatC l).length = l.length * 3 := by
  induction l with
  | nil => rfl
  | cons a t ih => simp only [flatC, List.flatMap_cons, List.length_append, List.length_cons] at *; rw [ih]; simp [C3.cells]; omega
theorem flatC_set : ∀ (l : List C3) (k o : Nat) (u : Value) (x' : C3) (hk : k < l.length) (ho : o < 3) (hx : (l[k].cells).set o u = x'.cells), (flatC l).set (k * 3 + o) u = flatC (l.set k x')
  | [], k, o, u, x', hk, ho, hx => by simp at hk
  | a :: t, 0, o, u, x', hk, ho, hx => by
    simp only [List.getElem_cons_zero] at hx
    simp only [flatC, List.flatMap_cons, List.set_cons_zero, Nat.zero_mul, Nat.zero_add]
    rw [List.set_append_left _ _ (by simp [C3.cells]; omega), hx]
  | a :: t, k + 1, o, u, x', hk, ho, hx => by
    have ih := flatC_set t k o u x' (by simpa using hk) ho (by simpa using hx)
    simp only [flatC, List.flatMap_cons, List.set_cons_succ] at ih ⊢
    rw [List.set_append_right _ _ (by simp [C3.cells]; omega), ← ih]
    congr 2
    simp [C3.cells]; omega

theorem D0.store {w W : World} {b g cap : Nat} {l : List C3} (h : D0 w b (.slice (some ⟨g, 0, none⟩) l.length cap) l W) {k o : Nat} (hk : k < l.length) (ho : o < 3) (u : Value) (x' : C3) (hx : (l[k].cells).set o u = x'.cells) :
    D0 w b (.slice (some ⟨g, 0, none⟩) (l.set k x').length cap) (l.set k x') (W.setCell ⟨g, k * 3 + o, none⟩ u) := by
  have hg := (h.row.lt g rfl).1
  have hlo := h.lo
  obtain ⟨r1, r2⟩ := h.row.stored (k * 3 + o) u
  rw [flatC_set l k o u x' hk ho hx] at r1
  refine ⟨h.cur.low (by simp) (fun x hx => heap_set (by omega)), h.trn.grown r2 (fun j hj => by cases hj; exact hg), ?_, hlo⟩
  rw [List.length_set]
  exact r1

theorem D0.at {w W : World} {b g cap : Nat} {l : List C3} (h : D0 w b (.slice (some ⟨g, 0, none⟩) l.length cap) l W) {k : Nat} (hk : k < l.length) :
    ∃ x : C3, l[k] = x ∧ W.cell? ⟨g, k * 3, none⟩ = some (.string x.code) ∧ W.cell? ⟨g, k * 3 + 1, none⟩ = some (.int .i64 x.places) ∧ W.cell? ⟨g, k * 3 + 2, none⟩ = some (.int .i64 x.step) ∧ W.frozen? ⟨g, k * 3, none⟩ = false ∧ W.frozen? ⟨g, k * 3 + 1, none⟩ = false ∧ W.frozen? ⟨g, k * 3 + 2, none⟩ = false := by
  obtain ⟨f0, f1, f2⟩ := flatC_get l k hk
  refine ⟨l[k], rfl, ?_, ?_, ?_, h.row.frozenAt _, h.row.frozenAt _, h.row.frozenAt _⟩
  · rw [h.row.cellAt _ (by omega)]; exact f0
  · rw [h.row.cellAt _ (by omega)]; exact f1
  · rw [h.row.cellAt _ (by omega)]; exact f2

def SpoilP (w0 : World) (b : Nat) (e : Ending) (w' : World) : Prop :=
  ∃ (l : List C3) (ad : Option Addr) (cap : Nat), e = .returned (.slice ad l.length cap) ∧ D0 w0 b (.slice ad l.length cap) l w' ∧ FewB l ∧ l.length ≤ 70

theorem few_set {l : List C3} {k : Nat} {x : C3} (h : FewB l) (hx : x.code.size ≤ 60) : FewB (l.set k x) := fun y hy => by
  rcases List.mem_or_eq_of_mem_set hy with q | q
  · exact h y q
  · rw [q]; exact hx

set_option maxRecDepth 20000 in
set_option maxHeartbeats 8000000 in
theorem spoilChart_any (b : Nat) (w0 w : World) (l : List C3) (ad : Option Addr) (cap : Nat) (h : D0 w0 b (.slice ad l.length cap) l w) (hF : FewB l) (hl1 : 1 ≤ l.length) (hl2 : l.length ≤ 70) :
    Calls Tryd.prog 38 #[.pointer (some ⟨b, 0, none⟩), .slice ad l.length cap] w (SpoilP w0 b) := by
  obtain ⟨g, cp, eg, _⟩ := ownsRow_some h.row (by omega)
  obtain ⟨rfl, rfl⟩ : ad = some ⟨g, 0, none⟩ ∧ cap = cp := by simp only [Value.slice.injEq] at eg; exact ⟨eg.1, eg.2.2⟩
  have HD : Hid (D0 w0 b (.slice (some ⟨g, 0, none⟩) l.length cap) l w) := h
  have HF : Hid (FewB l) := hF
  have hi1 : (1 : Int) ≤ (l.length : Int) := by omega
  have hi2 : (l.length : Int) ≤ 70 := by omega
  have tok1 : True := trivial
  clear h hF eg
  go_enter Tryd.func38, Tryd.ntmps38
  go_wp2_with (first
    | (go_at_call 66; refine (once_any b _ w HD.out.cur).mono ?_; rintro e w1 ⟨xo, rfl, m1⟩; have HD1 : Hid (D0 w0 b (.slice (some ⟨g, 0, none⟩) l.length cap) l w1) := HD.out.moved m1; clear m1; cases xo)
    | (go_at_call 67; clear tok1; refine (below_any b _ w1 HD1.out.cur).mono ?_; rintro e w2 ⟨x, rfl, x0, x1, x2, m2⟩; have x3 := x1 hi1; have HD2 : Hid (D0 w0 b (.slice (some ⟨g, 0, none⟩) l.length cap) l w2) := HD1.out.moved m2; clear m2 x1 x2))
  · go_returns
    exact ⟨l, _, _, rfl, HD1.out, HF.out, hl2⟩
  refine (below_any b _ w2 HD2.out.cur).mono ?_
  rintro e w3 ⟨y, rfl, y0, y1, y2, m3⟩
  have y3 := y1 (by decide)
  have HD3 : Hid (D0 w0 b (.slice (some ⟨g, 0, none⟩) l.length cap) l w3) := HD2.out.moved m3
  clear m3 y1 y2
  obtain ⟨k, rfl⟩ : ∃ k : Nat, x = (k : Int) := ⟨x.toNat, by omega⟩
  obtain ⟨q3, hq3, t0, t1, t2, ft0, ft1, ft2⟩ := HD3.out.at (by omega : k < l.length)
  obtain ⟨z3, hz3, zt0, _, _, _, _, _⟩ := HD3.out.at (by omega : 0 < l.length)
  simp only [Nat.zero_mul] at zt0
  have HQ3 : Hid (l[k]'(by omega) = q3) := hq3
  have HZ3 : Hid (l[0]'(by omega) = z3) := hz3
  clear hq3 hz3
  rcases (by omega : y = 0 ∨ y = 1 ∨ y = 2 ∨ y = 3 ∨ y = 4) with rfl | rfl | rfl | rfl | rfl
  · clear t0 t1 t2 ft0 ft1 ft2 zt0
    go_wp2_with (go_at_call 68; refine (pick_any b _ [(k : Int), -2, (k : Int) - 2, 0, (l.length : Int)] 5 5 _ (HD3.out.alloc _).cur (IntRow.made HD3.out.cur.lt _ _ _ rfl) rfl (by decide) (by decide)).mono ?_; rintro e w4 ⟨z, rfl, _, m4⟩; have HD4 : Hid (D0 w0 b (.slice (some ⟨g, 0, none⟩) l.length cap) l w4) := (HD3.out.alloc _).moved m4; clear m4; obtain ⟨q, hq, r0, r1, r2, f0, f1, f2⟩ := HD4.out.at (by omega : k < l.length); have HQ : Hid (l[k]'(by omega) = q) := hq; clear hq)
    go_returns
    exact ⟨l.set k ⟨q.code, z, q.step⟩, some ⟨g, 0, none⟩, cap, by rw [List.length_set]; rfl, HD4.out.store (by omega) (by omega) _ _ (by rw [HQ.out]; rfl), few_set HF.out (by have := HF.out _ (List.getElem_mem (by omega : k < l.length)); rw [HQ.out] at this; exact this), by simpa using hl2⟩
  · clear t0 t1 t2 ft0 ft1 ft2 zt0
    go_wp2_with (go_at_call 68; refine (pick_any b _ [0, 6, 1] 3 3 _ (HD3.out.alloc _).cur (IntRow.made HD3.out.cur.lt _ _ _ rfl) rfl (by decide) (by decide)).mono ?_; rintro e w4 ⟨z, rfl, _, m4⟩; have HD4 : Hid (D0 w0 b (.slice (some ⟨g, 0, none⟩) l.length cap) l w4) := (HD3.out.alloc _).moved m4; clear m4; obtain ⟨q, hq, r0, r1, r2, f0, f1, f2⟩ := HD4.out.at (by omega : k < l.length); have HQ : Hid (l[k]'(by omega) = q) := hq; clear hq)
    go_returns
    exact ⟨l.set k ⟨q.code, q.places, z⟩, some ⟨g, 0, none⟩, cap, by rw [List.length_set]; rfl, HD4.out.store (by omega) (by omega) _ _ (by rw [HQ.out]; rfl), few_set HF.out (by have := HF.out _ (List.getElem_mem (by omega : k < l.length)); rw [HQ.out] at this; exact this), by simpa using hl2⟩
  · clear t0 t1 t2 ft0 ft1 ft2 zt0
    go_wp2_with (go_at_call 69; refine (anyName_any b w3 HD3.out.cur).mono ?_; rintro e w4 ⟨⟨tx, rfl, htx⟩, m4⟩; have HD4 : Hid (D0 w0 b (.slice (some ⟨g, 0, none⟩) l.length cap) l w4) := HD3.out.moved m4; clear m4; obtain ⟨q, hq, r0, r1, r2, f0, f1, f2⟩ := HD4.out.at (by omega : k < l.length); have HQ : Hid (l[k]'(by omega) = q) := hq; clear hq)
    go_returns
    exact ⟨l.set k ⟨tx, q.places, q.step⟩, some ⟨g, 0, none⟩, cap, by rw [List.length_set]; rfl, HD4.out.store (o := 0) (by omega) (by omega) _ _ (by rw [HQ.out]; rfl), few_set HF.out (by show tx.size ≤ 60; omega), by simpa using hl2⟩
  · go_wp2
    go_returns
    exact ⟨l.set k ⟨z3.code, q3.places, q3.step⟩, some ⟨g, 0, none⟩, cap, by rw [List.length_set]; rfl, HD3.out.store (o := 0) (by omega) (by omega) _ _ (by rw [HQ3.out]; rfl), few_set HF.out (by have := HF.out _ (List.getElem_mem (by omega : 0 < l.length)); rw [HZ3.out] at this; exact this), by simpa using hl2⟩
  · go_wp2
    go_returns
    exact ⟨[], _, _, rfl, ⟨HD3.out.cur.alloc _, HD3.out.trn.alloc _, row_lower (World.ownsRow_made (base := w3.heap.size) w3 #[] 0 (Nat.le_refl _) (Nat.zero_le _) rfl) HD3.out.trn.size, HD3.out.lo⟩, fun y hy => by simp at hy, by simp⟩

end Go.Proofs.YtkplhiahfebmlaaDoor
