/- l10SpoilRules. -/
import Derived.Test.YtbhghghkgojpgaaXr
namespace Go.Proofs.Ytbhghghkgojpgaa
open Go Go.ChangeShapes Go.WideShapes Go.ChangeAt Go.RowKit
set_option linter.unusedVariables false
set_option linter.unusedSimpArgs false

/-- What l10SpoilRules leaves. -/
def SpP (B b : Nat) (w : World) (base : Nat) (e : Ending) (w' : World) : Prop :=
  ∃ g k oc c, e = .returned (.slice (some ⟨g, 0, none⟩) k oc) ∧ k ≤ 7 ∧ k ≤ oc ∧ TR w' (some ⟨g, 0, none⟩) k c ∧ (∀ j, (c j).code.size ≤ 60) ∧ Cursor w' b ∧ Below B w w' ∧ base ≤ g ∧ g < w'.heap.size
theorem own_cap {w : World} {base n cp g : Nat} {t : TypeId} {sz : Nat} {xs : List Value} (h : w.ownsRow base t sz (.slice (some ⟨g, 0, none⟩) n cp) n xs) : n ≤ cp ∧ ∃ cur, CB w g cur t := by
  rcases h.2 with ⟨e, _⟩ | ⟨g', cap, cur, e, hb, hg, h1, _⟩
  · cases e
  · simp only [Value.slice.injEq, Option.some.injEq, Addr.mk.injEq] at e
    obtain ⟨⟨rfl, _, _⟩, _, rfl⟩ := e
    exact ⟨h1, cur, hg⟩
theorem RW.done {B b : Nat} {w W : World} {base g k oc : Nat} {c : Nat → T5} (h : RW B b w base g k oc c W) (hk : k ≤ 7) : SpP B b w base (.returned (.slice (some ⟨g, 0, none⟩) k oc)) W :=
  ⟨g, k, oc, c, rfl, hk, (own_cap h.own).1, h.tr, h.sz, h.cur, h.bel, h.gge.1, h.gge.2⟩
theorem RW.put0 {B b : Nat} {w W : World} {base g k oc i : Nat} {c : Nat → T5} (h : RW B b w base g k oc c W) (hk : k ≤ 7) (hi : i < k) (x : ByteArray) (hx : x.size ≤ 60) : SpP B b w base (.returned (.slice (some ⟨g, 0, none⟩) k oc)) (W.setCell ⟨g, i * 5, none⟩ (.string x)) := by
  obtain ⟨hc, cur, hC⟩ := own_cap h.own
  have hg := h.gge
  have hbb := h.bb
  have hBb := h.Bb
  have hT := h.tr
  refine ⟨g, k, oc, fun j => if j = i then ⟨x, (c j).fr, (c j).to, (c j).rate, (c j).kind⟩ else c j, rfl, hk, hc, TR.of_block (hC.set (i * 5) (.string x)) k _ (fun j hj => ?_), fun j => ?_, h.cur.low (by simp) (fun y hy => Below.heap_setCell _ _ _ _ (by simp; omega)), h.bel.setCell (by show B ≤ g; omega) _, hg.1, by simpa using hg.2⟩
  · obtain ⟨a0, a1, a2, a3, a4⟩ := hT.cell hj
    simp only [Nat.zero_add, hC.cell] at a0 a1 a2 a3 a4
    have hsz : j * 5 + 4 < cur.size := by
      rcases Nat.lt_or_ge (j * 5 + 4) cur.size with q | q
      · exact q
      · rw [Array.getElem?_eq_none q] at a4; cases a4
    by_cases e : j = i
    · subst e
      simp only [if_true]
      refine ⟨?_, ?_, ?_, ?_, ?_⟩
      · rw [get_set_eq (by omega)]
      · rw [get_set_ne (by omega)]; assumption
      · rw [get_set_ne (by omega)]; assumption
      · rw [get_set_ne (by omega)]; assumption
      · rw [get_set_ne (by omega)]; assumption
    · simp only [if_neg e]
      refine ⟨?_, ?_, ?_, ?_, ?_⟩ <;> (rw [get_set_ne (by omega)]; assumption)
  · simp only
    split
    · exact hx
    · exact h.sz j
theorem RW.put1 {B b : Nat} {w W : World} {base g k oc i : Nat} {c : Nat → T5} (h : RW B b w base g k oc c W) (hk : k ≤ 7) (hi : i < k) (x : Int) : SpP B b w base (.returned (.slice (some ⟨g, 0, none⟩) k oc)) (W.setCell ⟨g, i * 5 + 1, none⟩ (.int .i64 x)) := by
  obtain ⟨hc, cur, hC⟩ := own_cap h.own
  have hg := h.gge
  have hbb := h.bb
  have hBb := h.Bb
  have hT := h.tr
  refine ⟨g, k, oc, fun j => if j = i then ⟨(c j).code, x, (c j).to, (c j).rate, (c j).kind⟩ else c j, rfl, hk, hc, TR.of_block (hC.set (i * 5 + 1) (.int .i64 x)) k _ (fun j hj => ?_), fun j => ?_, h.cur.low (by simp) (fun y hy => Below.heap_setCell _ _ _ _ (by simp; omega)), h.bel.setCell (by show B ≤ g; omega) _, hg.1, by simpa using hg.2⟩
  · obtain ⟨a0, a1, a2, a3, a4⟩ := hT.cell hj
    simp only [Nat.zero_add, hC.cell] at a0 a1 a2 a3 a4
    have hsz : j * 5 + 4 < cur.size := by
      rcases Nat.lt_or_ge (j * 5 + 4) cur.size with q | q
      · exact q
      · rw [Array.getElem?_eq_none q] at a4; cases a4
    by_cases e : j = i
    · subst e
      simp only [if_true]
      refine ⟨?_, ?_, ?_, ?_, ?_⟩
      · rw [get_set_ne (by omega)]; assumption
      · rw [get_set_eq (by omega)]
      · rw [get_set_ne (by omega)]; assumption
      · rw [get_set_ne (by omega)]; assumption
      · rw [get_set_ne (by omega)]; assumption
    · simp only [if_neg e]
      refine ⟨?_, ?_, ?_, ?_, ?_⟩ <;> (rw [get_set_ne (by omega)]; assumption)
  · simp only
    split
    · exact h.sz j
    · exact h.sz j
theorem RW.put3 {B b : Nat} {w W : World} {base g k oc i : Nat} {c : Nat → T5} (h : RW B b w base g k oc c W) (hk : k ≤ 7) (hi : i < k) (x : Int) : SpP B b w base (.returned (.slice (some ⟨g, 0, none⟩) k oc)) (W.setCell ⟨g, i * 5 + 3, none⟩ (.int .i64 x)) := by
  obtain ⟨hc, cur, hC⟩ := own_cap h.own
  have hg := h.gge
  have hbb := h.bb
  have hBb := h.Bb
  have hT := h.tr
  refine ⟨g, k, oc, fun j => if j = i then ⟨(c j).code, (c j).fr, (c j).to, x, (c j).kind⟩ else c j, rfl, hk, hc, TR.of_block (hC.set (i * 5 + 3) (.int .i64 x)) k _ (fun j hj => ?_), fun j => ?_, h.cur.low (by simp) (fun y hy => Below.heap_setCell _ _ _ _ (by simp; omega)), h.bel.setCell (by show B ≤ g; omega) _, hg.1, by simpa using hg.2⟩
  · obtain ⟨a0, a1, a2, a3, a4⟩ := hT.cell hj
    simp only [Nat.zero_add, hC.cell] at a0 a1 a2 a3 a4
    have hsz : j * 5 + 4 < cur.size := by
      rcases Nat.lt_or_ge (j * 5 + 4) cur.size with q | q
      · exact q
      · rw [Array.getElem?_eq_none q] at a4; cases a4
    by_cases e : j = i
    · subst e
      simp only [if_true]
      refine ⟨?_, ?_, ?_, ?_, ?_⟩
      · rw [get_set_ne (by omega)]; assumption
      · rw [get_set_ne (by omega)]; assumption
      · rw [get_set_ne (by omega)]; assumption
      · rw [get_set_eq (by omega)]
      · rw [get_set_ne (by omega)]; assumption
    · simp only [if_neg e]
      refine ⟨?_, ?_, ?_, ?_, ?_⟩ <;> (rw [get_set_ne (by omega)]; assumption)
  · simp only
    split
    · exact h.sz j
    · exact h.sz j
theorem RW.put4 {B b : Nat} {w W : World} {base g k oc i : Nat} {c : Nat → T5} (h : RW B b w base g k oc c W) (hk : k ≤ 7) (hi : i < k) (x : Int) : SpP B b w base (.returned (.slice (some ⟨g, 0, none⟩) k oc)) (W.setCell ⟨g, i * 5 + 4, none⟩ (.int .i64 x)) := by
  obtain ⟨hc, cur, hC⟩ := own_cap h.own
  have hg := h.gge
  have hbb := h.bb
  have hBb := h.Bb
  have hT := h.tr
  refine ⟨g, k, oc, fun j => if j = i then ⟨(c j).code, (c j).fr, (c j).to, (c j).rate, x⟩ else c j, rfl, hk, hc, TR.of_block (hC.set (i * 5 + 4) (.int .i64 x)) k _ (fun j hj => ?_), fun j => ?_, h.cur.low (by simp) (fun y hy => Below.heap_setCell _ _ _ _ (by simp; omega)), h.bel.setCell (by show B ≤ g; omega) _, hg.1, by simpa using hg.2⟩
  · obtain ⟨a0, a1, a2, a3, a4⟩ := hT.cell hj
    simp only [Nat.zero_add, hC.cell] at a0 a1 a2 a3 a4
    have hsz : j * 5 + 4 < cur.size := by
      rcases Nat.lt_or_ge (j * 5 + 4) cur.size with q | q
      · exact q
      · rw [Array.getElem?_eq_none q] at a4; cases a4
    by_cases e : j = i
    · subst e
      simp only [if_true]
      refine ⟨?_, ?_, ?_, ?_, ?_⟩
      · rw [get_set_ne (by omega)]; assumption
      · rw [get_set_ne (by omega)]; assumption
      · rw [get_set_ne (by omega)]; assumption
      · rw [get_set_ne (by omega)]; assumption
      · rw [get_set_eq (by omega)]
    · simp only [if_neg e]
      refine ⟨?_, ?_, ?_, ?_, ?_⟩ <;> (rw [get_set_ne (by omega)]; assumption)
  · simp only
    split
    · exact h.sz j
    · exact h.sz j

set_option maxRecDepth 20000 in
set_option maxHeartbeats 8000000 in
theorem spoilRules_any (B b : Nat) (w0 w : World) (base g k oc : Nat) (c : Nat → T5) (hk : k ≤ 6) (hW : RW B b w0 base g k oc c w) :
    Calls Try.prog 37 #[.pointer (some ⟨b, 0, none⟩), .slice (some ⟨g, 0, none⟩) k oc] w (SpP B b w0 base) := by
  obtain ⟨i0, hi, hz0, hz1, hz2⟩ := info79
  have HW : Hid (RW B b w0 base g k oc c w) := hW
  clear hW
  have hk2 : (k : Int) ≤ 6 := by omega
  have tk1 : True := trivial
  by_cases k0 : k = 0
  · subst k0
    go_enter Try.func37, Try.ntmps37
    go_wp2_with ((go_at_call 40; refine (once_any b _ _ HW.out.cur).mono ?_; rintro e w1 ⟨xo, rfl, m1⟩; have R1 : Hid (RW B b w0 base g 0 oc c w1) := HW.out.moved m1; clear m1; cases xo))
    all_goals go_returns
    all_goals exact R1.out.done (by omega)
  have e0 : ((k : Int) == 0) = false := eq_f (by omega)
  have hk1 : (1 : Int) ≤ (k : Int) := by omega
  go_enter Try.func37, Try.ntmps37
  go_wp2_with (first | (go_at_call 40; refine (once_any b _ _ HW.out.cur).mono ?_; rintro e w1 ⟨xo, rfl, m1⟩; have R1 : Hid (RW B b w0 base g k oc c w1) := HW.out.moved m1; clear m1; cases xo) | (go_at_call 41; clear tk1; refine (below_any b _ _ R1.out.cur).mono ?_; rintro e w2 ⟨x, rfl, x0, x1, _, m2⟩; have x2 := x1 (by omega); obtain ⟨i, rfl⟩ : ∃ i : Nat, x = (i : Int) := ⟨x.toNat, by omega⟩; have R2 : Hid (RW B b w0 base g k oc c w2) := R1.out.moved m2; clear m2 x1 x0) | (go_at_call 41; refine (below_any b _ _ R2.out.cur).mono ?_; rintro e w3 ⟨y, rfl, y0, y1, _, m3⟩; have y2 := y1 (by decide); have R3 : Hid (RW B b w0 base g k oc c w3) := R2.out.moved m3; clear m3 y1; have hy : y = 0 ∨ y = 1 ∨ y = 2 ∨ y = 3 ∨ y = 4 := (by omega); clear y0 y2; obtain ⟨r, hr⟩ : ∃ r, c i = r := ⟨_, rfl⟩; have HQ : Hid (r.code.size ≤ 60) := (by rw [← hr]; exact R3.out.sz i); obtain ⟨q0, q1, q2, q3, q4⟩ := r; have HQ0 : Hid (q0.size ≤ 60) := HQ; obtain ⟨c0, c1, c2, c3, c4⟩ := R3.out.tr.cell (j := i) (by omega); simp only [Nat.zero_add] at c0 c1 c2 c3 c4; obtain ⟨_, cur, hC⟩ := own_cap R3.out.own; have f0 := hC.fr (i * 5); have f1 := hC.fr (i * 5 + 1); have f2 := hC.fr (i * 5 + 2); have f3 := hC.fr (i * 5 + 3); have f4 := hC.fr (i * 5 + 4); clear hC; rw [hr] at c0 c1 c2 c3 c4; simp only at c0 c1 c2 c3 c4; clear HQ; have HRR : Hid (c i = ⟨q0, q1, q2, q3, q4⟩) := hr; clear hr; rcases hy with rfl | rfl | rfl | rfl | rfl) | (at_builtin; go_loud (refine wpList_append_own_at _ rfl _ _ 24 rfl base 79 i0 (.agg #[.string ByteArray.empty, .int .i64 0, .int .i64 0, .int .i64 0, .int .i64 0]) 5 48 Try.underlying24 hi hz0 hz1 hz2 rfl (by decide) (.slice (some ⟨g, 0, none⟩) k oc) k (fl5 c k) rfl (arow_keep R3.out.own ((Below.refl _ _).alloc (Nat.le_refl _) _)) ⟨w3.heap.size, 0, none⟩ 1 1 [.string q0, .int .i64 q1, .int .i64 q2, .int .i64 q3, .int .i64 q4] rfl rfl (acells_at rfl) (fun u hu => by simp at hu; rcases hu with rfl | rfl | rfl | rfl | rfl <;> rfl) (by unfold maxLen; omega) (by omega) (by have := R3.out.gge; (try simp); omega) ?_); intro v9 w9 hown hgrow hnil hat; obtain ⟨za, zc, rfl⟩ := arow_form hown; obtain ⟨g9, rfl⟩ := some_of hown (by omega); have RZ : Hid (SpP B b w0 base (.returned (.slice (some ⟨g9, 0, none⟩) (k + 1) zc)) w9) := hid ((R3.out.grow hgrow (by rw [fl5_add]; exact hown) (cAdd_sz R3.out.sz (x := ⟨q0, q1, q2, q3, q4⟩) HQ0.out)).done (by omega)); clear hown hgrow hnil hat))
  all_goals try (go_returns; exact R1.out.done (by omega))
  · go_wp2_with (go_at_call 74; refine (anyName_any b _ R3.out.cur).mono ?_; rintro e w4 ⟨⟨t, rfl, ht⟩, m4⟩; have R4 : Hid (RW B b w0 base g k oc c w4) := R3.out.moved m4; clear m4 c0 c1 c2 c3 c4 f0 f1 f2 f3 f4; obtain ⟨c0, c1, c2, c3, c4⟩ := R4.out.tr.cell (j := i) (by omega); simp only [Nat.zero_add] at c0 c1 c2 c3 c4; obtain ⟨_, cur, hC⟩ := own_cap R4.out.own; have f0 := hC.fr (i * 5); have f1 := hC.fr (i * 5 + 1); have f2 := hC.fr (i * 5 + 2); have f3 := hC.fr (i * 5 + 3); have f4 := hC.fr (i * 5 + 4); clear hC; rw [HRR.out] at c0 c1 c2 c3 c4; simp only at c0 c1 c2 c3 c4)
    go_returns
    exact R4.out.put0 (by omega) (by omega) t (by omega)
  · go_wp2_with (go_at_call 44; refine (pick_any b _ [-1, 40001, q2] _ _ _ (R3.out.cur.alloc _) (IntRow.made R3.out.cur.lt _ _ _ rfl) rfl (by simp) (by simp)).mono ?_; rintro e w4 ⟨v4, rfl, _, m4⟩; have R4 : Hid (RW B b w0 base g k oc c w4) := R3.out.moved (turns_new m4); clear m4 c0 c1 c2 c3 c4 f0 f1 f2 f3 f4; obtain ⟨c0, c1, c2, c3, c4⟩ := R4.out.tr.cell (j := i) (by omega); simp only [Nat.zero_add] at c0 c1 c2 c3 c4; obtain ⟨_, cur, hC⟩ := own_cap R4.out.own; have f0 := hC.fr (i * 5); have f1 := hC.fr (i * 5 + 1); have f2 := hC.fr (i * 5 + 2); have f3 := hC.fr (i * 5 + 3); have f4 := hC.fr (i * 5 + 4); clear hC; rw [HRR.out] at c0 c1 c2 c3 c4; simp only at c0 c1 c2 c3 c4)
    go_returns
    exact R4.out.put1 (by omega) (by omega) v4
  · go_wp2_with (go_at_call 44; refine (pick_any b _ [-1, 1000000, 1000001] _ _ _ (R3.out.cur.alloc _) (IntRow.made R3.out.cur.lt _ _ _ rfl) rfl (by simp) (by simp)).mono ?_; rintro e w4 ⟨v4, rfl, _, m4⟩; have R4 : Hid (RW B b w0 base g k oc c w4) := R3.out.moved (turns_new m4); clear m4 c0 c1 c2 c3 c4 f0 f1 f2 f3 f4; obtain ⟨c0, c1, c2, c3, c4⟩ := R4.out.tr.cell (j := i) (by omega); simp only [Nat.zero_add] at c0 c1 c2 c3 c4; obtain ⟨_, cur, hC⟩ := own_cap R4.out.own; have f0 := hC.fr (i * 5); have f1 := hC.fr (i * 5 + 1); have f2 := hC.fr (i * 5 + 2); have f3 := hC.fr (i * 5 + 3); have f4 := hC.fr (i * 5 + 4); clear hC; rw [HRR.out] at c0 c1 c2 c3 c4; simp only at c0 c1 c2 c3 c4)
    go_returns
    exact R4.out.put3 (by omega) (by omega) v4
  · go_wp2_with (go_at_call 44; refine (pick_any b _ [0, 5] _ _ _ (R3.out.cur.alloc _) (IntRow.made R3.out.cur.lt _ _ _ rfl) rfl (by simp) (by simp)).mono ?_; rintro e w4 ⟨v4, rfl, _, m4⟩; have R4 : Hid (RW B b w0 base g k oc c w4) := R3.out.moved (turns_new m4); clear m4 c0 c1 c2 c3 c4 f0 f1 f2 f3 f4; obtain ⟨c0, c1, c2, c3, c4⟩ := R4.out.tr.cell (j := i) (by omega); simp only [Nat.zero_add] at c0 c1 c2 c3 c4; obtain ⟨_, cur, hC⟩ := own_cap R4.out.own; have f0 := hC.fr (i * 5); have f1 := hC.fr (i * 5 + 1); have f2 := hC.fr (i * 5 + 2); have f3 := hC.fr (i * 5 + 3); have f4 := hC.fr (i * 5 + 4); clear hC; rw [HRR.out] at c0 c1 c2 c3 c4; simp only at c0 c1 c2 c3 c4)
    go_returns
    exact R4.out.put4 (by omega) (by omega) v4
  · go_returns
    exact RZ.out
end Go.Proofs.Ytbhghghkgojpgaa
