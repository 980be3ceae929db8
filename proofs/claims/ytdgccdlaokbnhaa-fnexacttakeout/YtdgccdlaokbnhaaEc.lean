/- What goes out: TakeOut of the program. -/
import Derived.Test.YtdgccdlaokbnhaaEa
import Derived.Test.YtdgccdlaokbnhaaEb
namespace Go.Proofs.Ytdgccdlaokbnhaa
open Go Go.ChangeShapes Go.WideShapes Go.ChangeAt Go.RowKit
set_option linter.unusedVariables false
set_option linter.unusedSimpArgs false

/-- The boxes of TakeOut while it loops: its worth, its answer's place, what went out (ob), the row (g). -/
structure OB (w : World) (m p off u k : Int) (g ob cap n : Nat) (c : Nat → LA2) (V : World) : Prop where
  bl : Below w.heap.size w V
  bx : CB V w.heap.size #[.int .i64 m, .int .i64 p, .slice (some ⟨g, 0, none⟩) n cap, .int .i64 off] 26
  rs : CB V (w.heap.size + 1) #[.int .i64 0, .int .i64 0, .slice none 0 0, .int .i64 0] 26
  ou : CB V ob #[.int .i64 u, .int .i64 k] 40
  ro : ∃ cs, CB V g cs 40 ∧ n * 2 ≤ cs.size ∧ ∀ j, j < n → cs[j * 2]? = some (.int .i64 (c j).qty) ∧ cs[j * 2 + 1]? = some (.int .i64 (c j).cost)
  lt : w.heap.size + 2 ≤ g ∧ w.heap.size + 2 ≤ ob ∧ g ≠ ob
section
variable {w V V' : World} {m p off u k : Int} {g ob cap n : Nat} {c : Nat → LA2}
theorem OB.below (h : OB w m p off u k g ob cap n c V) (b : Below V.heap.size V V') : OB w m p off u k g ob cap n c V' :=
  ⟨bel_on h.bl b, h.bx.below b h.bx.lt, h.rs.below b h.rs.lt, h.ou.below b h.ou.lt, by obtain ⟨cs, q1, q2⟩ := h.ro; exact ⟨cs, q1.below b q1.lt, q2⟩, h.lt⟩
theorem OB.alloc (h : OB w m p off u k g ob cap n c V) (o : Obj) : OB w m p off u k g ob cap n c (V.alloc o) := h.below ((Below.refl _ _).alloc (Nat.le_refl _) o)
theorem OB.drew (h : OB w m p off u k g ob cap n c V) : OB w m p off u k g ob cap n c V.drew := h.below (Below.refl _ _).drew
theorem OB.gl (h : OB w m p off u k g ob cap n c V) : g < V.heap.size := by obtain ⟨cs, q1, _⟩ := h.ro; exact q1.lt
theorem OB.frz (h : OB w m p off u k g ob cap n c V) (x : Nat) : V.frozen? ⟨g, x, none⟩ = false := by obtain ⟨cs, q1, _⟩ := h.ro; exact q1.fr x
theorem OB.row (h : OB w m p off u k g ob cap n c V) : LAr V (some ⟨g, 0, none⟩) n c := by obtain ⟨cs, q1, _, q3⟩ := h.ro; exact LAr.of_block q1 n c q3
theorem OB.el (h : OB w m p off u k g ob cap n c V) {i : Nat} (hi : i < n) : V.cell? ⟨g, i * 2, none⟩ = some (.int .i64 (c i).qty) ∧ V.cell? ⟨g, i * 2 + 1, none⟩ = some (.int .i64 (c i).cost) := by
  obtain ⟨cs, q1, _, q3⟩ := h.ro; exact ⟨(q1.cell _).trans (q3 i hi).1, (q1.cell _).trans (q3 i hi).2⟩
theorem OB.other (h : OB w m p off u k g ob cap n c V) {b x : Nat} (v : Value) (h1 : w.heap.size + 2 ≤ b) (h2 : g ≠ b) (h3 : ob ≠ b) : OB w m p off u k g ob cap n c (V.setCell ⟨b, x, none⟩ v) :=
  ⟨h.bl.setCell (by simp <;> omega) _, h.bx.other _ (by omega), h.rs.other _ (by omega), h.ou.other _ h3, by obtain ⟨cs, q1, q2⟩ := h.ro; exact ⟨cs, q1.other _ h2, q2⟩, h.lt⟩
theorem OB.out (h : OB w m p off u k g ob cap n c V) (u2 k2 : Int) : OB w m p off u2 k2 g ob cap n c ((V.setCell ⟨ob, 0, none⟩ (.int .i64 u2)).setCell ⟨ob, 1, none⟩ (.int .i64 k2)) := by
  obtain ⟨l1, l2, l3⟩ := h.lt
  exact ⟨(h.bl.setCell (by simp <;> omega) _).setCell (by simp <;> omega) _, (h.bx.other _ (by omega)).other _ (by omega), (h.rs.other _ (by omega)).other _ (by omega), by simpa using (h.ou.set 0 (.int .i64 u2)).set 1 (.int .i64 k2), by obtain ⟨cs, q1, q2⟩ := h.ro; exact ⟨cs, (q1.other _ l3).other _ l3, q2⟩, h.lt⟩
theorem OB.put (h : OB w m p off u k g ob cap n c V) {i : Nat} (hi : i < n) (q2 k2 : Int) : OB w m p off u k g ob cap n (setL c i ⟨q2, k2⟩) ((V.setCell ⟨g, i * 2, none⟩ (.int .i64 q2)).setCell ⟨g, i * 2 + 1, none⟩ (.int .i64 k2)) := by
  obtain ⟨l1, l2, l3⟩ := h.lt
  obtain ⟨cs, r1, r2, r3⟩ := h.ro
  refine ⟨(h.bl.setCell (by simp <;> omega) _).setCell (by simp <;> omega) _, (h.bx.other _ (by omega)).other _ (by omega), (h.rs.other _ (by omega)).other _ (by omega), (h.ou.other _ (Ne.symm l3)).other _ (Ne.symm l3), ⟨_, (r1.set _ _).set _ _, by simpa using r2, fun j hj => ?_⟩, h.lt⟩
  unfold setL
  by_cases e : j = i
  · subst e
    rw [if_pos rfl]
    exact ⟨by rw [get_set_ne (by omega), get_set_eq (by omega)], by rw [get_set_eq (by simp; omega)]⟩
  · rw [if_neg e]
    obtain ⟨x1, x2⟩ := r3 j hj
    exact ⟨by rw [get_set_ne (by omega), get_set_ne (by omega)]; exact x1, by rw [get_set_ne (by omega), get_set_ne (by omega)]; exact x2⟩
theorem OB.del (h : OB w m p off u k g ob cap n c V) {c2 : Nat → LA2} (hr : ∃ cs', CB V' g cs' 40 ∧ (n - 1) * 2 ≤ cs'.size ∧ ∀ j, j < n - 1 → cs'[j * 2]? = some (.int .i64 (c2 j).qty) ∧ cs'[j * 2 + 1]? = some (.int .i64 (c2 j).cost)) (kk : ∀ y, y ≠ g → V'.heap[y]? = V.heap[y]?) (b : Below g V V') : OB w m p off u k g ob cap (n - 1) c2 (V'.setCell ⟨w.heap.size, 2, none⟩ (.slice (some ⟨g, 0, none⟩) (n - 1) cap)) := by
  obtain ⟨l1, l2, l3⟩ := h.lt
  obtain ⟨cs, r1, r2⟩ := hr
  exact ⟨(h.bl.trans (b.mono (by omega))).setCell (by simp <;> omega) _, by simpa using (h.bx.keep (kk _ (by omega))).set 2 (.slice (some ⟨g, 0, none⟩) (n - 1) cap), (h.rs.keep (kk _ (by omega))).other _ (by omega), (h.ou.keep (kk _ (Ne.symm l3))).other _ (by omega), ⟨cs, r1.other _ (by omega), r2⟩, h.lt⟩
theorem OB.fin (h : OB w m p off u k g ob cap n c V) (v0 v1 v2 v3 : Value) : Below w.heap.size w ((((V.setCell ⟨w.heap.size + 1, 0, none⟩ v0).setCell ⟨w.heap.size + 1, 1, none⟩ v1).setCell ⟨w.heap.size + 1, 2, none⟩ v2).setCell ⟨w.heap.size + 1, 3, none⟩ v3) ∧ CB ((((V.setCell ⟨w.heap.size + 1, 0, none⟩ v0).setCell ⟨w.heap.size + 1, 1, none⟩ v1).setCell ⟨w.heap.size + 1, 2, none⟩ v2).setCell ⟨w.heap.size + 1, 3, none⟩ v3) w.heap.size #[.int .i64 m, .int .i64 p, .slice (some ⟨g, 0, none⟩) n cap, .int .i64 off] 26 ∧ CB ((((V.setCell ⟨w.heap.size + 1, 0, none⟩ v0).setCell ⟨w.heap.size + 1, 1, none⟩ v1).setCell ⟨w.heap.size + 1, 2, none⟩ v2).setCell ⟨w.heap.size + 1, 3, none⟩ v3) ob #[.int .i64 u, .int .i64 k] 40 ∧ CB ((((V.setCell ⟨w.heap.size + 1, 0, none⟩ v0).setCell ⟨w.heap.size + 1, 1, none⟩ v1).setCell ⟨w.heap.size + 1, 2, none⟩ v2).setCell ⟨w.heap.size + 1, 3, none⟩ v3) (w.heap.size + 1) #[v0, v1, v2, v3] 26 ∧ OwnLA2 ((((V.setCell ⟨w.heap.size + 1, 0, none⟩ v0).setCell ⟨w.heap.size + 1, 1, none⟩ v1).setCell ⟨w.heap.size + 1, 2, none⟩ v2).setCell ⟨w.heap.size + 1, 3, none⟩ v3) w.heap.size (some ⟨g, 0, none⟩) n c := by
  obtain ⟨l1, l2, l3⟩ := h.lt
  obtain ⟨cs, r1, r2⟩ := h.ro
  refine ⟨(((h.bl.setCell (by simp <;> omega) _).setCell (by simp <;> omega) _).setCell (by simp <;> omega) _).setCell (by simp <;> omega) _, (((h.bx.other _ (by omega)).other _ (by omega)).other _ (by omega)).other _ (by omega), (((h.ou.other _ (by omega)).other _ (by omega)).other _ (by omega)).other _ (by omega), set4 h.rs, .inr ⟨g, cs, rfl, by omega, (((r1.other _ (by omega)).other _ (by omega)).other _ (by omega)).other _ (by omega), r2⟩⟩
theorem OB.start {sv : Value} (h : VB w m p sv off V) (hr : ∃ cs, CB V g cs 40 ∧ n * 2 ≤ cs.size ∧ ∀ j, j < n → cs[j * 2]? = some (.int .i64 (c j).qty) ∧ cs[j * 2 + 1]? = some (.int .i64 (c j).cost)) (hg : w.heap.size + 2 ≤ g) : OB w m p off 0 0 g V.heap.size cap n c ((V.setCell ⟨w.heap.size, 2, none⟩ (.slice (some ⟨g, 0, none⟩) n cap)).alloc (.cells #[.int .i64 0, .int .i64 0] 40 (0, 0))) := by
  obtain ⟨cs, r1, r2⟩ := hr
  have hs := h.size
  have hgl := r1.lt
  exact ⟨(h.bl.setCell (by simp <;> omega) _).alloc (by simp; omega) _, by simpa using (h.bx.set 2 (.slice (some ⟨g, 0, none⟩) n cap)).alloc _, (h.rs.other _ (by omega)).alloc _, CB.newAt (by simp) _ _, ⟨cs, (r1.other _ (by omega)).alloc _, r2⟩, hg, hs, by omega⟩
end
theorem row_cells2 {w : World} {base n : Nat} {v : Value} {c : Nat → LA2} (h : w.ownsRow base 40 2 v n (rowLA2 c n)) (hn : 0 < n) : ∃ g cap, v = .slice (some ⟨g, 0, none⟩) n cap ∧ base ≤ g ∧ n ≤ cap ∧ cap ≤ 9223372036854775807 ∧ ∃ cs, CB w g cs 40 ∧ n * 2 ≤ cs.size ∧ ∀ j, j < n → cs[j * 2]? = some (.int .i64 (c j).qty) ∧ cs[j * 2 + 1]? = some (.int .i64 (c j).cost) := by
  rcases h.2 with ⟨e, e0⟩ | ⟨g, cap, cur, e, hb, hg, h3, h4, h5, h6⟩
  · omega
  · obtain ⟨ad, cp, e2, _, ho⟩ := ownLA2_of h
    rw [e] at e2
    simp only [Value.slice.injEq] at e2
    obtain ⟨rfl, _, rfl⟩ := e2
    rcases ho with q | ⟨g2, cs, e3, _, r1, r2⟩
    · omega
    · cases e3
      exact ⟨g, cap, e, hb, h3, by unfold maxLen at h4; omega, cs, r1, r2⟩

def leftN (q : Int) (ob : Nat) (w : World) : Nat := match w.cell? ⟨ob, 0, none⟩ with
  | some (.int _ u) => (q - u).toNat
  | _ => 0
theorem leftN_is {q u : Int} {ob : Nat} {w : World} (h : w.cell? ⟨ob, 0, none⟩ = some (.int .i64 u)) : leftN q ob w = (q - u).toNat := by unfold leftN; rw [h]

end Go.Proofs.Ytdgccdlaokbnhaa
