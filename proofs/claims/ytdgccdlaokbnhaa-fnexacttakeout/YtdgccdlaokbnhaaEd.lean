/- What goes out: the model's boxes while it loops. -/
import Derived.Test.YtdgccdlaokbnhaaEa
import Derived.Test.YtdgccdlaokbnhaaEb
import Derived.Test.YtdgccdlaokbnhaaWe
namespace Go.Proofs.Ytdgccdlaokbnhaa
open Go Go.ChangeShapes Go.WideShapes Go.ChangeAt Go.RowKit
set_option linter.unusedVariables false
set_option linter.unusedSimpArgs false

structure SB (w : World) (m p off : Int) (sv : Value) (nb cp n : Nat) (ad : Option Addr) (c : Nat → LA2) (V : World) : Prop where
  bl : Below w.heap.size w V
  bx : CB V w.heap.size #[.int .i64 m, .int .i64 p, sv, .int .i64 off] 26
  rs : CB V (w.heap.size + 1) #[.int .i64 0, .int .i64 0, .slice none 0 0, .int .i64 0] 26
  nx : CB V nb #[.int .i64 m, .int .i64 p, .slice ad n cp, .int .i64 off] 26
  ro : OwnLA2 V (w.heap.size + 2) ad n c
  lt : w.heap.size + 2 ≤ nb
section
variable {w V V' : World} {m p off : Int} {sv : Value} {nb cp n : Nat} {ad : Option Addr} {c : Nat → LA2}
theorem SB.below (h : SB w m p off sv nb cp n ad c V) (b : Below V.heap.size V V') : SB w m p off sv nb cp n ad c V' := ⟨bel_on h.bl b, h.bx.below b h.bx.lt, h.rs.below b h.rs.lt, h.nx.below b h.nx.lt, h.ro.below b, h.lt⟩
theorem SB.alloc (h : SB w m p off sv nb cp n ad c V) (o : Obj) : SB w m p off sv nb cp n ad c (V.alloc o) := h.below ((Below.refl _ _).alloc (Nat.le_refl _) o)
theorem SB.drew (h : SB w m p off sv nb cp n ad c V) : SB w m p off sv nb cp n ad c V.drew := h.below (Below.refl _ _).drew
theorem SB.rowA (h : SB w m p off sv nb cp n ad c V) (hn : 0 < n) : ∃ g cs, ad = some ⟨g, 0, none⟩ ∧ w.heap.size + 2 ≤ g ∧ g ≠ nb ∧ CB V g cs 40 ∧ n * 2 ≤ cs.size ∧ ∀ j, j < n → cs[j * 2]? = some (.int .i64 (c j).qty) ∧ cs[j * 2 + 1]? = some (.int .i64 (c j).cost) := by
  rcases h.ro with q | ⟨g, cs, e, h0, h1, h2⟩
  · omega
  · exact ⟨g, cs, e, h0, (h.nx.ne_ty h1 (by decide)).symm, h1, h2⟩
theorem SB.el {g : Nat} (h : SB w m p off sv nb cp n (some ⟨g, 0, none⟩) c V) {i : Nat} (hi : i < n) : V.cell? ⟨g, i * 2, none⟩ = some (.int .i64 (c i).qty) ∧ V.cell? ⟨g, i * 2 + 1, none⟩ = some (.int .i64 (c i).cost) := by
  obtain ⟨g2, cs, e, _, _, q1, _, q3⟩ := h.rowA (by omega)
  cases e; exact ⟨(q1.cell _).trans (q3 i hi).1, (q1.cell _).trans (q3 i hi).2⟩
theorem SB.frz {g : Nat} (h : SB w m p off sv nb cp n (some ⟨g, 0, none⟩) c V) (hn : 0 < n) (x : Nat) : V.frozen? ⟨g, x, none⟩ = false := by
  obtain ⟨g2, cs, e, _, _, q1, _⟩ := h.rowA hn
  cases e; exact q1.fr x
theorem SB.put {g : Nat} (h : SB w m p off sv nb cp n (some ⟨g, 0, none⟩) c V) {i : Nat} (hi : i < n) (q2 k2 : Int) : SB w m p off sv nb cp n (some ⟨g, 0, none⟩) (setL c i ⟨q2, k2⟩) ((V.setCell ⟨g, i * 2, none⟩ (.int .i64 q2)).setCell ⟨g, i * 2 + 1, none⟩ (.int .i64 k2)) := by
  obtain ⟨g2, cs, e, l1, l3, r1, r2, r3⟩ := h.rowA (by omega)
  cases e
  refine ⟨(h.bl.setCell (by simp <;> omega) _).setCell (by simp <;> omega) _, (h.bx.other _ (by omega)).other _ (by omega), (h.rs.other _ (by omega)).other _ (by omega), (h.nx.other _ (Ne.symm l3)).other _ (Ne.symm l3), .inr ⟨g, _, rfl, l1, (r1.set _ _).set _ _, by simpa using r2, fun j hj => ?_⟩, h.lt⟩
  unfold setL
  by_cases e : j = i
  · subst e
    rw [if_pos rfl]
    exact ⟨by rw [get_set_ne (by omega), get_set_eq (by omega)], by rw [get_set_eq (by simp; omega)]⟩
  · rw [if_neg e]
    obtain ⟨x1, x2⟩ := r3 j hj
    exact ⟨by rw [get_set_ne (by omega), get_set_ne (by omega)]; exact x1, by rw [get_set_ne (by omega), get_set_ne (by omega)]; exact x2⟩
theorem SB.lays {ad2 : Option Addr} {cp2 n2 : Nat} {c2 : Nat → LA2} (h : SB w m p off sv nb cp n ad c V) (h2 : OwnLA2 V (w.heap.size + 2) ad2 n2 c2) : SB w m p off sv nb cp2 n2 ad2 c2 (V.setCell ⟨nb, 2, none⟩ (.slice ad2 n2 cp2)) := by
  have l := h.lt
  refine ⟨h.bl.setCell (by simp <;> omega) _, h.bx.other _ (by omega), h.rs.other _ (by omega), by simpa using h.nx.set 2 (.slice ad2 n2 cp2), ?_, l⟩
  rcases h2 with q | ⟨g, cs, e, h0, h1, h3⟩
  · exact .inl q
  · exact .inr ⟨g, cs, e, h0, h1.other _ (h.nx.ne_ty h1 (by decide)).symm, h3⟩
theorem SB.start {ad : Option Addr} {cp : Nat} (h : VB w m p sv off V) (ho : OwnLA2 V (w.heap.size + 2) ad n c) : SB w m p off sv V.heap.size cp n ad c (V.alloc (.cells #[.int .i64 m, .int .i64 p, .slice ad n cp, .int .i64 off] 26 (0, 0))) :=
  ⟨h.bl.alloc (by have := h.size; omega) _, h.bx.alloc _, h.rs.alloc _, CB.new _ _, ho.below ((Below.refl _ _).alloc (Nat.le_refl _) _), h.size⟩
theorem SB.grown (h : SB w m p off sv nb cp n ad c V) {row : Option Nat} (hg : V.grownBy V' row) (hr : ∀ r, row = some r → w.heap.size + 2 ≤ r ∧ r ≠ nb ∧ ∀ x, ad = some x → r ≠ x.block) : SB w m p off sv nb cp n ad c V' := by
  have ne : ∀ x, x < V.heap.size → row ≠ some x → V'.heap[x]? = V.heap[x]? := fun x hx hne => hg.block x hx (fun e => hne e.symm)
  refine ⟨egrown h.bl (Nat.le_refl _) hg (fun r e => by have := hr r e; omega), h.bx.keep (ne _ h.bx.lt (fun e => by have := hr _ e; omega)), h.rs.keep (ne _ h.rs.lt (fun e => by have := hr _ e; omega)), h.nx.keep (ne _ h.nx.lt (fun e => (hr _ e).2.1 rfl)), ?_, h.lt⟩
  rcases h.ro with q | ⟨g, cs, e, h0, h1, h3⟩
  · exact .inl q
  · exact .inr ⟨g, cs, e, h0, h1.keep (ne _ h1.lt (fun e2 => (hr _ e2).2.2 _ e rfl)), h3⟩
end

theorem src_tail {w : World} {m p off : Int} {sv : Value} {nb cp n g : Nat} {c : Nat → LA2} {A : Addr} (hcp : n ≤ cp) (hA : (if cp = 1 then some (⟨g, 0, none⟩ : Addr) else some ⟨g, 2, none⟩) = some A) : ∀ V, SB w m p off sv nb cp n (some ⟨g, 0, none⟩) c V → ∀ k u, (rowLA2 (fun k => c (0 + 1 + k)) (n - 1))[k]? = some u → V.cell? (A.add k) = some u := fun V hV k u hu => by
  have hk : k < (n - 1) * 2 := by
    rcases Nat.lt_or_ge k ((n - 1) * 2) with q | q
    · exact q
    · rw [List.getElem?_eq_none (by rw [rowLA2_len]; exact q)] at hu; cases hu
  rw [if_neg (by omega)] at hA
  cases hA
  obtain ⟨b0, b1⟩ := rowLA2_get (fun k => c (0 + 1 + k)) (n - 1) (k / 2) (by omega)
  obtain ⟨x0, x1⟩ := hV.el (i := 0 + 1 + k / 2) (by omega)
  rw [add_lit]
  rcases (show k = k / 2 * 2 ∨ k = k / 2 * 2 + 1 by omega) with q | q
  · rw [show 2 + k = (0 + 1 + k / 2) * 2 by omega]
    rw [q, b0] at hu; cases hu; exact x0
  · rw [show 2 + k = (0 + 1 + k / 2) * 2 + 1 by omega]
    rw [q, b1] at hu; cases hu; exact x1

end Go.Proofs.Ytdgccdlaokbnhaa
