/- Rows of whole numbers in a block that may be written; what lies in such a row as a list. -/
import Derived.Test.YtmbdeafpfdeigaaIn
import Derived.Test.YtmbdeafpfdeigaaPc
import Derived.Deep.QuietTactic
import Derived.BigQuiet
namespace Go.Proofs.Ytmbdeafpfdeigaa
open Go Go.ChangeShapes Go.WideShapes Go.ChangeAt Go.RowKit
set_option linter.unusedVariables false
set_option linter.unusedSimpArgs false

/-- A row of whole numbers in a block, that may be written. -/
def TI (W : World) (tb n : Nat) (f : Nat → Int) : Prop := ∃ cs, CB W tb cs 3 ∧ n ≤ cs.size ∧ ∀ j, j < n → cs[j]? = some (.int .i64 (f j))
section
variable {W W' : World} {tb n : Nat} {f : Nat → Int}
theorem TI.lt (h : TI W tb n f) : tb < W.heap.size := by obtain ⟨cs, h1, _⟩ := h; exact h1.lt
theorem TI.cell (h : TI W tb n f) {k : Nat} (hk : k < n) : W.cell? ⟨tb, k, none⟩ = some (.int .i64 (f k)) := by obtain ⟨cs, h1, h2, h3⟩ := h; rw [h1.cell]; exact h3 k hk
theorem TI.fr (h : TI W tb n f) (k : Nat) : W.frozen? ⟨tb, k, none⟩ = false := by obtain ⟨cs, h1, _⟩ := h; exact h1.fr k
theorem TI.set (h : TI W tb n f) {k : Nat} (hk : k < n) (x : Int) : TI (W.setCell ⟨tb, k, none⟩ (.int .i64 x)) tb n (fun j => if j = k then x else f j) := by
  obtain ⟨cs, h1, h2, h3⟩ := h
  refine ⟨_, h1.set _ _, by simpa using h2, fun j hj => ?_⟩
  by_cases e : j = k
  · subst e; rw [get_set_eq (by omega)]; simp
  · rw [get_set_ne (by omega), h3 j hj]; simp [e]
theorem TI.below (h : TI W tb n f) (b : Below W.heap.size W W') : TI W' tb n f := by
  obtain ⟨cs, h1, h2, h3⟩ := h
  exact ⟨cs, h1.below b h1.lt, h2, h3⟩
theorem TI.congr {f' : Nat → Int} (h : TI W tb n f) (e : ∀ j, j < n → f j = f' j) : TI W tb n f' := by
  obtain ⟨cs, h1, h2, h3⟩ := h
  exact ⟨cs, h1, h2, fun j hj => by rw [← e j hj]; exact h3 j hj⟩
theorem TI.row (h : TI W tb n f) : IR W (some ⟨tb, 0, none⟩) n f := by
  obtain ⟨cs, h1, h2, h3⟩ := h
  exact IR.of_block h1 n f h3
theorem TI.made1 (w : World) {n i : Nat} (hi : i < n) (q : Int) : TI (w.alloc (.cells ((zeros n).setIfInBounds i (.int .i64 q)) 3)) w.heap.size n (fun j => if j = i then q else 0) := ⟨_, CB.new _ _, by simp [zeros_size], fun j hj => by
  by_cases e : j = i
  · subst e; rw [get_set_eq (by rw [zeros_size]; exact hj)]; simp
  · rw [get_set_ne (by omega)]; simp [zeros, madeCells, hj, Nat.mod_one, e]⟩
theorem TI.made (w : World) (n : Nat) : TI (w.alloc (.cells (zeros n) 3)) w.heap.size n (fun _ => 0) := ⟨zeros n, CB.new _ _, by rw [zeros_size]; omega, fun j hj => by simp [zeros, madeCells, hj, Nat.mod_one]⟩
end
theorem int_src {w : World} {a : Addr} {n : Nat} {z : Nat → Int} (H : IR w (some a) n z) : ∀ j v, (intR z n)[j]? = some v → w.cell? (a.add j) = some v := by
  intro j v hv
  have hlen := intR_len z n
  have hj : j < n := by
    rcases Nat.lt_or_ge j n with q | q
    · exact q
    · rw [List.getElem?_eq_none (by omega)] at hv; cases hv
  obtain ⟨k, off, e, hk⟩ := H.addr (by omega)
  cases e
  have hadd : (⟨k, off, none⟩ : Addr).add j = ⟨k, off + j, none⟩ := by unfold Addr.add; split <;> simp_all
  rw [hadd]
  rw [intR_get z n j hj] at hv
  cases hv
  exact H.cell hj
set_option maxRecDepth 20000 in
set_option maxHeartbeats 2000000 in
theorem cloneI_any (a : Addr) (n cap : Nat) (z : Nat → Int) (w : World) (hn : (n : Int) ≤ 1048576) (H : IR w (some a) n z) :
    Calls Try.prog 143 #[.slice (some a) n cap] w fun e w' => ∃ ad cp, e = .returned (.slice ad n cp) ∧ OwnI w' w.heap.size ad n z ∧ Below w.heap.size w w' := by
  have HF : Hid (IR (w.alloc (.cells #[] 3 (0, 0))) (some a) n z) := H.below ((Below.refl _ _).alloc (Nat.le_refl _) _)
  obtain ⟨i0, hi, hz0, hz1, hz2⟩ := info3
  have HL : Hid ((intR z n).length = n * 1) := hid (by rw [intR_len]; omega)
  have H1 : Hid (∀ v ∈ intR z n, v.oneCell' = true) := intR_one z n
  have HSRC : Hid (∀ j v, (intR z n)[j]? = some v → (w.alloc (.cells #[] 3 (0, 0))).cell? (a.add j) = some v) := int_src HF.out
  clear H
  have he : ∀ w : World, (binOp .eql 24 (.slice (some a) n cap) (.slice none 0 0)).run Try.prog w = .ok (.bool false) w := fun _ => rfl
  go_enter Try.func143, Try.ntmps143
  go_wp2_with (first
    | (at_builtin; go_loud (refine wpList_append_own_at _ rfl _ _ 24 rfl w.heap.size 3 i0 (.int .i64 0) 1 8 Try.underlying24 hi hz0 hz1 hz2 rfl (by decide) (.slice (some ⟨w.heap.size, 0, none⟩) 0 0) 0 [] rfl (madeI (CB.new _ _) (Nat.le_refl _)) a n cap (intR z n) rfl HL.out HSRC.out H1.out (by unfold maxLen; omega) (by omega) (by simp) ?_; intro v' w3 hown hgrow _ _; rw [Nat.zero_add, List.nil_append] at hown; have HW : Hid (w3.ownsRow w.heap.size 3 1 v' n (intR z n) ∧ Below w.heap.size w w3) := ⟨hown, below_app hgrow⟩; clear hown hgrow)))
  go_returns
  obtain ⟨ad, cp, rfl, _, hO⟩ := ownI_of HW.out.1
  exact ⟨ad, cp, rfl, hO, HW.out.2⟩
end Go.Proofs.Ytmbdeafpfdeigaa
