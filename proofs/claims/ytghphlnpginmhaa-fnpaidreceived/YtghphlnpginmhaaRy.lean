/- Lists of whole numbers, and a copy of a row. -/
import Derived.Test.YtghphlnpginmhaaRx
namespace Go.Proofs.Ytghphlnpginmhaa
open Go.ChangeShapes Go.WideShapes Go.ChangeAt Go.RowKit
set_option linter.unusedVariables false
set_option linter.unusedSimpArgs false

def upd (f : Nat → Int) (i : Nat) (v : Int) (j : Nat) : Int := if j = i then v else f j
theorem upd_eq (f : Nat → Int) (i : Nat) (v : Int) : upd f i v i = v := if_pos rfl
theorem upd_ne {f : Nat → Int} {i j : Nat} {v : Int} (h : j ≠ i) : upd f i v j = f j := if_neg h
def intL (o : Nat → Int) (m : Nat) : List Value := (List.range m).map (fun j => .int .i64 (o j))
theorem intL_get {o : Nat → Int} {m j : Nat} (h : j < m) : (intL o m)[j]? = some (.int .i64 (o j)) := by simp [intL, h]
theorem intL_len (o : Nat → Int) (m : Nat) : (intL o m).length = m := by simp [intL]
theorem cells_I {w : World} {b off n : Nat} {o : Nat → Int} (H : IR w (some ⟨b, off, none⟩) n o) (j : Nat) (u : Value) (hj : (intL o n)[j]? = some u) : w.cell? ((⟨b, off, none⟩ : Addr).add j) = some u := by
  have hjn : j < n := by
    rcases Nat.lt_or_ge j n with q | q
    · exact q
    · rw [List.getElem?_eq_none (by rw [intL_len]; exact q)] at hj; cases hj
  rw [intL_get hjn] at hj
  cases hj
  have h := H.cell hjn
  have e : ((⟨b, off, none⟩ : Addr).add j) = ⟨b, off + j, none⟩ := by cases j <;> simp [Addr.add]
  rw [e]; exact h
theorem one_I (o : Nat → Int) (n : Nat) : ∀ u ∈ intL o n, u.oneCell' = true := fun u hu => by simp only [intL, List.mem_map] at hu; obtain ⟨q, _, rfl⟩ := hu; rfl
theorem below_app {w w3 : World} {o : Obj} (hgrow : (w.alloc o).grownBy w3 (Value.ownBlock (.slice (some ⟨w.heap.size, 0, none⟩) 0 0))) : Below w.heap.size w w3 := Below.grown ((Below.refl _ _).alloc (Nat.le_refl _) _) hgrow (by simp) (fun k hk => by simp [Value.ownBlock] at hk; omega)
theorem none_own (w : World) : (w.alloc (.cells #[] 3 (0, 0))).ownsRow w.heap.size 3 1 (.slice (some ⟨w.heap.size, 0, none⟩) 0 0) 0 [] := World.ownsRow_made w #[] 0 (Nat.le_refl _) (Nat.zero_le _) rfl
set_option maxRecDepth 20000 in
set_option maxHeartbeats 1000000 in
theorem cloneI_any (ad : Option Addr) (n cap : Nat) (o : Nat → Int) (w : World) (hn : 0 < n) (hn2 : n ≤ 1000) (H : IR w ad n o) :
    Calls Try.prog 108 #[.slice ad n cap] w fun e w' => ∃ ad' cp, e = .returned (.slice ad' n cp) ∧ w'.ownsRow w.heap.size 3 1 (.slice ad' n cp) n (intL o n) ∧ Below w.heap.size w w' := by
  obtain ⟨b, off, rfl, _⟩ := H.addr hn
  have HF : Hid (IR (w.alloc (.cells #[] 3 (0, 0))) (some ⟨b, off, none⟩) n o) := H.alloc _
  obtain ⟨i0, hi, hz0, hz1, hz2⟩ := info3
  clear H
  have he : ∀ w : World, (binOp .eql 77 (.slice (some ⟨b, off, none⟩) n cap) (.slice none 0 0)).run Try.prog w = .ok (.bool false) w := fun _ => rfl
  go_enter Try.func108, Try.ntmps108
  go_wp2_with (first
    | (at_builtin; go_loud (refine wpList_append_own_at _ rfl _ _ 77 rfl w.heap.size 3 i0 (.int .i64 0) 1 8 Try.underlying77 hi hz0 hz1 hz2 rfl (by decide) (.slice (some ⟨w.heap.size, 0, none⟩) 0 0) 0 [] rfl (none_own w) ⟨b, off, none⟩ n cap (intL o n) rfl (by rw [intL_len]; omega) (cells_I HF.out) (one_I o n) (by unfold maxLen; omega) (by omega) (by simp) ?_; intro v' w3 hown hgrow _ _; rw [Nat.zero_add, List.nil_append] at hown; obtain ⟨ad', cp, rfl⟩ := row_form hown; have HW : Hid (w3.ownsRow w.heap.size 3 1 (.slice ad' n cp) n (intL o n) ∧ Below w.heap.size w w3) := ⟨hown, below_app hgrow⟩; clear hown hgrow; try simp only [Nat.zero_add])))
  go_returns
  exact ⟨ad', cp, rfl, HW.out.1, HW.out.2⟩
end Go.Proofs.Ytghphlnpginmhaa
