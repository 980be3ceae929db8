/- Small facts and tests that the texts on people share. -/
import Derived.Test.YtdhpadcihlmhiaaRf
import Derived.Test.YtdhpadcihlmhiaaNm
import Derived.Deep.RegionHeld3
import Derived.Deep.RegionWith
import Derived.Deep.QuietTactic
import Derived.BigQuiet
import Derived.Outline
import Derived.Handy
import Derived.Laws.EntriesVeiled
namespace Go.Proofs.Ytdhpadcihlmhiaa
open Go.ChangeShapes Go.WideShapes Go.ChangeAt Go.RowKit
set_option linter.unusedVariables false
set_option linter.unusedSimpArgs false

theorem hid {P : Prop} (h : P) : Hid P := h
theorem bd_N {n : Nat} {A W : World} (h : Below n A W) (q : Nat) : Below n A (W.drewN q) := ⟨h.os, h.tape, h.output, h.size, h.block⟩
theorem ret_i {a b : Int} (h : a = b) : Ending.returned (.int .i64 a) = .returned (.int .i64 b) := by rw [h]
def inB (x lo hi : Int) : Bool := decide (lo ≤ x ∧ x ≤ hi)
theorem inB_t {x lo hi : Int} (h : inB x lo hi = true) : lo ≤ x ∧ x ≤ hi := of_decide_eq_true h
theorem inB_f {x lo hi : Int} (h : inB x lo hi = false) : ¬ (lo ≤ x ∧ x ≤ hi) := of_decide_eq_false h
theorem l1In_any (x lo hi : Int) (w : World) : Calls Try.prog 15 #[.int .i64 x, .int .i64 lo, .int .i64 hi] w fun e w' => e = .returned (.bool (inB x lo hi)) ∧ w' = w := by
  go_enter Try.func15, Try.ntmps15
  go_wp2
  all_goals go_ret
  all_goals exact ⟨ret_bool (by unfold inB; rw [Bool.eq_iff_iff]; simp; try omega), rfl⟩
theorem l1In_eq {x lo hi : Int} {v : Bool} {w : World} (h : inB x lo hi = v) : Calls Try.prog 15 #[.int .i64 x, .int .i64 lo, .int .i64 hi] w fun e w' => e = .returned (.bool v) ∧ w' = w := h ▸ l1In_any x lo hi w
theorem from0_any (x : Int) (w : World) : Calls Try.prog 32 #[.int .i64 x] w fun e w' => e = .returned (.bool (inB x 0 100000000000)) ∧ w' = w := by
  go_enter Try.func32, Try.ntmps32
  go_wp2
  all_goals go_ret
  all_goals exact ⟨ret_bool (by unfold inB; rw [Bool.eq_iff_iff]; simp; try omega), rfl⟩
theorem from0_eq {x : Int} {v : Bool} {w : World} (h : inB x 0 100000000000 = v) : Calls Try.prog 32 #[.int .i64 x] w fun e w' => e = .returned (.bool v) ∧ w' = w := h ▸ from0_any x w
theorem specName_eq {s : ByteArray} {v : Bool} {w : World} (hs : s.size ≤ maxLen) (h : nameB s = v) : Calls Try.prog 13 #[.string s] w fun e w' => e = .returned (.bool v) ∧ w' = w := h ▸ specName_any s w hs
theorem implName_eq {s : ByteArray} {v : Bool} {w : World} (hs : s.size ≤ maxLen) (h : nameB s = v) : Calls Try.prog 30 #[.string s] w fun e w' => e = .returned (.bool v) ∧ w' = w := h ▸ implName_any s w hs
theorem lists_t {s t : ByteArray} (h : s = t) : (s.toList == t.toList) = true := by subst h; simp
theorem lists_f {s t : ByteArray} (h : s ≠ t) : (s.toList == t.toList) = false := by
  rw [Bool.eq_false_iff]
  intro g
  simp only [beq_iff_eq, ByteArray.toList_eq] at g
  exact h (by cases s; cases t; simp_all)
/-- The lowest place from s on, of f places, at which p holds; -1 if there is none. -/
def fstF (p : Nat → Bool) : Nat → Nat → Int
  | 0, _ => -1
  | f + 1, s => if p s = true then (s : Int) else fstF p f (s + 1)
theorem fstF_hit {p : Nat → Bool} {len k : Nat} (hk : k < len) (h : p k = true) : fstF p (len - k) k = (k : Int) := by
  obtain ⟨f, hf⟩ : ∃ f, len - k = f + 1 := ⟨len - k - 1, by omega⟩
  rw [hf]; exact if_pos h
theorem fstF_miss {p : Nat → Bool} {len k : Nat} (hk : k < len) (h : p k = false) : fstF p (len - k) k = fstF p (len - (k + 1)) (k + 1) := by
  obtain ⟨f, hf⟩ : ∃ f, len - k = f + 1 := ⟨len - k - 1, by omega⟩
  rw [hf, show len - (k + 1) = f by omega]; exact if_neg (by rw [h]; decide)
theorem fstF_end {p : Nat → Bool} {k : Nat} : fstF p (k - k) k = -1 := by rw [Nat.sub_self]; rfl
theorem fstF_spec (p : Nat → Bool) : ∀ f s, (fstF p f s = -1 ∧ ∀ j, s ≤ j → j < s + f → p j = false) ∨ ∃ k : Nat, fstF p f s = (k : Int) ∧ s ≤ k ∧ k < s + f ∧ p k = true ∧ ∀ j, s ≤ j → j < k → p j = false
  | 0, s => .inl ⟨rfl, fun j h1 h2 => by omega⟩
  | f + 1, s => by
    cases h : p s
    · have e : fstF p (f + 1) s = fstF p f (s + 1) := if_neg (by rw [h]; decide)
      rcases fstF_spec p f (s + 1) with ⟨h1, h2⟩ | ⟨k, h1, h2, h3, h4, h5⟩
      · refine .inl ⟨e.trans h1, fun j g1 g2 => ?_⟩
        by_cases q : j = s
        · subst q; exact h
        · exact h2 j (by omega) (by omega)
      · refine .inr ⟨k, e.trans h1, by omega, by omega, h4, fun j g1 g2 => ?_⟩
        by_cases q : j = s
        · subst q; exact h
        · exact h5 j (by omega) g2
    · exact .inr ⟨s, if_pos h, by omega, by omega, h, fun j g1 g2 => by omega⟩

theorem up_step {P : Nat → Prop} {k : Nat} (h : ∀ j, j < k → P j) (g : P k) : ∀ j, j < k + 1 → P j := fun j hj => by
  by_cases e : j = k
  · subst e; exact g
  · exact h j (by omega)
end Go.Proofs.Ytdhpadcihlmhiaa
