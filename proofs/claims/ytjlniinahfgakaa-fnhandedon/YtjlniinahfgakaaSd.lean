/- The program's StepDown. -/
import Derived.Test.YtjlniinahfgakaaHo
import Derived.Deep.Cut
namespace Go.Proofs.Ytjlniinahfgakaa
open Go.ChangeShapes Go.WideShapes Go.ChangeAt Go.RowKit
set_option linter.unusedVariables false
set_option linter.unusedSimpArgs false

def zerosB (n : Nat) : Array Value := madeCells #[.bool false] n
theorem zerosB_size (n : Nat) : (zerosB n).size = n := size_madeCells _ _
theorem zerosB_get (n j : Nat) (h : j < n) : (zerosB n)[j]? = some (.bool false) := by simp [zerosB, madeCells, h, Nat.mod_one]
set_option maxRecDepth 100000 in
theorem mkB (n : Nat) (h : (n : Int) ≤ 1048576) (w : World) : (Instr.makeSlice 77 (.int .i64 (n : Int)) (.int .i64 (n : Int))).run Try.prog w = .ok (.slice (some ⟨w.heap.size, 0, none⟩) n n) (w.alloc (.cells (zerosB n) 4)) := by
  obtain ⟨i, hi, hz, hs, hb⟩ := info4
  have hr := run_make (P := Try.prog) w 77 4 i (.bool false) Try.underlying77 hi hz .i64 .i64 n n (by omega) (by omega) (by rw [hb]; omega) (by omega)
  simp only [Int.toNat_natCast, hs, Nat.mul_one] at hr
  exact hr

/-- Rule r lies at block b from place o on. -/
def RuAt (w : World) (b o : Nat) (r : R3) : Prop :=
  ∃ ta tc wa wc, w.cell? ⟨b, o, none⟩ = some (.int .i64 r.frm) ∧ w.cell? ⟨b, o + 1, none⟩ = some (.slice ta r.tn tc) ∧ w.cell? ⟨b, o + 2, none⟩ = some (.slice wa r.wn wc) ∧ IR w ta r.tn r.to ∧ IR w wa r.wn r.wt ∧ r.tn ≤ tc
/-- A slice's first rules. -/
def RU (w : World) (ad : Option Addr) (len : Nat) (rs : Nat → R3) : Prop := len = 0 ∨ ∃ k off, ad = some ⟨k, off, none⟩ ∧ k < w.heap.size ∧ ∀ j, j < len → RuAt w k (off + j * 3) (rs j)
theorem IR.blk {w : World} {ad : Option Addr} {len : Nat} {z : Nat → Int} (H : IR w ad len z) : len = 0 ∨ ∃ k off, ad = some ⟨k, off, none⟩ ∧ k < w.heap.size := by
  rcases H with h | ⟨k, off, e, hk, _⟩
  · exact .inl h
  · exact .inr ⟨k, off, e, hk⟩
theorem RU.below {w w' : World} {ad : Option Addr} {len : Nat} {rs : Nat → R3} (H : RU w ad len rs) (t : Below w.heap.size w w') : RU w' ad len rs := by
  rcases H with h | ⟨k, off, e, hk, hc⟩
  · exact .inl h
  · refine .inr ⟨k, off, e, Nat.lt_of_lt_of_le hk t.size, fun j hj => ?_⟩
    obtain ⟨ta, tc, wa, wc, h1, h2, h3, h4, h5, h6⟩ := hc j hj
    refine ⟨ta, tc, wa, wc, ?_, ?_, ?_, h4.below t, h5.below t, h6⟩
    · rw [World.cell?_of_block (w := w) (t.block k hk)]; exact h1
    · rw [World.cell?_of_block (w := w) (t.block k hk)]; exact h2
    · rw [World.cell?_of_block (w := w) (t.block k hk)]; exact h3

/-- The costs and who gave, behind k of the rules. -/
noncomputable def sdn (n : Nat) (c : Nat → Int) (rs : Nat → R3) : Nat → Option ((Nat → Int) × (Nat → Bool))
  | 0 => some (c, fun _ => false)
  | k + 1 => match sdn n c rs k with
    | none => none
    | some s => if rokB n s.2 (rs k) = true ∧ hokB s.1 (rs k) = true then some (hdn s.1 (rs k) (rs k).tn, updB s.2 (rs k).frm.toNat) else none
theorem sdn_none {n : Nat} {c : Nat → Int} {rs : Nat → R3} {k : Nat} (h : sdn n c rs k = none) : ∀ {m : Nat}, k ≤ m → sdn n c rs m = none
  | 0, hm => by obtain rfl : k = 0 := by omega
                exact h
  | m + 1, hm => by
    by_cases e : k = m + 1
    · subst e; exact h
    · unfold sdn; rw [sdn_none h (m := m) (by omega)]
theorem sdn_amt {n : Nat} {c : Nat → Int} {rs : Nat → R3} (hc : ∀ j, j < n → AmtP (c j)) : ∀ {k : Nat} {s : (Nat → Int) × (Nat → Bool)}, sdn n c rs k = some s → ∀ j, j < n → AmtP (s.1 j)
  | 0, s, h => by unfold sdn at h; cases h; exact hc
  | k + 1, s, h => by
    unfold sdn at h
    cases e : sdn n c rs k with
    | none => rw [e] at h; cases h
    | some t =>
      rw [e] at h
      simp only at h
      split at h
      · rename_i q
        cases h
        have hk : HOk t.1 (rs k) := by
          by_cases g : HOk t.1 (rs k)
          · exact g
          · rw [hokB_f g] at q; cases q.2
        exact hdn_amt (sdn_amt hc e) _ hk
      · cases h
open Classical in
/-- Whether StepDown tells costs, how many, and which. -/
noncomputable def sdB (n : Nat) (c : Nat → Int) (m : Nat) (rs : Nat → R3) : Bool := decide (CostP n c ∧ m ≤ 40 ∧ (sdn n c rs m).isSome = true)
open Classical in
theorem sdB_t {n : Nat} {c : Nat → Int} {m : Nat} {rs : Nat → R3} (h : CostP n c ∧ m ≤ 40 ∧ (sdn n c rs m).isSome = true) : sdB n c m rs = true := decide_eq_true h
open Classical in
theorem sdB_f {n : Nat} {c : Nat → Int} {m : Nat} {rs : Nat → R3} (h : ¬ (CostP n c ∧ m ≤ 40 ∧ (sdn n c rs m).isSome = true)) : sdB n c m rs = false := decide_eq_false h
noncomputable def sdV (n : Nat) (c : Nat → Int) (m : Nat) (rs : Nat → R3) : Nat → Int := match sdn n c rs m with | some s => s.1 | none => fun _ => 0
noncomputable def sdM (n : Nat) (c : Nat → Int) (m : Nat) (rs : Nat → R3) : Nat := if sdB n c m rs = true then n else 0
/-- What StepDown hands back. -/
def SdP (n : Nat) (c : Nat → Int) (m : Nat) (rs : Nat → R3) (w : World) (e : Ending) (w' : World) : Prop :=
  ∃ ad cap, e = .returned (.tuple #[.slice ad (sdM n c m rs) cap, .bool (sdB n c m rs)]) ∧ w'.ownsRow w.heap.size 3 1 (.slice ad (sdM n c m rs) cap) (sdM n c m rs) (intL (sdV n c m rs) (sdM n c m rs)) ∧ Below w.heap.size w w'
theorem SdP.none {n : Nat} {c : Nat → Int} {m : Nat} {rs : Nat → R3} {w w1 : World} (h : sdB n c m rs = false) (hb : Below w.heap.size w w1) : SdP n c m rs w (.returned (.tuple #[.slice (some ⟨w1.heap.size, 0, none⟩) 0 0, .bool false])) (w1.alloc (.cells #[] 3 (0, 0))) := by
  have e : sdM n c m rs = 0 := by unfold sdM; rw [h]; rfl
  unfold SdP
  rw [e, h]
  exact ⟨_, _, rfl, row_lower (none_own w1) hb.size, hb.alloc hb.size _⟩

theorem below_sets {B D : Nat} {w w2 : World} {a b : Value} (h : Below B w w2) (hD : B ≤ D) : Below B w ((w2.setCell ⟨D, 0, none⟩ a).setCell ⟨D, 1, none⟩ b) := (h.setCell hD _).setCell hD _
theorem row_sets {w : World} {base D : Nat} {v : Value} {n : Nat} {xs : List Value} {a b : Value} (h : w.ownsRow base 3 1 v n xs) (hne : some D ≠ v.ownBlock) : ((w.setCell ⟨D, 0, none⟩ a).setCell ⟨D, 1, none⟩ b).ownsRow base 3 1 v n xs :=
  row_block (row_block h (fun g hg => heap_set (fun q => hne (by rw [hg, q])))) (fun g hg => heap_set (fun q => hne (by rw [hg, q])))

end Go.Proofs.Ytjlniinahfgakaa
