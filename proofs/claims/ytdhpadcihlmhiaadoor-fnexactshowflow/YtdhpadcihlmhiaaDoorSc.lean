/- Plain: what makes a register right: its series, and each paper behind those ahead of it; how many papers a series has, and its last day. -/
import Derived.Test.YtdhpadcihlmhiaaDoorSa
import Derived.Test.YtdhpadcihlmhiaaDoorSb
import Derived.Test.YtdhpadcihlmhiaaDoorNu
namespace Go.Proofs.YtdhpadcihlmhiaaDoor
open Go.ChangeShapes Go.WideShapes Go.ChangeAt Go.RowKit
open Go.Lib (decDigits)
set_option linter.unusedVariables false
set_option linter.unusedSimpArgs false

def S2.val (s : S2) : Value := .agg #[.string s.pre, .int .i64 s.wid]
def P4.val (p : P4) : Value := .agg #[.int .i64 p.ser, .int .i64 p.num, .int .i64 p.day, .bool p.vd]

/-- A series is right by itself. -/
def sOkB (s : S2) : Bool := nameB s.pre && decide (1 ≤ s.wid ∧ s.wid ≤ 8)
def sGood (c : Nat → S2) (i : Nat) : Prop := sOkB (c i) = true ∧ ∀ k, k < i → ¬ (c k).pre = (c i).pre
def SerP (n : Nat) (c : Nat → S2) : Prop := n ≤ 20 ∧ ∀ i, i < n → sGood c i

/-- How many of the first k papers are of a series. -/
def cntP (p : Nat → P4) (s : Int) : Nat → Nat
  | 0 => 0
  | k + 1 => if (p k).ser = s then cntP p s k + 1 else cntP p s k
/-- The day of the last one of these. -/
def lstP (p : Nat → P4) (s : Int) : Nat → Int
  | 0 => 0
  | k + 1 => if (p k).ser = s then (p k).day else lstP p s k
theorem cntP_hit {p : Nat → P4} {s : Int} {k : Nat} (h : (p k).ser = s) : cntP p s (k + 1) = cntP p s k + 1 := if_pos h
theorem cntP_miss {p : Nat → P4} {s : Int} {k : Nat} (h : ¬ (p k).ser = s) : cntP p s (k + 1) = cntP p s k := if_neg h
theorem lstP_hit {p : Nat → P4} {s : Int} {k : Nat} (h : (p k).ser = s) : lstP p s (k + 1) = (p k).day := if_pos h
theorem lstP_miss {p : Nat → P4} {s : Int} {k : Nat} (h : ¬ (p k).ser = s) : lstP p s (k + 1) = lstP p s k := if_neg h
theorem cntP_le (p : Nat → P4) (s : Int) : ∀ k, cntP p s k ≤ k
  | 0 => Nat.le_refl _
  | k + 1 => by
    have := cntP_le p s k
    unfold cntP
    split <;> omega
def dg (n : Nat) : Int := ((decDigits n).length : Int)
/-- Of a series with so many papers, the last one of them on such a day, out of so many papers in all: what is told when one more is asked for. -/
def refN (ns : Nat) (c : Nat → S2) (np : Nat) (cnt : Nat) (lst : Int) (s day : Int) : Int :=
  if ¬ (0 ≤ s ∧ s < (ns : Int)) then 2 else if ¬ (0 ≤ day ∧ day ≤ 40000) ∨ day < lst then 3 else if np = 400 ∨ (c s.toNat).wid < dg (cnt + 1) then 4 else 0
def refV (ns : Nat) (c : Nat → S2) (np : Nat) (p : Nat → P4) (s day : Int) : Int := refN ns c np (cntP p s np) (lstP p s np) s day
def okP (ns : Nat) (c : Nat → S2) (p : Nat → P4) (k : Nat) : Prop := refV ns c k p (p k).ser (p k).day = 0 ∧ (p k).num = (cntP p (p k).ser k : Int) + 1
def RegP (ns : Nat) (c : Nat → S2) (np : Nat) (p : Nat → P4) : Prop := SerP ns c ∧ ∀ k, k < np → okP ns c p k
open Classical in
noncomputable def serB (n : Nat) (c : Nat → S2) : Bool := decide (SerP n c)
open Classical in
noncomputable def regB (ns : Nat) (c : Nat → S2) (np : Nat) (p : Nat → P4) : Bool := decide (RegP ns c np p)
section
variable {n ns np : Nat} {c : Nat → S2} {p : Nat → P4}
open Classical in
theorem serB_t (h : SerP n c) : serB n c = true := by unfold serB; exact decide_eq_true h
open Classical in
theorem serB_f (h : ¬ SerP n c) : serB n c = false := by unfold serB; exact decide_eq_false h
open Classical in
theorem regB_t (h : RegP ns c np p) : regB ns c np p = true := by unfold regB; exact decide_eq_true h
open Classical in
theorem regB_f (h : ¬ RegP ns c np p) : regB ns c np p = false := by unfold regB; exact decide_eq_false h
open Classical in
theorem serB_of (h : serB n c = true) : SerP n c := by unfold serB at h; exact of_decide_eq_true h
open Classical in
theorem regB_of (h : regB ns c np p = true) : RegP ns c np p := by unfold regB at h; exact of_decide_eq_true h
theorem serB_bad {i : Nat} (hi : i < n) (h : ¬ sGood c i) : serB n c = false := serB_f fun H => h (H.2 i hi)
theorem regB_bad {k : Nat} (hk : k < np) (h : ¬ okP ns c p k) : regB ns c np p = false := regB_f fun H => h (H.2 k hk)
end
theorem refN_two {ns : Nat} {c : Nat → S2} {np cnt : Nat} {lst s day : Int} (h : ¬ (0 ≤ s ∧ s < (ns : Int))) : refN ns c np cnt lst s day = 2 := if_pos h
theorem refN_three {ns : Nat} {c : Nat → S2} {np cnt : Nat} {lst s day : Int} (h : 0 ≤ s ∧ s < (ns : Int)) (h2 : ¬ (0 ≤ day ∧ day ≤ 40000) ∨ day < lst) : refN ns c np cnt lst s day = 3 := by
  unfold refN; rw [if_neg (by simpa using h), if_pos h2]
theorem refN_four {ns : Nat} {c : Nat → S2} {np cnt : Nat} {lst s day : Int} (h : 0 ≤ s ∧ s < (ns : Int)) (h2 : 0 ≤ day ∧ day ≤ 40000) (h3 : lst ≤ day) (h4 : np = 400 ∨ (c s.toNat).wid < dg (cnt + 1)) : refN ns c np cnt lst s day = 4 := by
  unfold refN; rw [if_neg (by simpa using h), if_neg (by intro q; rcases q with q | q; exact q h2; omega), if_pos h4]
theorem refN_zero {ns : Nat} {c : Nat → S2} {np cnt : Nat} {lst s day : Int} (h : 0 ≤ s ∧ s < (ns : Int)) (h2 : 0 ≤ day ∧ day ≤ 40000) (h3 : lst ≤ day) (h4 : ¬ np = 400) (h5 : dg (cnt + 1) ≤ (c s.toNat).wid) : refN ns c np cnt lst s day = 0 := by
  unfold refN; rw [if_neg (by simpa using h), if_neg (by intro q; rcases q with q | q; exact q h2; omega), if_neg (by intro q; rcases q with q | q; exact h4 q; omega)]
theorem refN_of {ns : Nat} {c : Nat → S2} {np cnt : Nat} {lst s day : Int} (h : refN ns c np cnt lst s day = 0) : (0 ≤ s ∧ s < (ns : Int)) ∧ (0 ≤ day ∧ day ≤ 40000) ∧ lst ≤ day ∧ ¬ np = 400 ∧ dg (cnt + 1) ≤ (c s.toNat).wid := by
  unfold refN at h
  by_cases a : 0 ≤ s ∧ s < (ns : Int)
  · rw [if_neg (by simpa using a)] at h
    by_cases b : ¬ (0 ≤ day ∧ day ≤ 40000) ∨ day < lst
    · rw [if_pos b] at h; cases h
    · rw [if_neg b] at h
      by_cases d : np = 400 ∨ (c s.toNat).wid < dg (cnt + 1)
      · rw [if_pos d] at h; cases h
      · have b1 : 0 ≤ day ∧ day ≤ 40000 := by
          by_cases q : 0 ≤ day ∧ day ≤ 40000
          · exact q
          · exact absurd (.inl q) b
        have b2 : ¬ day < lst := fun q => b (.inr q)
        have d1 : ¬ np = 400 := fun q => d (.inl q)
        have d2 : ¬ (c s.toNat).wid < dg (cnt + 1) := fun q => d (.inr q)
        exact ⟨a, b1, by omega, d1, by omega⟩
  · rw [if_pos a] at h; cases h
/-- A right register has at most 400 papers. -/
theorem RegP.few {ns np : Nat} {c : Nat → S2} {p : Nat → P4} (H : RegP ns c np p) : np ≤ 400 := by
  by_cases h : np ≤ 400
  · exact h
  · exact absurd rfl (refN_of (H.2 400 (by omega)).1).2.2.2.1
/-- The model's way: series by series, then paper by paper. -/
def rowOk (c : Nat → S2) (p : Nat → P4) (i k : Nat) : Prop :=
  (p k).ser = (i : Int) → (p k).num = (cntP p (i : Int) k : Int) + 1 ∧ lstP p (i : Int) k ≤ (p k).day ∧ dg (cntP p (i : Int) k + 1) ≤ (c i).wid
def inP (ns : Nat) (p : Nat → P4) (k : Nat) : Prop := (0 ≤ (p k).ser ∧ (p k).ser < (ns : Int)) ∧ (0 ≤ (p k).day ∧ (p k).day ≤ 40000)
theorem reg_iff (ns : Nat) (c : Nat → S2) (np : Nat) (p : Nat → P4) : RegP ns c np p ↔ ns ≤ 20 ∧ np ≤ 400 ∧ (∀ i, i < ns → sGood c i ∧ ∀ k, k < np → rowOk c p i k) ∧ ∀ k, k < np → inP ns p k := by
  constructor
  · intro H
    refine ⟨H.1.1, H.few, fun i hi => ⟨H.1.2 i hi, fun k hk e => ?_⟩, fun k hk => ?_⟩
    · obtain ⟨h1, h2⟩ := H.2 k hk
      unfold refV at h1
      rw [e] at h1 h2
      obtain ⟨g1, g2, g3, g4, g5⟩ := refN_of h1
      exact ⟨h2, g3, by simpa using g5⟩
    · obtain ⟨g1, g2, _⟩ := refN_of (H.2 k hk).1
      exact ⟨g1, g2⟩
  · rintro ⟨h1, h2, h3, h4⟩
    refine ⟨⟨h1, fun i hi => (h3 i hi).1⟩, fun k hk => ?_⟩
    obtain ⟨⟨a, b⟩, d⟩ := h4 k hk
    obtain ⟨i, hi⟩ : ∃ i : Nat, (p k).ser = (i : Int) := ⟨(p k).ser.toNat, by omega⟩
    obtain ⟨q1, q2, q3⟩ := (h3 i (by omega)).2 k hk hi
    unfold okP refV
    rw [hi]
    refine ⟨refN_zero ⟨by omega, by omega⟩ d q2 (by omega) (by simpa using q3), q1⟩

end Go.Proofs.YtdhpadcihlmhiaaDoor
