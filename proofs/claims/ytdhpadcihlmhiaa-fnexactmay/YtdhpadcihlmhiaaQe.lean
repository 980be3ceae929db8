/- What one may do: the staff's answer about one of its people. -/
import Derived.Test.YtdhpadcihlmhiaaQd
namespace Go.Proofs.Ytdhpadcihlmhiaa
open Go.ChangeShapes Go.WideShapes Go.ChangeAt Go.RowKit
set_option linter.unusedVariables false
set_option linter.unusedSimpArgs false

def hasP (p : PE) (s : ByteArray) (a : Int) : Prop := a ≤ p.lim ∧ hasS p.rn p.rz s = true
open Classical in
noncomputable def hasB (p : PE) (s : ByteArray) (a : Int) : Bool := decide (hasP p s a)
open Classical in
theorem hasB_t {p : PE} {s : ByteArray} {a : Int} (h : hasP p s a) : hasB p s a = true := by unfold hasB; exact decide_eq_true h
open Classical in
theorem hasB_f {p : PE} {s : ByteArray} {a : Int} (h : ¬ hasP p s a) : hasB p s a = false := by unfold hasB; exact decide_eq_false h
open Classical in
theorem hasB_of {p : PE} {s : ByteArray} {a : Int} (h : hasB p s a = true) : hasP p s a := by unfold hasB at h; exact of_decide_eq_true h
theorem hasB_s {p : PE} {s : ByteArray} {a : Int} (h : a ≤ p.lim) : hasB p s a = hasS p.rn p.rz s := by
  cases g : hasS p.rn p.rz s
  · exact hasB_f fun q => by have q2 := q.2; rw [g] at q2; cases q2
  · exact hasB_t ⟨h, g⟩
/-- What person j has counts for person u. -/
def forP (c : Nat → PE) (u j : Nat) : Prop := j = u ∨ ((c j).aw = true ∧ (c j).fr = (c u).nm)
open Classical in
noncomputable def gvB (c : Nat → PE) (u : Nat) (s : ByteArray) (a : Int) (j : Nat) : Bool := decide (forP c u j) && hasB (c j) s a
open Classical in
theorem gvB_t {c : Nat → PE} {u j : Nat} {s : ByteArray} {a : Int} (h : forP c u j) : gvB c u s a j = hasB (c j) s a := by unfold gvB; rw [decide_eq_true h]; rfl
open Classical in
theorem gvB_f {c : Nat → PE} {u j : Nat} {s : ByteArray} {a : Int} (h : ¬ forP c u j) : gvB c u s a j = false := by unfold gvB; rw [decide_eq_false h]; rfl
def MayP (n : Nat) (c : Nat → PE) (who : Int) (s : ByteArray) (a : Int) : Prop := PeP n c ∧ ∃ u : Nat, who = (u : Int) ∧ u < n ∧ (c u).aw = false ∧ ∃ j, j < n ∧ gvB c u s a j = true
open Classical in
noncomputable def mayB (n : Nat) (c : Nat → PE) (who : Int) (s : ByteArray) (a : Int) : Bool := decide (MayP n c who s a)
open Classical in
theorem mayB_t {n : Nat} {c : Nat → PE} {who : Int} {s : ByteArray} {a : Int} (h : MayP n c who s a) : mayB n c who s a = true := by unfold mayB; exact decide_eq_true h
open Classical in
theorem mayB_f {n : Nat} {c : Nat → PE} {who : Int} {s : ByteArray} {a : Int} (h : ¬ MayP n c who s a) : mayB n c who s a = false := by unfold mayB; exact decide_eq_false h
theorem mayB_u {n : Nat} {c : Nat → PE} {u : Nat} {s : ByteArray} {a : Int} (h : PeP n c) (hu : u < n) (ha : (c u).aw = false) : mayB n c (u : Int) s a = decide (0 ≤ fstF (gvB c u s a) n 0) := by
  rcases fstF_spec (gvB c u s a) n 0 with ⟨h1, h2⟩ | ⟨k, h1, _, h3, h4, _⟩
  · rw [h1]; refine (mayB_f ?_).trans (by simp)
    rintro ⟨_, u', e, _, _, j, hj, hg⟩
    obtain rfl : u = u' := by omega
    rw [h2 j (by omega) (by omega)] at hg; cases hg
  · rw [h1]; refine (mayB_t ⟨h, u, rfl, hu, ha, k, by omega, h4⟩).trans (by simp)
theorem noName : nameB noT = false := by
  have h : noT.size = 0 := rfl
  unfold nameB; rw [h]; simp
theorem colNil (w : World) (a : Addr) : (binOp .eql 50 (.pointer none) (.pointer (some a))).run Try.prog w = .ok (.bool false) w := by
  have h : ∀ d : Nat, (Op.equalIn (d + 1) 50 (.pointer none) (.pointer (some a))).run Try.prog w = .ok false w := fun d => by
    simp [Op.equalIn, run_underlying Try.underlying50]
  simp only [binOp]
  simp [Op.equal, Op.maxDepth, h 9999]

set_option maxRecDepth 20000 in
set_option maxHeartbeats 2000000 in
theorem has_eq (b : Nat) (p : PE) (ra : Option Addr) (rc : Nat) (x : Option Addr) (s : ByteArray) (a : Int) (v : Bool) (w : World) (hn : (p.rn : Int) ≤ 1048576) (hc : CB w b (colC p ra rc x) 54) (hr : STR w ra p.rn p.rz) (hv : hasB p s a = v) :
    Calls Try.prog 29 #[.pointer (some ⟨b, 0, none⟩), .string s, .int .i64 a] w fun e w' => e = .returned (.bool v) ∧ w' = w := by
  unfold colC at hc
  have HR := hid hr
  have k1 : w.cell? ⟨b, 1, none⟩ = some (.slice ra p.rn rc) := (hc.cell 1).trans rfl
  have k2 : w.cell? ⟨b, 2, none⟩ = some (.int .i64 p.lim) := (hc.cell 2).trans rfl
  clear hc hr
  by_cases g : a ≤ p.lim
  · have HV : Hid (hasS p.rn p.rz s = v) := hid (by rw [← hasB_s g]; exact hv)
    clear hv
    obtain ⟨nm, ra', rz, lim, fr, aw⟩ := p
    simp only at k1 k2 g hn
    go_enter Try.func29, Try.ntmps29
    go_wp2_with (go_at_call 34; refine (containsS_eq _ _ _ _ s _ _ hn HR.out HV.out).mono ?_; rintro e w1 ⟨rfl, ew⟩; replace ew := ew.symm; subst ew)
    go_returns
    exact ⟨rfl, rfl⟩
  · have HV : Hid (false = v) := hid (by rw [← hv]; exact (hasB_f fun q => g q.1).symm)
    clear hv
    go_enter Try.func29, Try.ntmps29
    go_wp2_with fail
    go_returns
    exact ⟨ret_bool HV.out, rfl⟩
end Go.Proofs.Ytdhpadcihlmhiaa
