/- Cells: one that is right by itself (ceB), both sides; areRight of the program over cells answers 'csB'. -/
import Derived.Test.YtpmnnfjabppahaaCe
import Derived.Test.YtpmnnfjabppahaaSm
import Derived.Deep.QuietTactic
namespace Go.Proofs.Ytpmnnfjabppahaa
open Go.ChangeShapes Go.WideShapes Go.ChangeAt Go.RowKit
set_option linter.unusedVariables false
set_option linter.unusedSimpArgs false

/-- The lowest place from s on, of f places, at which p holds; -1 if there is none. -/
def fstF (p : Nat → Bool) : Nat → Nat → Int
  | 0, _ => -1
  | f + 1, s => if p s = true then (s : Int) else fstF p f (s + 1)
theorem fstF_hit {p : Nat → Bool} {len k : Nat} (hk : k < len) (h : p k = true) : fstF p (len - k) k = (k : Int) := by
  obtain ⟨f, hf⟩ : ∃ f, len - k = f + 1 := ⟨len - k - 1, by omega⟩
  rw [hf]; exact if_pos h
theorem fstF_miss {p : Nat → Bool} {len k : Nat} (hk : k < len) (h : p k = false) : fstF p (len - k) k = fstF p (len - (k + 1)) (k + 1) := by
  obtain ⟨f, hf⟩ : ∃ f, len - k = f + 1 := ⟨len - k - 1, by omega⟩
  rw [hf, show len - (k + 1) = f by omega]; exact if_neg (by rw [h]; decide)
theorem fstF_end {p : Nat → Bool} {k : Nat} : fstF p (k - k) k = -1 := by rw [Nat.sub_self]; rfl
theorem fstF_spec (p : Nat → Bool) : ∀ f s, (fstF p f s = -1 ∧ ∀ j, s ≤ j → j < s + f → p j = false) ∨ ∃ k : Nat, fstF p f s = (k : Int) ∧ s ≤ k ∧ k < s + f ∧ p k = true ∧ ∀ j, s ≤ j → j < k → p j = false
  | 0, s => .inl ⟨rfl, fun j h1 h2 => by omega⟩
  | f + 1, s => by
    cases h : p s
    · have e : fstF p (f + 1) s = fstF p f (s + 1) := if_neg (by rw [h]; decide)
      rcases fstF_spec p f (s + 1) with ⟨h1, h2⟩ | ⟨k, h1, h2, h3, h4, h5⟩
      · refine .inl ⟨e.trans h1, fun j g1 g2 => ?_⟩
        by_cases q : j = s
        · subst q; exact h
        · exact h2 j (by omega) (by omega)
      · refine .inr ⟨k, e.trans h1, by omega, by omega, h4, fun j g1 g2 => ?_⟩
        by_cases q : j = s
        · subst q; exact h
        · exact h5 j (by omega) g2
    · exact .inr ⟨s, if_pos h, by omega, by omega, h, fun j g1 g2 => by omega⟩



theorem lists_t {s t : ByteArray} (h : s = t) : (s.toList == t.toList) = true := by subst h; simp
theorem lists_f {s t : ByteArray} (h : s ≠ t) : (s.toList == t.toList) = false := by
  cases g : (s.toList == t.toList)
  · rfl
  simp only [beq_iff_eq, ByteArray.toList_eq] at g
  exact absurd (by cases s; cases t; simpa using g) h
def noT : ByteArray := ⟨#[]⟩
theorem noT_nil : noT.toList = [] := by simp [noT, ByteArray.toList_eq]
theorem toList_nil {s : ByteArray} (h : s.toList = []) : s = noT := by
  by_cases e : s = noT
  · exact e
  · have := lists_f e
    rw [h, noT_nil] at this
    cases this
open Classical in
noncomputable def lotB (s : ByteArray) : Bool := decide (s = noT) || nameB s
theorem lotB_e {s : ByteArray} (h : s = noT) : lotB s = true := by simp [lotB, h]
theorem lotB_n {s : ByteArray} (h : ¬ s = noT) : lotB s = nameB s := by simp [lotB, h]
def CE6.val (r : CE6) : Value := .agg #[.string r.item, .string r.place, .string r.lot, .int .i64 r.exp, .int .i64 r.qty, .int .i64 r.hld]
noncomputable def ceB (r : CE6) : Bool := nameB r.item && nameB r.place && lotB r.lot && inB r.exp 0 40000 && inB r.qty 0 1000000 && inB r.hld 0 r.qty
def CsP (n : Nat) (c : Nat → CE6) : Prop := n ≤ 100 ∧ ∀ j, j < n → ceB (c j) = true
open Classical in
noncomputable def csB (n : Nat) (c : Nat → CE6) : Bool := decide (CsP n c)
open Classical in
theorem csB_t {n : Nat} {c : Nat → CE6} (h : CsP n c) : csB n c = true := by unfold csB; exact decide_eq_true h
open Classical in
theorem csB_f {n : Nat} {c : Nat → CE6} (h : ¬ CsP n c) : csB n c = false := by unfold csB; exact decide_eq_false h
open Classical in
theorem csB_p {n : Nat} {c : Nat → CE6} (h : csB n c = true) : CsP n c := by unfold csB at h; exact of_decide_eq_true h
theorem csB_bad {n j : Nat} {c : Nat → CE6} (hj : j < n) (h : ceB (c j) = false) : csB n c = false := csB_f fun H => by have := H.2 j hj; rw [h] at this; cases this
theorem ceB_p {r : CE6} (h : ceB r = true) : nameB r.item = true ∧ nameB r.place = true ∧ lotB r.lot = true ∧ (0 ≤ r.exp ∧ r.exp ≤ 40000) ∧ (0 ≤ r.qty ∧ r.qty ≤ 1000000) ∧ (0 ≤ r.hld ∧ r.hld ≤ r.qty) := by
  unfold ceB at h
  simp only [Bool.and_eq_true] at h
  exact ⟨h.1.1.1.1.1, h.1.1.1.1.2, h.1.1.1.2, inB_t h.1.1.2, inB_t h.1.2, inB_t h.2⟩
theorem implName_eq (s : ByteArray) (v : Bool) (w : World) (hs : s.size ≤ maxLen) (h : nameB s = v) : Calls Try.prog 88 #[.string s] w fun e w' => e = .returned (.bool v) ∧ w' = w := by
  subst h; exact implName_any s w hs
theorem specName_eq (s : ByteArray) (v : Bool) (w : World) (hs : s.size ≤ maxLen) (h : nameB s = v) : Calls Try.prog 66 #[.string s] w fun e w' => e = .returned (.bool v) ∧ w' = w := by
  subst h; exact specName_any s w hs
set_option maxRecDepth 20000 in
set_option maxHeartbeats 4000000 in
theorem ceRight_any (r : CE6) (w : World) (s1 : r.item.size ≤ maxLen) (s2 : r.place.size ≤ maxLen) (s3 : r.lot.size ≤ maxLen) : Calls Try.prog 124 #[r.val] w fun e w' => e = .returned (.bool (ceB r)) ∧ Below w.heap.size w w' := by
  obtain ⟨it, pl, lo, ex, qt, he⟩ := r
  unfold CE6.val
  have z1 : Hid (it.size ≤ maxLen) := s1
  have z2 : Hid (pl.size ≤ maxLen) := s2
  have z3 : Hid (lo.size ≤ maxLen) := s3
  clear s1 s2 s3
  cases h1 : nameB it
  · have HV : Hid (false = ceB ⟨it, pl, lo, ex, qt, he⟩) := hid (by simp [ceB, h1])
    go_enter Try.func124, Try.ntmps124
    go_wp2_with (first | (go_at_call_of 88 it; refine (implName_eq _ _ _ z1.out h1).mono ?_; rintro e w1 ⟨rfl, ew⟩; replace ew := ew.symm; subst ew) | (go_at_call_of 88 pl; refine (implName_eq _ _ _ z2.out h2).mono ?_; rintro e w1 ⟨rfl, ew⟩; replace ew := ew.symm; subst ew) | (go_at_call_of 88 lo; refine (implName_eq _ _ _ z3.out h3).mono ?_; rintro e w1 ⟨rfl, ew⟩; replace ew := ew.symm; subst ew) | (go_at_call 73; refine (isDay_eq _ _ _ h4).mono ?_; rintro e w1 ⟨rfl, ew⟩; replace ew := ew.symm; subst ew) | (go_at_call 85; refine (isQty_eq _ _ _ h5).mono ?_; rintro e w1 ⟨rfl, ew⟩; replace ew := ew.symm; subst ew))
    go_returns
    exact ⟨ret_bool HV.out, by go_grown⟩
  cases h2 : nameB pl
  · have HV : Hid (false = ceB ⟨it, pl, lo, ex, qt, he⟩) := hid (by simp [ceB, h1, h2])
    go_enter Try.func124, Try.ntmps124
    go_wp2_with (first | (go_at_call_of 88 it; refine (implName_eq _ _ _ z1.out h1).mono ?_; rintro e w1 ⟨rfl, ew⟩; replace ew := ew.symm; subst ew) | (go_at_call_of 88 pl; refine (implName_eq _ _ _ z2.out h2).mono ?_; rintro e w1 ⟨rfl, ew⟩; replace ew := ew.symm; subst ew) | (go_at_call_of 88 lo; refine (implName_eq _ _ _ z3.out h3).mono ?_; rintro e w1 ⟨rfl, ew⟩; replace ew := ew.symm; subst ew) | (go_at_call 73; refine (isDay_eq _ _ _ h4).mono ?_; rintro e w1 ⟨rfl, ew⟩; replace ew := ew.symm; subst ew) | (go_at_call 85; refine (isQty_eq _ _ _ h5).mono ?_; rintro e w1 ⟨rfl, ew⟩; replace ew := ew.symm; subst ew))
    go_returns
    exact ⟨ret_bool HV.out, by go_grown⟩
  by_cases hl : lo = noT
  · have e1 : lo.toList = [] := by rw [hl]; exact noT_nil
    have hlb : lotB lo = true := lotB_e hl
    have e2 : (lo.toList == []) = true := by simp [e1]
    clear hl
    cases h4 : inB ex 0 40000
    · have HV : Hid (false = ceB ⟨it, pl, lo, ex, qt, he⟩) := hid (by simp [ceB, h1, h2, hlb, h4])
      go_enter Try.func124, Try.ntmps124
      go_wp2_with (first | (go_at_call_of 88 it; refine (implName_eq _ _ _ z1.out h1).mono ?_; rintro e w1 ⟨rfl, ew⟩; replace ew := ew.symm; subst ew) | (go_at_call_of 88 pl; refine (implName_eq _ _ _ z2.out h2).mono ?_; rintro e w1 ⟨rfl, ew⟩; replace ew := ew.symm; subst ew) | (go_at_call_of 88 lo; refine (implName_eq _ _ _ z3.out h3).mono ?_; rintro e w1 ⟨rfl, ew⟩; replace ew := ew.symm; subst ew) | (go_at_call 73; refine (isDay_eq _ _ _ h4).mono ?_; rintro e w1 ⟨rfl, ew⟩; replace ew := ew.symm; subst ew) | (go_at_call 85; refine (isQty_eq _ _ _ h5).mono ?_; rintro e w1 ⟨rfl, ew⟩; replace ew := ew.symm; subst ew))
      go_returns
      exact ⟨ret_bool HV.out, by go_grown⟩
    cases h5 : inB qt 0 1000000
    · have HV : Hid (false = ceB ⟨it, pl, lo, ex, qt, he⟩) := hid (by simp [ceB, h1, h2, hlb, h4, h5])
      go_enter Try.func124, Try.ntmps124
      go_wp2_with (first | (go_at_call_of 88 it; refine (implName_eq _ _ _ z1.out h1).mono ?_; rintro e w1 ⟨rfl, ew⟩; replace ew := ew.symm; subst ew) | (go_at_call_of 88 pl; refine (implName_eq _ _ _ z2.out h2).mono ?_; rintro e w1 ⟨rfl, ew⟩; replace ew := ew.symm; subst ew) | (go_at_call_of 88 lo; refine (implName_eq _ _ _ z3.out h3).mono ?_; rintro e w1 ⟨rfl, ew⟩; replace ew := ew.symm; subst ew) | (go_at_call 73; refine (isDay_eq _ _ _ h4).mono ?_; rintro e w1 ⟨rfl, ew⟩; replace ew := ew.symm; subst ew) | (go_at_call 85; refine (isQty_eq _ _ _ h5).mono ?_; rintro e w1 ⟨rfl, ew⟩; replace ew := ew.symm; subst ew))
      go_returns
      exact ⟨ret_bool HV.out, by go_grown⟩
    by_cases g1 : 0 ≤ he
    rotate_left
    · have h6 : inB he 0 qt = false := by unfold inB; exact decide_eq_false (fun H => g1 H.1)
      have HV : Hid (false = ceB ⟨it, pl, lo, ex, qt, he⟩) := hid (by simp [ceB, h1, h2, hlb, h4, h5, h6])
      go_enter Try.func124, Try.ntmps124
      go_wp2_with (first | (go_at_call_of 88 it; refine (implName_eq _ _ _ z1.out h1).mono ?_; rintro e w1 ⟨rfl, ew⟩; replace ew := ew.symm; subst ew) | (go_at_call_of 88 pl; refine (implName_eq _ _ _ z2.out h2).mono ?_; rintro e w1 ⟨rfl, ew⟩; replace ew := ew.symm; subst ew) | (go_at_call_of 88 lo; refine (implName_eq _ _ _ z3.out h3).mono ?_; rintro e w1 ⟨rfl, ew⟩; replace ew := ew.symm; subst ew) | (go_at_call 73; refine (isDay_eq _ _ _ h4).mono ?_; rintro e w1 ⟨rfl, ew⟩; replace ew := ew.symm; subst ew) | (go_at_call 85; refine (isQty_eq _ _ _ h5).mono ?_; rintro e w1 ⟨rfl, ew⟩; replace ew := ew.symm; subst ew))
      go_returns
      exact ⟨ret_bool HV.out, by go_grown⟩
    by_cases g2 : he ≤ qt
    rotate_left
    · have h6 : inB he 0 qt = false := by unfold inB; exact decide_eq_false (fun H => g2 H.2)
      have g3 : decide (he ≤ qt) = false := decide_eq_false g2
      have HV : Hid (false = ceB ⟨it, pl, lo, ex, qt, he⟩) := hid (by simp [ceB, h1, h2, hlb, h4, h5, h6])
      go_enter Try.func124, Try.ntmps124
      go_wp2_with (first | (go_at_call_of 88 it; refine (implName_eq _ _ _ z1.out h1).mono ?_; rintro e w1 ⟨rfl, ew⟩; replace ew := ew.symm; subst ew) | (go_at_call_of 88 pl; refine (implName_eq _ _ _ z2.out h2).mono ?_; rintro e w1 ⟨rfl, ew⟩; replace ew := ew.symm; subst ew) | (go_at_call_of 88 lo; refine (implName_eq _ _ _ z3.out h3).mono ?_; rintro e w1 ⟨rfl, ew⟩; replace ew := ew.symm; subst ew) | (go_at_call 73; refine (isDay_eq _ _ _ h4).mono ?_; rintro e w1 ⟨rfl, ew⟩; replace ew := ew.symm; subst ew) | (go_at_call 85; refine (isQty_eq _ _ _ h5).mono ?_; rintro e w1 ⟨rfl, ew⟩; replace ew := ew.symm; subst ew))
      go_returns
      exact ⟨ret_bool HV.out, by go_grown⟩
    have h6 : inB he 0 qt = true := inB_y g1 g2
    have HV : Hid (true = ceB ⟨it, pl, lo, ex, qt, he⟩) := hid (by simp [ceB, h1, h2, hlb, h4, h5, h6])
    go_enter Try.func124, Try.ntmps124
    go_wp2_with (first | (go_at_call_of 88 it; refine (implName_eq _ _ _ z1.out h1).mono ?_; rintro e w1 ⟨rfl, ew⟩; replace ew := ew.symm; subst ew) | (go_at_call_of 88 pl; refine (implName_eq _ _ _ z2.out h2).mono ?_; rintro e w1 ⟨rfl, ew⟩; replace ew := ew.symm; subst ew) | (go_at_call_of 88 lo; refine (implName_eq _ _ _ z3.out h3).mono ?_; rintro e w1 ⟨rfl, ew⟩; replace ew := ew.symm; subst ew) | (go_at_call 73; refine (isDay_eq _ _ _ h4).mono ?_; rintro e w1 ⟨rfl, ew⟩; replace ew := ew.symm; subst ew) | (go_at_call 85; refine (isQty_eq _ _ _ h5).mono ?_; rintro e w1 ⟨rfl, ew⟩; replace ew := ew.symm; subst ew))
    go_returns
    exact ⟨ret_bool HV.out, by go_grown⟩
  have e1 : ¬ lo.toList = [] := fun q => hl (toList_nil q)
  have e2 : (lo.toList == []) = false := by simpa using e1
  have hln : lotB lo = nameB lo := lotB_n hl
  clear hl
  cases h3 : nameB lo
  · have HV : Hid (false = ceB ⟨it, pl, lo, ex, qt, he⟩) := hid (by simp [ceB, h1, h2, hln, h3])
    go_enter Try.func124, Try.ntmps124
    go_wp2_with (first | (go_at_call_of 88 it; refine (implName_eq _ _ _ z1.out h1).mono ?_; rintro e w1 ⟨rfl, ew⟩; replace ew := ew.symm; subst ew) | (go_at_call_of 88 pl; refine (implName_eq _ _ _ z2.out h2).mono ?_; rintro e w1 ⟨rfl, ew⟩; replace ew := ew.symm; subst ew) | (go_at_call_of 88 lo; refine (implName_eq _ _ _ z3.out h3).mono ?_; rintro e w1 ⟨rfl, ew⟩; replace ew := ew.symm; subst ew) | (go_at_call 73; refine (isDay_eq _ _ _ h4).mono ?_; rintro e w1 ⟨rfl, ew⟩; replace ew := ew.symm; subst ew) | (go_at_call 85; refine (isQty_eq _ _ _ h5).mono ?_; rintro e w1 ⟨rfl, ew⟩; replace ew := ew.symm; subst ew))
    go_returns
    exact ⟨ret_bool HV.out, by go_grown⟩
  cases h4 : inB ex 0 40000
  · have HV : Hid (false = ceB ⟨it, pl, lo, ex, qt, he⟩) := hid (by simp [ceB, h1, h2, hln, h3, h4])
    go_enter Try.func124, Try.ntmps124
    go_wp2_with (first | (go_at_call_of 88 it; refine (implName_eq _ _ _ z1.out h1).mono ?_; rintro e w1 ⟨rfl, ew⟩; replace ew := ew.symm; subst ew) | (go_at_call_of 88 pl; refine (implName_eq _ _ _ z2.out h2).mono ?_; rintro e w1 ⟨rfl, ew⟩; replace ew := ew.symm; subst ew) | (go_at_call_of 88 lo; refine (implName_eq _ _ _ z3.out h3).mono ?_; rintro e w1 ⟨rfl, ew⟩; replace ew := ew.symm; subst ew) | (go_at_call 73; refine (isDay_eq _ _ _ h4).mono ?_; rintro e w1 ⟨rfl, ew⟩; replace ew := ew.symm; subst ew) | (go_at_call 85; refine (isQty_eq _ _ _ h5).mono ?_; rintro e w1 ⟨rfl, ew⟩; replace ew := ew.symm; subst ew))
    go_returns
    exact ⟨ret_bool HV.out, by go_grown⟩
  cases h5 : inB qt 0 1000000
  · have HV : Hid (false = ceB ⟨it, pl, lo, ex, qt, he⟩) := hid (by simp [ceB, h1, h2, hln, h3, h4, h5])
    go_enter Try.func124, Try.ntmps124
    go_wp2_with (first | (go_at_call_of 88 it; refine (implName_eq _ _ _ z1.out h1).mono ?_; rintro e w1 ⟨rfl, ew⟩; replace ew := ew.symm; subst ew) | (go_at_call_of 88 pl; refine (implName_eq _ _ _ z2.out h2).mono ?_; rintro e w1 ⟨rfl, ew⟩; replace ew := ew.symm; subst ew) | (go_at_call_of 88 lo; refine (implName_eq _ _ _ z3.out h3).mono ?_; rintro e w1 ⟨rfl, ew⟩; replace ew := ew.symm; subst ew) | (go_at_call 73; refine (isDay_eq _ _ _ h4).mono ?_; rintro e w1 ⟨rfl, ew⟩; replace ew := ew.symm; subst ew) | (go_at_call 85; refine (isQty_eq _ _ _ h5).mono ?_; rintro e w1 ⟨rfl, ew⟩; replace ew := ew.symm; subst ew))
    go_returns
    exact ⟨ret_bool HV.out, by go_grown⟩
  by_cases g1 : 0 ≤ he
  rotate_left
  · have h6 : inB he 0 qt = false := by unfold inB; exact decide_eq_false (fun H => g1 H.1)
    have HV : Hid (false = ceB ⟨it, pl, lo, ex, qt, he⟩) := hid (by simp [ceB, h1, h2, hln, h3, h4, h5, h6])
    go_enter Try.func124, Try.ntmps124
    go_wp2_with (first | (go_at_call_of 88 it; refine (implName_eq _ _ _ z1.out h1).mono ?_; rintro e w1 ⟨rfl, ew⟩; replace ew := ew.symm; subst ew) | (go_at_call_of 88 pl; refine (implName_eq _ _ _ z2.out h2).mono ?_; rintro e w1 ⟨rfl, ew⟩; replace ew := ew.symm; subst ew) | (go_at_call_of 88 lo; refine (implName_eq _ _ _ z3.out h3).mono ?_; rintro e w1 ⟨rfl, ew⟩; replace ew := ew.symm; subst ew) | (go_at_call 73; refine (isDay_eq _ _ _ h4).mono ?_; rintro e w1 ⟨rfl, ew⟩; replace ew := ew.symm; subst ew) | (go_at_call 85; refine (isQty_eq _ _ _ h5).mono ?_; rintro e w1 ⟨rfl, ew⟩; replace ew := ew.symm; subst ew))
    go_returns
    exact ⟨ret_bool HV.out, by go_grown⟩
  by_cases g2 : he ≤ qt
  rotate_left
  · have h6 : inB he 0 qt = false := by unfold inB; exact decide_eq_false (fun H => g2 H.2)
    have g3 : decide (he ≤ qt) = false := decide_eq_false g2
    have HV : Hid (false = ceB ⟨it, pl, lo, ex, qt, he⟩) := hid (by simp [ceB, h1, h2, hln, h3, h4, h5, h6])
    go_enter Try.func124, Try.ntmps124
    go_wp2_with (first | (go_at_call_of 88 it; refine (implName_eq _ _ _ z1.out h1).mono ?_; rintro e w1 ⟨rfl, ew⟩; replace ew := ew.symm; subst ew) | (go_at_call_of 88 pl; refine (implName_eq _ _ _ z2.out h2).mono ?_; rintro e w1 ⟨rfl, ew⟩; replace ew := ew.symm; subst ew) | (go_at_call_of 88 lo; refine (implName_eq _ _ _ z3.out h3).mono ?_; rintro e w1 ⟨rfl, ew⟩; replace ew := ew.symm; subst ew) | (go_at_call 73; refine (isDay_eq _ _ _ h4).mono ?_; rintro e w1 ⟨rfl, ew⟩; replace ew := ew.symm; subst ew) | (go_at_call 85; refine (isQty_eq _ _ _ h5).mono ?_; rintro e w1 ⟨rfl, ew⟩; replace ew := ew.symm; subst ew))
    go_returns
    exact ⟨ret_bool HV.out, by go_grown⟩
  have h6 : inB he 0 qt = true := inB_y g1 g2
  have HV : Hid (true = ceB ⟨it, pl, lo, ex, qt, he⟩) := hid (by simp [ceB, h1, h2, hln, h3, h4, h5, h6])
  go_enter Try.func124, Try.ntmps124
  go_wp2_with (first | (go_at_call_of 88 it; refine (implName_eq _ _ _ z1.out h1).mono ?_; rintro e w1 ⟨rfl, ew⟩; replace ew := ew.symm; subst ew) | (go_at_call_of 88 pl; refine (implName_eq _ _ _ z2.out h2).mono ?_; rintro e w1 ⟨rfl, ew⟩; replace ew := ew.symm; subst ew) | (go_at_call_of 88 lo; refine (implName_eq _ _ _ z3.out h3).mono ?_; rintro e w1 ⟨rfl, ew⟩; replace ew := ew.symm; subst ew) | (go_at_call 73; refine (isDay_eq _ _ _ h4).mono ?_; rintro e w1 ⟨rfl, ew⟩; replace ew := ew.symm; subst ew) | (go_at_call 85; refine (isQty_eq _ _ _ h5).mono ?_; rintro e w1 ⟨rfl, ew⟩; replace ew := ew.symm; subst ew))
  go_returns
  exact ⟨ret_bool HV.out, by go_grown⟩
set_option maxRecDepth 20000 in
set_option maxHeartbeats 4000000 in
theorem l15Cell_any (r : CE6) (w : World) (s1 : r.item.size ≤ maxLen) (s2 : r.place.size ≤ maxLen) (s3 : r.lot.size ≤ maxLen) : Calls Try.prog 97 #[r.val] w fun e w' => e = .returned (.bool (ceB r)) ∧ Below w.heap.size w w' := by
  obtain ⟨it, pl, lo, ex, qt, he⟩ := r
  unfold CE6.val
  have z1 : Hid (it.size ≤ maxLen) := s1
  have z2 : Hid (pl.size ≤ maxLen) := s2
  have z3 : Hid (lo.size ≤ maxLen) := s3
  clear s1 s2 s3
  cases h1 : nameB it
  · have HV : Hid (false = ceB ⟨it, pl, lo, ex, qt, he⟩) := hid (by simp [ceB, h1])
    go_enter Try.func97, Try.ntmps97
    go_wp2_with (first | (go_at_call_of 66 it; refine (specName_eq _ _ _ z1.out h1).mono ?_; rintro e w1 ⟨rfl, ew⟩; replace ew := ew.symm; subst ew) | (go_at_call_of 66 pl; refine (specName_eq _ _ _ z2.out h2).mono ?_; rintro e w1 ⟨rfl, ew⟩; replace ew := ew.symm; subst ew) | (go_at_call_of 66 lo; refine (specName_eq _ _ _ z3.out h3).mono ?_; rintro e w1 ⟨rfl, ew⟩; replace ew := ew.symm; subst ew) | (go_at_call 78; refine (l2Day_eq _ _ _ h4).mono ?_; rintro e w1 ⟨rfl, ew⟩; replace ew := ew.symm; subst ew) | (go_at_call 67; refine (l12Qty_eq _ _ _ h5).mono ?_; rintro e w1 ⟨rfl, ew⟩; replace ew := ew.symm; subst ew) | (go_at_call 63; refine (l1In_eq _ _ _ _ _ h6).mono ?_; rintro e w1 ⟨rfl, ew⟩; replace ew := ew.symm; subst ew))
    go_returns
    exact ⟨ret_bool HV.out, by go_grown⟩
  cases h2 : nameB pl
  · have HV : Hid (false = ceB ⟨it, pl, lo, ex, qt, he⟩) := hid (by simp [ceB, h1, h2])
    go_enter Try.func97, Try.ntmps97
    go_wp2_with (first | (go_at_call_of 66 it; refine (specName_eq _ _ _ z1.out h1).mono ?_; rintro e w1 ⟨rfl, ew⟩; replace ew := ew.symm; subst ew) | (go_at_call_of 66 pl; refine (specName_eq _ _ _ z2.out h2).mono ?_; rintro e w1 ⟨rfl, ew⟩; replace ew := ew.symm; subst ew) | (go_at_call_of 66 lo; refine (specName_eq _ _ _ z3.out h3).mono ?_; rintro e w1 ⟨rfl, ew⟩; replace ew := ew.symm; subst ew) | (go_at_call 78; refine (l2Day_eq _ _ _ h4).mono ?_; rintro e w1 ⟨rfl, ew⟩; replace ew := ew.symm; subst ew) | (go_at_call 67; refine (l12Qty_eq _ _ _ h5).mono ?_; rintro e w1 ⟨rfl, ew⟩; replace ew := ew.symm; subst ew) | (go_at_call 63; refine (l1In_eq _ _ _ _ _ h6).mono ?_; rintro e w1 ⟨rfl, ew⟩; replace ew := ew.symm; subst ew))
    go_returns
    exact ⟨ret_bool HV.out, by go_grown⟩
  by_cases hl : lo = noT
  · have e1 : lo.toList = [] := by rw [hl]; exact noT_nil
    have hlb : lotB lo = true := lotB_e hl
    have e2 : (lo.toList == []) = true := by simp [e1]
    clear hl
    cases h4 : inB ex 0 40000
    · have HV : Hid (false = ceB ⟨it, pl, lo, ex, qt, he⟩) := hid (by simp [ceB, h1, h2, hlb, h4])
      go_enter Try.func97, Try.ntmps97
      go_wp2_with (first | (go_at_call_of 66 it; refine (specName_eq _ _ _ z1.out h1).mono ?_; rintro e w1 ⟨rfl, ew⟩; replace ew := ew.symm; subst ew) | (go_at_call_of 66 pl; refine (specName_eq _ _ _ z2.out h2).mono ?_; rintro e w1 ⟨rfl, ew⟩; replace ew := ew.symm; subst ew) | (go_at_call_of 66 lo; refine (specName_eq _ _ _ z3.out h3).mono ?_; rintro e w1 ⟨rfl, ew⟩; replace ew := ew.symm; subst ew) | (go_at_call 78; refine (l2Day_eq _ _ _ h4).mono ?_; rintro e w1 ⟨rfl, ew⟩; replace ew := ew.symm; subst ew) | (go_at_call 67; refine (l12Qty_eq _ _ _ h5).mono ?_; rintro e w1 ⟨rfl, ew⟩; replace ew := ew.symm; subst ew) | (go_at_call 63; refine (l1In_eq _ _ _ _ _ h6).mono ?_; rintro e w1 ⟨rfl, ew⟩; replace ew := ew.symm; subst ew))
      go_returns
      exact ⟨ret_bool HV.out, by go_grown⟩
    cases h5 : inB qt 0 1000000
    · have HV : Hid (false = ceB ⟨it, pl, lo, ex, qt, he⟩) := hid (by simp [ceB, h1, h2, hlb, h4, h5])
      go_enter Try.func97, Try.ntmps97
      go_wp2_with (first | (go_at_call_of 66 it; refine (specName_eq _ _ _ z1.out h1).mono ?_; rintro e w1 ⟨rfl, ew⟩; replace ew := ew.symm; subst ew) | (go_at_call_of 66 pl; refine (specName_eq _ _ _ z2.out h2).mono ?_; rintro e w1 ⟨rfl, ew⟩; replace ew := ew.symm; subst ew) | (go_at_call_of 66 lo; refine (specName_eq _ _ _ z3.out h3).mono ?_; rintro e w1 ⟨rfl, ew⟩; replace ew := ew.symm; subst ew) | (go_at_call 78; refine (l2Day_eq _ _ _ h4).mono ?_; rintro e w1 ⟨rfl, ew⟩; replace ew := ew.symm; subst ew) | (go_at_call 67; refine (l12Qty_eq _ _ _ h5).mono ?_; rintro e w1 ⟨rfl, ew⟩; replace ew := ew.symm; subst ew) | (go_at_call 63; refine (l1In_eq _ _ _ _ _ h6).mono ?_; rintro e w1 ⟨rfl, ew⟩; replace ew := ew.symm; subst ew))
      go_returns
      exact ⟨ret_bool HV.out, by go_grown⟩
    cases h6 : inB he 0 qt
    · have HV : Hid (false = ceB ⟨it, pl, lo, ex, qt, he⟩) := hid (by simp [ceB, h1, h2, hlb, h4, h5, h6])
      go_enter Try.func97, Try.ntmps97
      go_wp2_with (first | (go_at_call_of 66 it; refine (specName_eq _ _ _ z1.out h1).mono ?_; rintro e w1 ⟨rfl, ew⟩; replace ew := ew.symm; subst ew) | (go_at_call_of 66 pl; refine (specName_eq _ _ _ z2.out h2).mono ?_; rintro e w1 ⟨rfl, ew⟩; replace ew := ew.symm; subst ew) | (go_at_call_of 66 lo; refine (specName_eq _ _ _ z3.out h3).mono ?_; rintro e w1 ⟨rfl, ew⟩; replace ew := ew.symm; subst ew) | (go_at_call 78; refine (l2Day_eq _ _ _ h4).mono ?_; rintro e w1 ⟨rfl, ew⟩; replace ew := ew.symm; subst ew) | (go_at_call 67; refine (l12Qty_eq _ _ _ h5).mono ?_; rintro e w1 ⟨rfl, ew⟩; replace ew := ew.symm; subst ew) | (go_at_call 63; refine (l1In_eq _ _ _ _ _ h6).mono ?_; rintro e w1 ⟨rfl, ew⟩; replace ew := ew.symm; subst ew))
      go_returns
      exact ⟨ret_bool HV.out, by go_grown⟩
    have HV : Hid (true = ceB ⟨it, pl, lo, ex, qt, he⟩) := hid (by simp [ceB, h1, h2, hlb, h4, h5, h6])
    go_enter Try.func97, Try.ntmps97
    go_wp2_with (first | (go_at_call_of 66 it; refine (specName_eq _ _ _ z1.out h1).mono ?_; rintro e w1 ⟨rfl, ew⟩; replace ew := ew.symm; subst ew) | (go_at_call_of 66 pl; refine (specName_eq _ _ _ z2.out h2).mono ?_; rintro e w1 ⟨rfl, ew⟩; replace ew := ew.symm; subst ew) | (go_at_call_of 66 lo; refine (specName_eq _ _ _ z3.out h3).mono ?_; rintro e w1 ⟨rfl, ew⟩; replace ew := ew.symm; subst ew) | (go_at_call 78; refine (l2Day_eq _ _ _ h4).mono ?_; rintro e w1 ⟨rfl, ew⟩; replace ew := ew.symm; subst ew) | (go_at_call 67; refine (l12Qty_eq _ _ _ h5).mono ?_; rintro e w1 ⟨rfl, ew⟩; replace ew := ew.symm; subst ew) | (go_at_call 63; refine (l1In_eq _ _ _ _ _ h6).mono ?_; rintro e w1 ⟨rfl, ew⟩; replace ew := ew.symm; subst ew))
    go_returns
    exact ⟨ret_bool HV.out, by go_grown⟩
  have e1 : ¬ lo.toList = [] := fun q => hl (toList_nil q)
  have e2 : (lo.toList == []) = false := by simpa using e1
  have hln : lotB lo = nameB lo := lotB_n hl
  clear hl
  cases h3 : nameB lo
  · have HV : Hid (false = ceB ⟨it, pl, lo, ex, qt, he⟩) := hid (by simp [ceB, h1, h2, hln, h3])
    go_enter Try.func97, Try.ntmps97
    go_wp2_with (first | (go_at_call_of 66 it; refine (specName_eq _ _ _ z1.out h1).mono ?_; rintro e w1 ⟨rfl, ew⟩; replace ew := ew.symm; subst ew) | (go_at_call_of 66 pl; refine (specName_eq _ _ _ z2.out h2).mono ?_; rintro e w1 ⟨rfl, ew⟩; replace ew := ew.symm; subst ew) | (go_at_call_of 66 lo; refine (specName_eq _ _ _ z3.out h3).mono ?_; rintro e w1 ⟨rfl, ew⟩; replace ew := ew.symm; subst ew) | (go_at_call 78; refine (l2Day_eq _ _ _ h4).mono ?_; rintro e w1 ⟨rfl, ew⟩; replace ew := ew.symm; subst ew) | (go_at_call 67; refine (l12Qty_eq _ _ _ h5).mono ?_; rintro e w1 ⟨rfl, ew⟩; replace ew := ew.symm; subst ew) | (go_at_call 63; refine (l1In_eq _ _ _ _ _ h6).mono ?_; rintro e w1 ⟨rfl, ew⟩; replace ew := ew.symm; subst ew))
    go_returns
    exact ⟨ret_bool HV.out, by go_grown⟩
  cases h4 : inB ex 0 40000
  · have HV : Hid (false = ceB ⟨it, pl, lo, ex, qt, he⟩) := hid (by simp [ceB, h1, h2, hln, h3, h4])
    go_enter Try.func97, Try.ntmps97
    go_wp2_with (first | (go_at_call_of 66 it; refine (specName_eq _ _ _ z1.out h1).mono ?_; rintro e w1 ⟨rfl, ew⟩; replace ew := ew.symm; subst ew) | (go_at_call_of 66 pl; refine (specName_eq _ _ _ z2.out h2).mono ?_; rintro e w1 ⟨rfl, ew⟩; replace ew := ew.symm; subst ew) | (go_at_call_of 66 lo; refine (specName_eq _ _ _ z3.out h3).mono ?_; rintro e w1 ⟨rfl, ew⟩; replace ew := ew.symm; subst ew) | (go_at_call 78; refine (l2Day_eq _ _ _ h4).mono ?_; rintro e w1 ⟨rfl, ew⟩; replace ew := ew.symm; subst ew) | (go_at_call 67; refine (l12Qty_eq _ _ _ h5).mono ?_; rintro e w1 ⟨rfl, ew⟩; replace ew := ew.symm; subst ew) | (go_at_call 63; refine (l1In_eq _ _ _ _ _ h6).mono ?_; rintro e w1 ⟨rfl, ew⟩; replace ew := ew.symm; subst ew))
    go_returns
    exact ⟨ret_bool HV.out, by go_grown⟩
  cases h5 : inB qt 0 1000000
  · have HV : Hid (false = ceB ⟨it, pl, lo, ex, qt, he⟩) := hid (by simp [ceB, h1, h2, hln, h3, h4, h5])
    go_enter Try.func97, Try.ntmps97
    go_wp2_with (first | (go_at_call_of 66 it; refine (specName_eq _ _ _ z1.out h1).mono ?_; rintro e w1 ⟨rfl, ew⟩; replace ew := ew.symm; subst ew) | (go_at_call_of 66 pl; refine (specName_eq _ _ _ z2.out h2).mono ?_; rintro e w1 ⟨rfl, ew⟩; replace ew := ew.symm; subst ew) | (go_at_call_of 66 lo; refine (specName_eq _ _ _ z3.out h3).mono ?_; rintro e w1 ⟨rfl, ew⟩; replace ew := ew.symm; subst ew) | (go_at_call 78; refine (l2Day_eq _ _ _ h4).mono ?_; rintro e w1 ⟨rfl, ew⟩; replace ew := ew.symm; subst ew) | (go_at_call 67; refine (l12Qty_eq _ _ _ h5).mono ?_; rintro e w1 ⟨rfl, ew⟩; replace ew := ew.symm; subst ew) | (go_at_call 63; refine (l1In_eq _ _ _ _ _ h6).mono ?_; rintro e w1 ⟨rfl, ew⟩; replace ew := ew.symm; subst ew))
    go_returns
    exact ⟨ret_bool HV.out, by go_grown⟩
  cases h6 : inB he 0 qt
  · have HV : Hid (false = ceB ⟨it, pl, lo, ex, qt, he⟩) := hid (by simp [ceB, h1, h2, hln, h3, h4, h5, h6])
    go_enter Try.func97, Try.ntmps97
    go_wp2_with (first | (go_at_call_of 66 it; refine (specName_eq _ _ _ z1.out h1).mono ?_; rintro e w1 ⟨rfl, ew⟩; replace ew := ew.symm; subst ew) | (go_at_call_of 66 pl; refine (specName_eq _ _ _ z2.out h2).mono ?_; rintro e w1 ⟨rfl, ew⟩; replace ew := ew.symm; subst ew) | (go_at_call_of 66 lo; refine (specName_eq _ _ _ z3.out h3).mono ?_; rintro e w1 ⟨rfl, ew⟩; replace ew := ew.symm; subst ew) | (go_at_call 78; refine (l2Day_eq _ _ _ h4).mono ?_; rintro e w1 ⟨rfl, ew⟩; replace ew := ew.symm; subst ew) | (go_at_call 67; refine (l12Qty_eq _ _ _ h5).mono ?_; rintro e w1 ⟨rfl, ew⟩; replace ew := ew.symm; subst ew) | (go_at_call 63; refine (l1In_eq _ _ _ _ _ h6).mono ?_; rintro e w1 ⟨rfl, ew⟩; replace ew := ew.symm; subst ew))
    go_returns
    exact ⟨ret_bool HV.out, by go_grown⟩
  have HV : Hid (true = ceB ⟨it, pl, lo, ex, qt, he⟩) := hid (by simp [ceB, h1, h2, hln, h3, h4, h5, h6])
  go_enter Try.func97, Try.ntmps97
  go_wp2_with (first | (go_at_call_of 66 it; refine (specName_eq _ _ _ z1.out h1).mono ?_; rintro e w1 ⟨rfl, ew⟩; replace ew := ew.symm; subst ew) | (go_at_call_of 66 pl; refine (specName_eq _ _ _ z2.out h2).mono ?_; rintro e w1 ⟨rfl, ew⟩; replace ew := ew.symm; subst ew) | (go_at_call_of 66 lo; refine (specName_eq _ _ _ z3.out h3).mono ?_; rintro e w1 ⟨rfl, ew⟩; replace ew := ew.symm; subst ew) | (go_at_call 78; refine (l2Day_eq _ _ _ h4).mono ?_; rintro e w1 ⟨rfl, ew⟩; replace ew := ew.symm; subst ew) | (go_at_call 67; refine (l12Qty_eq _ _ _ h5).mono ?_; rintro e w1 ⟨rfl, ew⟩; replace ew := ew.symm; subst ew) | (go_at_call 63; refine (l1In_eq _ _ _ _ _ h6).mono ?_; rintro e w1 ⟨rfl, ew⟩; replace ew := ew.symm; subst ew))
  go_returns
  exact ⟨ret_bool HV.out, by go_grown⟩
theorem l15Cell_eq (r : CE6) (v : Bool) (w : World) (s1 : r.item.size ≤ maxLen) (s2 : r.place.size ≤ maxLen) (s3 : r.lot.size ≤ maxLen) (h : ceB r = v) : Calls Try.prog 97 #[r.val] w fun e w' => e = .returned (.bool v) ∧ Below w.heap.size w w' := by
  subst h; exact l15Cell_any r w s1 s2 s3
theorem ceRight_eq (r : CE6) (v : Bool) (w : World) (s1 : r.item.size ≤ maxLen) (s2 : r.place.size ≤ maxLen) (s3 : r.lot.size ≤ maxLen) (h : ceB r = v) : Calls Try.prog 124 #[r.val] w fun e w' => e = .returned (.bool v) ∧ Below w.heap.size w w' := by
  subst h; exact ceRight_any r w s1 s2 s3
theorem ceWrong_eq (r : CE6) (v : Bool) (w : World) (s1 : r.item.size ≤ maxLen) (s2 : r.place.size ≤ maxLen) (s3 : r.lot.size ≤ maxLen) (h : ceB r = v) : Calls Try.prog 112 #[r.val] w fun e w' => e = .returned (.bool (!v)) ∧ Below w.heap.size w w' := by
  have HV : Hid (ceB r = v) := h
  have HS : Hid (r.item.size ≤ maxLen ∧ r.place.size ≤ maxLen ∧ r.lot.size ≤ maxLen) := ⟨s1, s2, s3⟩
  clear h s1 s2 s3
  obtain ⟨it, pl, lo, ex, qt, he⟩ := r
  unfold CE6.val
  have hn : ∀ w, (nilAhead 292 28 (.agg #[.string it, .string pl, .string lo, .int .i64 ex, .int .i64 qt, .int .i64 he]) "loop.example/g00040/impl.isRight").run Try.prog w = .ok (some false) w := fun w => by kernel_rfl
  have hm : ∀ w, (method 292 28 (.agg #[.string it, .string pl, .string lo, .int .i64 ex, .int .i64 qt, .int .i64 he]) "loop.example/g00040/impl.isRight").run Try.prog w = .ok (124, .agg #[.string it, .string pl, .string lo, .int .i64 ex, .int .i64 qt, .int .i64 he]) w := fun w => by kernel_rfl
  go_enter Try.func112, Try.ntmps112
  go_wp2_with (go_at_call 124; refine (ceRight_eq ⟨it, pl, lo, ex, qt, he⟩ _ _ HS.out.1 HS.out.2.1 HS.out.2.2 HV.out).mono ?_; rintro e w1 ⟨rfl, b1⟩; have HB : Hid (Below w.heap.size w w1) := bel_on ((Below.refl _ _).alloc (Nat.le_refl _) _) b1; clear b1)
  go_returns
  exact ⟨rfl, HB.out⟩

set_option maxRecDepth 20000 in
set_option maxHeartbeats 2000000 in
theorem idxCell_any (ad : Option Addr) (len cap : Nat) (c : Nat → CE6) (w : World) (h : (len : Int) ≤ 1048576) (hr : CEr w ad len c) (hz : ∀ j, (c j).item.size ≤ maxLen ∧ (c j).place.size ≤ maxLen ∧ (c j).lot.size ≤ maxLen) :
    Calls Try.prog 126 #[.slice ad len cap, .func (Fn.func 112) #[] #[]] w fun e w' => e = .returned (.int .i64 (fstF (fun j => !ceB (c j)) len 0)) ∧ Below w.heap.size w w' := by
  have HR : Hid (CEr w ad len c) := hr
  have HZ : Hid (∀ j, (c j).item.size ≤ maxLen ∧ (c j).place.size ≤ maxLen ∧ (c j).lot.size ≤ maxLen) := hz
  clear hr hz
  go_enter Try.func126, Try.ntmps126
  go_wp2
  go_loopw [8] (fun i wr => ∃ k : Nat, k ≤ len ∧ i = .int .i64 (k : Int) ∧ Hid (fstF (fun j => !ceB (c j)) (len - k) k = fstF (fun j => !ceB (c j)) len 0) ∧ Hid (Below w.heap.size w wr)) (fun i _ => len - (intOf i).toNat)
  case atStart => exact ⟨0, Nat.zero_le _, rfl, rfl, Below.refl _ _⟩
  case round =>
    obtain ⟨k, hk, rfl, hP, HB⟩ := hrel
    by_cases hlt : k < len
    · have hlt2 : (k : Int) < (len : Int) := by omega
      obtain ⟨kb, off, rfl, _⟩ := HR.out.addr (by omega)
      obtain ⟨c0, c1, c2, c3, c4, c5⟩ := (HR.out.below HB.out).cell hlt
      cases g : ceB (c k)
      · have HF : Hid (fstF (fun j => !ceB (c j)) len 0 = (k : Int)) := hid (by rw [← hP.out]; exact fstF_hit hlt (by simp [g]))
        have HG : Hid (ceB (c k) = false) := g
        clear g
        go_wp2_with (go_at_call 112; refine (ceWrong_eq (c k) _ _ (HZ.out k).1 (HZ.out k).2.1 (HZ.out k).2.2 HG.out).mono ?_; rintro e w1 ⟨rfl, b1⟩; have HB1 : Hid (Below w.heap.size w w1) := bel_on HB.out b1; clear b1)
        go_returns
        exact ⟨ret_i HF.out.symm, HB1.out⟩
      · have HF : Hid (fstF (fun j => !ceB (c j)) (len - (k + 1)) (k + 1) = fstF (fun j => !ceB (c j)) len 0) := hid (by rw [← hP.out]; exact (fstF_miss hlt (by simp [g])).symm)
        have HG : Hid (ceB (c k) = true) := g
        clear g
        go_wp2_with (go_at_call 112; refine (ceWrong_eq (c k) _ _ (HZ.out k).1 (HZ.out k).2.1 (HZ.out k).2.2 HG.out).mono ?_; rintro e w1 ⟨rfl, b1⟩; have HB1 : Hid (Below w.heap.size w w1) := bel_on HB.out b1; clear b1)
        go_roundw
        case rel => exact ⟨k + 1, by omega, by go_num, HF, HB1⟩
        case measure => simp [intOf]; omega
    · obtain rfl : k = len := by omega
      have lkk : ¬ (k : Int) < (k : Int) := by omega
      have HF : Hid (fstF (fun j => !ceB (c j)) k 0 = -1) := hid (by rw [← hP.out]; exact fstF_end)
      go_wp2
      go_returns
      exact ⟨ret_i HF.out.symm, HB.out⟩

theorem anyCell (ad : Option Addr) (len cap : Nat) (c : Nat → CE6) (v : Bool) (w : World) (h : (len : Int) ≤ 1048576) (hr : CEr w ad len c) (hz : ∀ j, (c j).item.size ≤ maxLen ∧ (c j).place.size ≤ maxLen ∧ (c j).lot.size ≤ maxLen) (hv : decide (0 ≤ fstF (fun j => !ceB (c j)) len 0) = v) :
    Calls Try.prog 111 #[.slice ad len cap, .func (Fn.func 112) #[] #[]] w fun e w' => e = .returned (.bool v) ∧ Below w.heap.size w w' := by
  have HC := idxCell_any ad len cap c w h hr hz
  obtain ⟨x, hx⟩ : ∃ x, fstF (fun j => !ceB (c j)) len 0 = x := ⟨_, rfl⟩
  rw [hx] at HC hv
  have HC2 : Hid (Calls Try.prog 126 #[.slice ad len cap, .func (Fn.func 112) #[] #[]] w fun e w' => e = .returned (.int .i64 x) ∧ Below w.heap.size w w') := HC
  obtain ⟨fv, hf⟩ : ∃ f, Value.func (Fn.func 112) #[] #[] = f := ⟨_, rfl⟩
  rw [hf] at HC2 ⊢
  clear HC hr hz hx hf
  subst hv
  go_enter Try.func111, Try.ntmps111
  go_wp2_with (go_at_call 126; refine HC2.out.mono ?_; rintro e w1 ⟨rfl, b1⟩)
  all_goals go_returns
  all_goals exact ⟨rfl, b1⟩
theorem fst_csB {len : Nat} {c : Nat → CE6} (h6 : len ≤ 100) : csB len c = !decide (0 ≤ fstF (fun j => !ceB (c j)) len 0) := by
  rcases fstF_spec (fun j => !ceB (c j)) len 0 with ⟨h, g⟩ | ⟨k, h, _, hk, hp, _⟩
  · rw [h, csB_t ⟨h6, fun j hj => by have := g j (by omega) (by omega); simpa using this⟩]; rfl
  · rw [h, csB_bad (j := k) (by omega) (by simpa using hp)]; simp

set_option maxRecDepth 20000 in
set_option maxHeartbeats 2000000 in
theorem areRCell_any (ad : Option Addr) (len cap : Nat) (c : Nat → CE6) (w : World) (h : (len : Int) ≤ 1048576) (hr : CEr w ad len c) (hz : ∀ j, (c j).item.size ≤ maxLen ∧ (c j).place.size ≤ maxLen ∧ (c j).lot.size ≤ maxLen) :
    Calls Try.prog 70 #[.slice ad len cap, .int .i64 100] w fun e w' => e = .returned (.bool (csB len c)) ∧ Below w.heap.size w w' := by
  have HR : Hid (CEr w ad len c) := hr
  have HZ : Hid (∀ j, (c j).item.size ≤ maxLen ∧ (c j).place.size ≤ maxLen ∧ (c j).lot.size ≤ maxLen) := hz
  clear hr hz
  by_cases h6 : (100 : Int) < (len : Int)
  · have HV : Hid (csB len c = false) := csB_f fun H => by have := H.1; omega
    have h7 : ¬ (len : Int) ≤ 100 := by omega
    go_enter Try.func70, Try.ntmps70
    go_wp2
    go_returns
    exact ⟨ret_bool HV.out.symm, Below.refl _ _⟩
  have g6 : (len : Int) ≤ 100 := by omega
  clear h6
  obtain ⟨v, hv⟩ : ∃ v, decide (0 ≤ fstF (fun j => !ceB (c j)) len 0) = v := ⟨_, rfl⟩
  have HV : Hid (csB len c = !v) := hid (by rw [fst_csB (by omega), hv])
  have HW : Hid (decide (0 ≤ fstF (fun j => !ceB (c j)) len 0) = v) := hv
  clear hv
  go_enter Try.func70, Try.ntmps70
  go_wp2_with (go_at_call 111; refine (anyCell ad len cap c v w h HR.out HZ.out HW.out).mono ?_; rintro e w1 ⟨rfl, b1⟩)
  go_returns
  exact ⟨ret_bool HV.out.symm, b1⟩

end Go.Proofs.Ytpmnnfjabppahaa
