/- The program's tests of a text, a day, an amount, a line, and of an entry's lines. -/
import Derived.Test.YtapailihjlfkgaaDoorFm
import Derived.Test.YtapailihjlfkgaaDoorIe
import Derived.Test.YtapailihjlfkgaaDoorHp
namespace Go.Proofs.YtapailihjlfkgaaDoor
open Go.ChangeShapes Go.WideShapes Go.ChangeAt Go.RowKit
set_option linter.unusedVariables false
set_option linter.unusedSimpArgs false

theorem isDay_any (x : Int) (w : World) : Calls Tryd.prog 72 #[.int .i64 x] w fun e w' => e = .returned (.bool (inB x 0 40000)) ∧ w' = w := by
  go_enter Tryd.func72, Tryd.ntmps72
  go_wp2
  all_goals go_returns
  all_goals exact ⟨ret_bool (by unfold inB; rw [Bool.eq_iff_iff]; simp; try omega), rfl⟩
theorem isAmount_any (x : Int) (w : World) : Calls Tryd.prog 78 #[.int .i64 x] w fun e w' => e = .returned (.bool (inB x (-100000000000) 100000000000)) ∧ w' = w := by
  go_enter Tryd.func78, Tryd.ntmps78
  go_wp2
  all_goals go_returns
  all_goals exact ⟨ret_bool (by unfold inB; rw [Bool.eq_iff_iff]; simp; try omega), rfl⟩

/-- A text that may be told: at most 40 bytes, none below 32. -/
noncomputable def txB (s : ByteArray) : Bool := @decide (s.size ≤ 40 ∧ ∀ i, i < s.size → 32 ≤ byN s i) (Classical.propDecidable _)
theorem txB_t {s : ByteArray} (h1 : s.size ≤ 40) (h2 : ∀ i, i < s.size → 32 ≤ byN s i) : txB s = true := @decide_eq_true _ (Classical.propDecidable _) ⟨h1, h2⟩
theorem txB_f {s : ByteArray} (h : ¬ (s.size ≤ 40 ∧ ∀ i, i < s.size → 32 ≤ byN s i)) : txB s = false := @decide_eq_false _ (Classical.propDecidable _) h

set_option maxHeartbeats 1000000 in
theorem isText_any (s : ByteArray) (w : World) : Calls Tryd.prog 73 #[.string s] w fun e w' => e = .returned (.bool (txB s)) ∧ w' = w := by
  by_cases h : (s.size : Int) ≤ 40
  · go_enter Tryd.func73, Tryd.ntmps73
    go_wp2
    go_loop [9] (fun i => ∃ k : Nat, k ≤ s.size ∧ i = .int .i64 (k : Int) ∧ Hid (∀ i, i < k → 32 ≤ byN s i)) (fun i => s.size - (intOf i).toNat)
    case atStart => exact ⟨0, Nat.zero_le _, rfl, fun i hi => by omega⟩
    case round =>
      obtain ⟨k, hk, rfl, HA⟩ := hrel
      by_cases hlt : k < s.size
      · have HBY : Hid (byN s k = (s[k].toNat : Int)) := byN_at s k hlt
        have hby := s[k].toNat_lt
        by_cases g : 32 ≤ (s[k].toNat : Int)
        · go_wp2
          go_round
          case rel => exact ⟨k + 1, by omega, by go_num, fun i hi => by
            by_cases hik : i = k
            · rw [hik, HBY.out]; exact g
            · exact HA.out i (by omega)⟩
          case measure => simp [intOf]; omega
        · have HF : Hid (txB s = false) := txB_f (fun q => g (by have := q.2 k hlt; rw [HBY.out] at this; exact this))
          go_wp2
          go_returns
          exact ⟨ret_bool' HF.out, rfl⟩
      · obtain rfl : k = s.size := by omega
        have HT : Hid (txB s = true) := txB_t (by omega) HA.out
        go_wp2
        go_returns
        exact ⟨ret_bool' HT.out, rfl⟩
  · have HF : Hid (txB s = false) := txB_f (fun q => h (by omega))
    go_enter Tryd.func73, Tryd.ntmps73
    go_wp2
    go_returns
    exact ⟨ret_bool' HF.out, rfl⟩

/-- A line that a frame takes. -/
noncomputable def lnB (len : Nat) (c : Nat → C3) (d u : Int) (l : L5) : Bool :=
  leafB len c l.acc && (inB l.dim 0 (d - 1) && (inB l.cur 0 (u - 1) && (inB l.amt (-100000000000) 100000000000 && (inB l.base (-100000000000) 100000000000 && (decide (l.cur ≠ 0) || decide (l.amt = l.base))))))

set_option maxRecDepth 20000 in
set_option maxHeartbeats 4000000 in
theorem takesLine_any (fa : Option Addr) (len cap : Nat) (c : Nat → C3) (d u : Int) (T : Nat) (l : L5) (w : World) (h : Tree w T len c) :
    Calls Tryd.prog 103 #[.agg #[.slice fa len cap, .int .i64 d, .int .i64 u, .pointer (some ⟨T, 0, none⟩)], l.agg] w fun e w' => e = .returned (.bool (lnB len c d u l)) ∧ Below w.heap.size w w' := by
  have HT : Hid (Tree w T len c) := h
  clear h
  obtain ⟨la, ld, lc, lm, lb⟩ := l
  unfold L5.agg
  cases hv : leafB len c la with
  | false =>
    have HV : Hid (lnB len c d u ⟨la, ld, lc, lm, lb⟩ = false) := by show _ = _; unfold lnB; simp only [hv, Bool.false_and, Bool.true_and, Bool.and_false, Bool.and_true, Bool.or_true, Bool.true_or, Bool.or_false, Bool.false_or, decide_true, decide_false]
    have tok1 : True := trivial
    go_enter Tryd.func103, Tryd.ntmps103
    go_wp2_with (first
      | (go_at_call 108; refine (((HT.out.alloc _).alloc _).leaf _).mono ?_; rintro e w3 ⟨rfl, ew⟩; replace ew := ew.symm; subst ew; rw [hv])
      | (go_at_call 78; clear tok1; refine (isAmount_any _ _).mono ?_; rintro e w3 ⟨rfl, ew⟩; replace ew := ew.symm; subst ew; rw [am])
      | (go_at_call 78; refine (isAmount_any _ _).mono ?_; rintro e w3 ⟨rfl, ew⟩; replace ew := ew.symm; subst ew; rw [ba]))
    go_returns
    exact ⟨ret_bool' HV.out, by go_grown⟩
  | true =>
    by_cases g1 : 0 ≤ ld
    rotate_left
    · have e1 : inB ld 0 (d - 1) = false := inB_f (fun q => g1 q.1)
      have f1 : decide (0 ≤ ld) = false := decide_eq_false g1
      have HV : Hid (lnB len c d u ⟨la, ld, lc, lm, lb⟩ = false) := by show _ = _; unfold lnB; simp only [hv, e1, Bool.false_and, Bool.true_and, Bool.and_false, Bool.and_true, Bool.or_true, Bool.true_or, Bool.or_false, Bool.false_or, decide_true, decide_false]
      have tok1 : True := trivial
      go_enter Tryd.func103, Tryd.ntmps103
      go_wp2_with (first
        | (go_at_call 108; refine (((HT.out.alloc _).alloc _).leaf _).mono ?_; rintro e w3 ⟨rfl, ew⟩; replace ew := ew.symm; subst ew; rw [hv])
        | (go_at_call 78; clear tok1; refine (isAmount_any _ _).mono ?_; rintro e w3 ⟨rfl, ew⟩; replace ew := ew.symm; subst ew; rw [am])
        | (go_at_call 78; refine (isAmount_any _ _).mono ?_; rintro e w3 ⟨rfl, ew⟩; replace ew := ew.symm; subst ew; rw [ba]))
      go_returns
      exact ⟨ret_bool' HV.out, by go_grown⟩
    by_cases g2 : ld < d
    rotate_left
    · have e1 : inB ld 0 (d - 1) = false := inB_f (fun q => g2 (by omega))
      have f1 : decide (ld < d) = false := decide_eq_false g2
      have HV : Hid (lnB len c d u ⟨la, ld, lc, lm, lb⟩ = false) := by show _ = _; unfold lnB; simp only [hv, e1, Bool.false_and, Bool.true_and, Bool.and_false, Bool.and_true, Bool.or_true, Bool.true_or, Bool.or_false, Bool.false_or, decide_true, decide_false]
      have tok1 : True := trivial
      go_enter Tryd.func103, Tryd.ntmps103
      go_wp2_with (first
        | (go_at_call 108; refine (((HT.out.alloc _).alloc _).leaf _).mono ?_; rintro e w3 ⟨rfl, ew⟩; replace ew := ew.symm; subst ew; rw [hv])
        | (go_at_call 78; clear tok1; refine (isAmount_any _ _).mono ?_; rintro e w3 ⟨rfl, ew⟩; replace ew := ew.symm; subst ew; rw [am])
        | (go_at_call 78; refine (isAmount_any _ _).mono ?_; rintro e w3 ⟨rfl, ew⟩; replace ew := ew.symm; subst ew; rw [ba]))
      go_returns
      exact ⟨ret_bool' HV.out, by go_grown⟩
    have e1 : inB ld 0 (d - 1) = true := inB_t g1 (by omega)
    by_cases g3 : 0 ≤ lc
    rotate_left
    · have e2 : inB lc 0 (u - 1) = false := inB_f (fun q => g3 q.1)
      have f1 : decide (0 ≤ lc) = false := decide_eq_false g3
      have HV : Hid (lnB len c d u ⟨la, ld, lc, lm, lb⟩ = false) := by show _ = _; unfold lnB; simp only [hv, e1, e2, Bool.false_and, Bool.true_and, Bool.and_false, Bool.and_true, Bool.or_true, Bool.true_or, Bool.or_false, Bool.false_or, decide_true, decide_false]
      have tok1 : True := trivial
      go_enter Tryd.func103, Tryd.ntmps103
      go_wp2_with (first
        | (go_at_call 108; refine (((HT.out.alloc _).alloc _).leaf _).mono ?_; rintro e w3 ⟨rfl, ew⟩; replace ew := ew.symm; subst ew; rw [hv])
        | (go_at_call 78; clear tok1; refine (isAmount_any _ _).mono ?_; rintro e w3 ⟨rfl, ew⟩; replace ew := ew.symm; subst ew; rw [am])
        | (go_at_call 78; refine (isAmount_any _ _).mono ?_; rintro e w3 ⟨rfl, ew⟩; replace ew := ew.symm; subst ew; rw [ba]))
      go_returns
      exact ⟨ret_bool' HV.out, by go_grown⟩
    by_cases g4 : lc < u
    rotate_left
    · have e2 : inB lc 0 (u - 1) = false := inB_f (fun q => g4 (by omega))
      have f1 : decide (lc < u) = false := decide_eq_false g4
      have HV : Hid (lnB len c d u ⟨la, ld, lc, lm, lb⟩ = false) := by show _ = _; unfold lnB; simp only [hv, e1, e2, Bool.false_and, Bool.true_and, Bool.and_false, Bool.and_true, Bool.or_true, Bool.true_or, Bool.or_false, Bool.false_or, decide_true, decide_false]
      have tok1 : True := trivial
      go_enter Tryd.func103, Tryd.ntmps103
      go_wp2_with (first
        | (go_at_call 108; refine (((HT.out.alloc _).alloc _).leaf _).mono ?_; rintro e w3 ⟨rfl, ew⟩; replace ew := ew.symm; subst ew; rw [hv])
        | (go_at_call 78; clear tok1; refine (isAmount_any _ _).mono ?_; rintro e w3 ⟨rfl, ew⟩; replace ew := ew.symm; subst ew; rw [am])
        | (go_at_call 78; refine (isAmount_any _ _).mono ?_; rintro e w3 ⟨rfl, ew⟩; replace ew := ew.symm; subst ew; rw [ba]))
      go_returns
      exact ⟨ret_bool' HV.out, by go_grown⟩
    have e2 : inB lc 0 (u - 1) = true := inB_t g3 (by omega)
    cases am : inB lm (-100000000000) 100000000000 with
    | false =>
      have HV : Hid (lnB len c d u ⟨la, ld, lc, lm, lb⟩ = false) := by show _ = _; unfold lnB; simp only [hv, e1, e2, am, Bool.false_and, Bool.true_and, Bool.and_false, Bool.and_true, Bool.or_true, Bool.true_or, Bool.or_false, Bool.false_or, decide_true, decide_false]
      have tok1 : True := trivial
      go_enter Tryd.func103, Tryd.ntmps103
      go_wp2_with (first
        | (go_at_call 108; refine (((HT.out.alloc _).alloc _).leaf _).mono ?_; rintro e w3 ⟨rfl, ew⟩; replace ew := ew.symm; subst ew; rw [hv])
        | (go_at_call 78; clear tok1; refine (isAmount_any _ _).mono ?_; rintro e w3 ⟨rfl, ew⟩; replace ew := ew.symm; subst ew; rw [am])
        | (go_at_call 78; refine (isAmount_any _ _).mono ?_; rintro e w3 ⟨rfl, ew⟩; replace ew := ew.symm; subst ew; rw [ba]))
      go_returns
      exact ⟨ret_bool' HV.out, by go_grown⟩
    | true =>
    cases ba : inB lb (-100000000000) 100000000000 with
    | false =>
      have HV : Hid (lnB len c d u ⟨la, ld, lc, lm, lb⟩ = false) := by show _ = _; unfold lnB; simp only [hv, e1, e2, am, ba, Bool.false_and, Bool.true_and, Bool.and_false, Bool.and_true, Bool.or_true, Bool.true_or, Bool.or_false, Bool.false_or, decide_true, decide_false]
      have tok1 : True := trivial
      go_enter Tryd.func103, Tryd.ntmps103
      go_wp2_with (first
        | (go_at_call 108; refine (((HT.out.alloc _).alloc _).leaf _).mono ?_; rintro e w3 ⟨rfl, ew⟩; replace ew := ew.symm; subst ew; rw [hv])
        | (go_at_call 78; clear tok1; refine (isAmount_any _ _).mono ?_; rintro e w3 ⟨rfl, ew⟩; replace ew := ew.symm; subst ew; rw [am])
        | (go_at_call 78; refine (isAmount_any _ _).mono ?_; rintro e w3 ⟨rfl, ew⟩; replace ew := ew.symm; subst ew; rw [ba]))
      go_returns
      exact ⟨ret_bool' HV.out, by go_grown⟩
    | true =>
    by_cases g5 : lc = 0
    · have z0 : (lc == 0) = true := by simpa using g5
      by_cases g6 : lm = lb
      · have z1 : (lm == lb) = true := by simpa using g6
        have HV : Hid (lnB len c d u ⟨la, ld, lc, lm, lb⟩ = true) := by
          show _ = _
          unfold lnB
          simp only [hv, e1, e2, am, ba, Bool.true_and]
          simp [g5, g6]
        have tok1 : True := trivial
        go_enter Tryd.func103, Tryd.ntmps103
        go_wp2_with (first
          | (go_at_call 108; refine (((HT.out.alloc _).alloc _).leaf _).mono ?_; rintro e w3 ⟨rfl, ew⟩; replace ew := ew.symm; subst ew; rw [hv])
          | (go_at_call 78; clear tok1; refine (isAmount_any _ _).mono ?_; rintro e w3 ⟨rfl, ew⟩; replace ew := ew.symm; subst ew; rw [am])
          | (go_at_call 78; refine (isAmount_any _ _).mono ?_; rintro e w3 ⟨rfl, ew⟩; replace ew := ew.symm; subst ew; rw [ba]))
        go_returns
        exact ⟨ret_bool' HV.out, by go_grown⟩
      · have z1 : (lm == lb) = false := by simpa using g6
        have HV : Hid (lnB len c d u ⟨la, ld, lc, lm, lb⟩ = false) := by
          show _ = _
          unfold lnB
          simp only [hv, e1, e2, am, ba, Bool.true_and]
          simp [g5, g6]
        have tok1 : True := trivial
        go_enter Tryd.func103, Tryd.ntmps103
        go_wp2_with (first
          | (go_at_call 108; refine (((HT.out.alloc _).alloc _).leaf _).mono ?_; rintro e w3 ⟨rfl, ew⟩; replace ew := ew.symm; subst ew; rw [hv])
          | (go_at_call 78; clear tok1; refine (isAmount_any _ _).mono ?_; rintro e w3 ⟨rfl, ew⟩; replace ew := ew.symm; subst ew; rw [am])
          | (go_at_call 78; refine (isAmount_any _ _).mono ?_; rintro e w3 ⟨rfl, ew⟩; replace ew := ew.symm; subst ew; rw [ba]))
        go_returns
        exact ⟨ret_bool' HV.out, by go_grown⟩
    · have z0 : (lc == 0) = false := by simpa using g5
      have HV : Hid (lnB len c d u ⟨la, ld, lc, lm, lb⟩ = true) := by
        show _ = _
        unfold lnB
        simp only [hv, e1, e2, am, ba, Bool.true_and]
        simp [g5]
      have tok1 : True := trivial
      go_enter Tryd.func103, Tryd.ntmps103
      go_wp2_with (first
        | (go_at_call 108; refine (((HT.out.alloc _).alloc _).leaf _).mono ?_; rintro e w3 ⟨rfl, ew⟩; replace ew := ew.symm; subst ew; rw [hv])
        | (go_at_call 78; clear tok1; refine (isAmount_any _ _).mono ?_; rintro e w3 ⟨rfl, ew⟩; replace ew := ew.symm; subst ew; rw [am])
        | (go_at_call 78; refine (isAmount_any _ _).mono ?_; rintro e w3 ⟨rfl, ew⟩; replace ew := ew.symm; subst ew; rw [ba]))
      go_returns
      exact ⟨ret_bool' HV.out, by go_grown⟩

end Go.Proofs.YtapailihjlfkgaaDoor
