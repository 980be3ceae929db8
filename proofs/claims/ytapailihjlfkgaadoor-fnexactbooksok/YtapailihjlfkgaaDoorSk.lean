/- The model's tests of a text, a day, an amount and a line. -/
import Derived.Test.YtapailihjlfkgaaDoorTl
namespace Go.Proofs.YtapailihjlfkgaaDoor
open Go.ChangeShapes Go.WideShapes Go.ChangeAt Go.RowKit
set_option linter.unusedVariables false
set_option linter.unusedSimpArgs false

theorem l2Day_any (x : Int) (w : World) : Calls Tryd.prog 66 #[.int .i64 x] w fun e w' => e = .returned (.bool (inB x 0 40000)) ∧ w' = w := by
  go_enter Tryd.func66, Tryd.ntmps66
  go_wp2_with (go_at_call 43; refine (l1In_any _ _ _ _).mono ?_; rintro e w3 ⟨rfl, ew⟩; replace ew := ew.symm; subst ew)
  go_returns
  exact ⟨rfl, rfl⟩
theorem l1Amount_any (x : Int) (w : World) : Calls Tryd.prog 64 #[.int .i64 x] w fun e w' => e = .returned (.bool (inB x (-100000000000) 100000000000)) ∧ w' = w := by
  go_enter Tryd.func64, Tryd.ntmps64
  go_wp2_with (go_at_call 43; refine (l1In_any _ _ _ _).mono ?_; rintro e w3 ⟨rfl, ew⟩; replace ew := ew.symm; subst ew)
  go_returns
  exact ⟨rfl, rfl⟩

set_option maxHeartbeats 1000000 in
theorem l5Text_any (s : ByteArray) (w : World) (hs : (s.size : Int) ≤ 9223372036854775807) : Calls Tryd.prog 67 #[.string s] w fun e w' => e = .returned (.bool (txB s)) ∧ w' = w := by
  go_enter Tryd.func67, Tryd.ntmps67
  go_wp2
  go_loop [3] (fun i => ∃ k : Nat, k ≤ s.size ∧ i = .int .i64 (k : Int) ∧ Hid (∀ i, i < k → 32 ≤ byN s i)) (fun i => s.size - (intOf i).toNat)
  case atStart => exact ⟨0, Nat.zero_le _, rfl, fun i hi => by omega⟩
  case round =>
    obtain ⟨k, hk, rfl, HA⟩ := hrel
    by_cases hlt : k < s.size
    · have HBY : Hid (byN s k = (s[k].toNat : Int)) := byN_at s k hlt
      have hby := s[k].toNat_lt
      by_cases g : 32 ≤ (s[k].toNat : Int)
      · go_wp2
        go_round
        case rel => exact ⟨k + 1, by omega, by go_num, fun i hi => by
          by_cases hik : i = k
          · rw [hik, HBY.out]; exact g
          · exact HA.out i (by omega)⟩
        case measure => simp [intOf]; omega
      · have HF : Hid (txB s = false) := txB_f (fun q => g (by have := q.2 k hlt; rw [HBY.out] at this; exact this))
        go_wp2
        go_returns
        exact ⟨ret_bool' HF.out, rfl⟩
    · obtain rfl : k = s.size := by omega
      by_cases h40 : (s.size : Int) ≤ 40
      · have HT : Hid (txB s = true) := txB_t (by omega) HA.out
        have f1 : decide ((s.size : Int) ≤ 40) = true := decide_eq_true h40
        go_wp2
        go_returns
        exact ⟨by rw [HT.out]; simp [h40], rfl⟩
      · have HT : Hid (txB s = false) := txB_f (fun q => h40 (by omega))
        have f1 : decide ((s.size : Int) ≤ 40) = false := decide_eq_false h40
        go_wp2
        go_returns
        exact ⟨by rw [HT.out]; simp [h40], rfl⟩

set_option maxRecDepth 20000 in
set_option maxHeartbeats 4000000 in
theorem l5Line_any (fa : Option Addr) (len cap : Nat) (c : Nat → C3) (d u : Int) (l : L5) (w : World) (hl : (len : Int) ≤ 1048576) (hc : ∀ j, (c j).code.size ≤ maxLen) (hr : CR w fa len c) (hd0 : 1 ≤ d) (hd1 : d ≤ 20) (hu0 : 1 ≤ u) (hu1 : u ≤ 20) :
    Calls Tryd.prog 68 #[.agg #[.slice fa len cap, .int .i64 d, .int .i64 u], l.agg] w fun e w' => e = .returned (.bool (lnB len c d u l)) ∧ Below w.heap.size w w' := by
  have HR : Hid (CR w fa len c) := hr
  have HC : Hid (∀ j, (c j).code.size ≤ maxLen) := hc
  clear hr hc
  obtain ⟨la, ld, lc, lm, lb⟩ := l
  unfold L5.agg
  cases hA : inB la 0 ((len : Int) - 1) with
  | false =>
    have hv : leafB len c la = false := leafB_out (fun q => by
      have := (tn_le len c).1
      rw [inB_t q.1 (by omega)] at hA; cases hA)
    have HV : Hid (lnB len c d u ⟨la, ld, lc, lm, lb⟩ = false) := by show _ = _; unfold lnB; simp only [hv, Bool.false_and, Bool.true_and, Bool.and_false, Bool.and_true]
    have tok1 : True := trivial
    go_enter Tryd.func68, Tryd.ntmps68
    go_wp2_with (first
      | (go_at_call 43; refine (l1In_any _ _ _ _).mono ?_; rintro e w3 ⟨rfl, ew⟩; replace ew := ew.symm; subst ew; first | rw [hA] | rw [e1] | rw [e2])
      | (go_at_call 28; refine (specLeaf_any _ _ _ c _ _ hl HC.out ((HR.out.alloc _).alloc _)).mono ?_; rintro e w1 ⟨rfl, b1⟩; rw [hv]; have X1 : CB w1 (w.heap.size + 1) #[.int .i64 la, .int .i64 ld, .int .i64 lc, .int .i64 lm, .int .i64 lb] 78 := (CB.newAt (by simp) _ _).below b1 (by simp); have X0 : CB w1 w.heap.size #[.slice fa len cap, .int .i64 d, .int .i64 u] 26 := ((CB.new _ _).alloc _).below b1 (by simp; omega); have x0 := X1.cell 0; have x1 := X1.cell 1; have x2 := X1.cell 2; have x3 := X1.cell 3; have x4 := X1.cell 4; have y0 := X0.cell 0; have y1 := X0.cell 1; have y2 := X0.cell 2; simp at x0 x1 x2 x3 x4 y0 y1 y2; have b2 : Below w.heap.size w w1 := bel_on (by go_grown) b1; have HB : Hid (Below w.heap.size w w1) := b2; clear b1 b2 X0 X1)
      | (go_at_call 64; clear tok1; refine (l1Amount_any _ _).mono ?_; rintro e w3 ⟨rfl, ew⟩; replace ew := ew.symm; subst ew; rw [am])
      | (go_at_call 64; refine (l1Amount_any _ _).mono ?_; rintro e w3 ⟨rfl, ew⟩; replace ew := ew.symm; subst ew; rw [ba]))
    go_returns
    exact ⟨ret_bool' HV.out, by go_grown⟩
  | true =>
  cases hv : leafB len c la with
  | false =>
    have HV : Hid (lnB len c d u ⟨la, ld, lc, lm, lb⟩ = false) := by show _ = _; unfold lnB; simp only [hv, Bool.false_and, Bool.true_and, Bool.and_false, Bool.and_true]
    have tok1 : True := trivial
    go_enter Tryd.func68, Tryd.ntmps68
    go_wp2_with (first
      | (go_at_call 43; refine (l1In_any _ _ _ _).mono ?_; rintro e w3 ⟨rfl, ew⟩; replace ew := ew.symm; subst ew; first | rw [hA] | rw [e1] | rw [e2])
      | (go_at_call 28; refine (specLeaf_any _ _ _ c _ _ hl HC.out ((HR.out.alloc _).alloc _)).mono ?_; rintro e w1 ⟨rfl, b1⟩; rw [hv]; have X1 : CB w1 (w.heap.size + 1) #[.int .i64 la, .int .i64 ld, .int .i64 lc, .int .i64 lm, .int .i64 lb] 78 := (CB.newAt (by simp) _ _).below b1 (by simp); have X0 : CB w1 w.heap.size #[.slice fa len cap, .int .i64 d, .int .i64 u] 26 := ((CB.new _ _).alloc _).below b1 (by simp; omega); have x0 := X1.cell 0; have x1 := X1.cell 1; have x2 := X1.cell 2; have x3 := X1.cell 3; have x4 := X1.cell 4; have y0 := X0.cell 0; have y1 := X0.cell 1; have y2 := X0.cell 2; simp at x0 x1 x2 x3 x4 y0 y1 y2; have b2 : Below w.heap.size w w1 := bel_on (by go_grown) b1; have HB : Hid (Below w.heap.size w w1) := b2; clear b1 b2 X0 X1)
      | (go_at_call 64; clear tok1; refine (l1Amount_any _ _).mono ?_; rintro e w3 ⟨rfl, ew⟩; replace ew := ew.symm; subst ew; rw [am])
      | (go_at_call 64; refine (l1Amount_any _ _).mono ?_; rintro e w3 ⟨rfl, ew⟩; replace ew := ew.symm; subst ew; rw [ba]))
    go_returns
    exact ⟨ret_bool' HV.out, HB.out⟩
  | true =>
  cases e1 : inB ld 0 (d - 1) with
  | false =>
    have HV : Hid (lnB len c d u ⟨la, ld, lc, lm, lb⟩ = false) := by show _ = _; unfold lnB; simp only [hv, e1, Bool.false_and, Bool.true_and, Bool.and_false, Bool.and_true]
    have tok1 : True := trivial
    go_enter Tryd.func68, Tryd.ntmps68
    go_wp2_with (first
      | (go_at_call 43; refine (l1In_any _ _ _ _).mono ?_; rintro e w3 ⟨rfl, ew⟩; replace ew := ew.symm; subst ew; first | rw [hA] | rw [e1] | rw [e2])
      | (go_at_call 28; refine (specLeaf_any _ _ _ c _ _ hl HC.out ((HR.out.alloc _).alloc _)).mono ?_; rintro e w1 ⟨rfl, b1⟩; rw [hv]; have X1 : CB w1 (w.heap.size + 1) #[.int .i64 la, .int .i64 ld, .int .i64 lc, .int .i64 lm, .int .i64 lb] 78 := (CB.newAt (by simp) _ _).below b1 (by simp); have X0 : CB w1 w.heap.size #[.slice fa len cap, .int .i64 d, .int .i64 u] 26 := ((CB.new _ _).alloc _).below b1 (by simp; omega); have x0 := X1.cell 0; have x1 := X1.cell 1; have x2 := X1.cell 2; have x3 := X1.cell 3; have x4 := X1.cell 4; have y0 := X0.cell 0; have y1 := X0.cell 1; have y2 := X0.cell 2; simp at x0 x1 x2 x3 x4 y0 y1 y2; have b2 : Below w.heap.size w w1 := bel_on (by go_grown) b1; have HB : Hid (Below w.heap.size w w1) := b2; clear b1 b2 X0 X1)
      | (go_at_call 64; clear tok1; refine (l1Amount_any _ _).mono ?_; rintro e w3 ⟨rfl, ew⟩; replace ew := ew.symm; subst ew; rw [am])
      | (go_at_call 64; refine (l1Amount_any _ _).mono ?_; rintro e w3 ⟨rfl, ew⟩; replace ew := ew.symm; subst ew; rw [ba]))
    go_returns
    exact ⟨ret_bool' HV.out, HB.out⟩
  | true =>
  cases e2 : inB lc 0 (u - 1) with
  | false =>
    have HV : Hid (lnB len c d u ⟨la, ld, lc, lm, lb⟩ = false) := by show _ = _; unfold lnB; simp only [hv, e1, e2, Bool.false_and, Bool.true_and, Bool.and_false, Bool.and_true]
    have tok1 : True := trivial
    go_enter Tryd.func68, Tryd.ntmps68
    go_wp2_with (first
      | (go_at_call 43; refine (l1In_any _ _ _ _).mono ?_; rintro e w3 ⟨rfl, ew⟩; replace ew := ew.symm; subst ew; first | rw [hA] | rw [e1] | rw [e2])
      | (go_at_call 28; refine (specLeaf_any _ _ _ c _ _ hl HC.out ((HR.out.alloc _).alloc _)).mono ?_; rintro e w1 ⟨rfl, b1⟩; rw [hv]; have X1 : CB w1 (w.heap.size + 1) #[.int .i64 la, .int .i64 ld, .int .i64 lc, .int .i64 lm, .int .i64 lb] 78 := (CB.newAt (by simp) _ _).below b1 (by simp); have X0 : CB w1 w.heap.size #[.slice fa len cap, .int .i64 d, .int .i64 u] 26 := ((CB.new _ _).alloc _).below b1 (by simp; omega); have x0 := X1.cell 0; have x1 := X1.cell 1; have x2 := X1.cell 2; have x3 := X1.cell 3; have x4 := X1.cell 4; have y0 := X0.cell 0; have y1 := X0.cell 1; have y2 := X0.cell 2; simp at x0 x1 x2 x3 x4 y0 y1 y2; have b2 : Below w.heap.size w w1 := bel_on (by go_grown) b1; have HB : Hid (Below w.heap.size w w1) := b2; clear b1 b2 X0 X1)
      | (go_at_call 64; clear tok1; refine (l1Amount_any _ _).mono ?_; rintro e w3 ⟨rfl, ew⟩; replace ew := ew.symm; subst ew; rw [am])
      | (go_at_call 64; refine (l1Amount_any _ _).mono ?_; rintro e w3 ⟨rfl, ew⟩; replace ew := ew.symm; subst ew; rw [ba]))
    go_returns
    exact ⟨ret_bool' HV.out, HB.out⟩
  | true =>
  cases am : inB lm (-100000000000) 100000000000 with
  | false =>
    have HV : Hid (lnB len c d u ⟨la, ld, lc, lm, lb⟩ = false) := by show _ = _; unfold lnB; simp only [hv, e1, e2, am, Bool.false_and, Bool.true_and, Bool.and_false, Bool.and_true]
    have tok1 : True := trivial
    go_enter Tryd.func68, Tryd.ntmps68
    go_wp2_with (first
      | (go_at_call 43; refine (l1In_any _ _ _ _).mono ?_; rintro e w3 ⟨rfl, ew⟩; replace ew := ew.symm; subst ew; first | rw [hA] | rw [e1] | rw [e2])
      | (go_at_call 28; refine (specLeaf_any _ _ _ c _ _ hl HC.out ((HR.out.alloc _).alloc _)).mono ?_; rintro e w1 ⟨rfl, b1⟩; rw [hv]; have X1 : CB w1 (w.heap.size + 1) #[.int .i64 la, .int .i64 ld, .int .i64 lc, .int .i64 lm, .int .i64 lb] 78 := (CB.newAt (by simp) _ _).below b1 (by simp); have X0 : CB w1 w.heap.size #[.slice fa len cap, .int .i64 d, .int .i64 u] 26 := ((CB.new _ _).alloc _).below b1 (by simp; omega); have x0 := X1.cell 0; have x1 := X1.cell 1; have x2 := X1.cell 2; have x3 := X1.cell 3; have x4 := X1.cell 4; have y0 := X0.cell 0; have y1 := X0.cell 1; have y2 := X0.cell 2; simp at x0 x1 x2 x3 x4 y0 y1 y2; have b2 : Below w.heap.size w w1 := bel_on (by go_grown) b1; have HB : Hid (Below w.heap.size w w1) := b2; clear b1 b2 X0 X1)
      | (go_at_call 64; clear tok1; refine (l1Amount_any _ _).mono ?_; rintro e w3 ⟨rfl, ew⟩; replace ew := ew.symm; subst ew; rw [am])
      | (go_at_call 64; refine (l1Amount_any _ _).mono ?_; rintro e w3 ⟨rfl, ew⟩; replace ew := ew.symm; subst ew; rw [ba]))
    go_returns
    exact ⟨ret_bool' HV.out, HB.out⟩
  | true =>
  cases ba : inB lb (-100000000000) 100000000000 with
  | false =>
    have HV : Hid (lnB len c d u ⟨la, ld, lc, lm, lb⟩ = false) := by show _ = _; unfold lnB; simp only [hv, e1, e2, am, ba, Bool.false_and, Bool.true_and, Bool.and_false, Bool.and_true]
    have tok1 : True := trivial
    go_enter Tryd.func68, Tryd.ntmps68
    go_wp2_with (first
      | (go_at_call 43; refine (l1In_any _ _ _ _).mono ?_; rintro e w3 ⟨rfl, ew⟩; replace ew := ew.symm; subst ew; first | rw [hA] | rw [e1] | rw [e2])
      | (go_at_call 28; refine (specLeaf_any _ _ _ c _ _ hl HC.out ((HR.out.alloc _).alloc _)).mono ?_; rintro e w1 ⟨rfl, b1⟩; rw [hv]; have X1 : CB w1 (w.heap.size + 1) #[.int .i64 la, .int .i64 ld, .int .i64 lc, .int .i64 lm, .int .i64 lb] 78 := (CB.newAt (by simp) _ _).below b1 (by simp); have X0 : CB w1 w.heap.size #[.slice fa len cap, .int .i64 d, .int .i64 u] 26 := ((CB.new _ _).alloc _).below b1 (by simp; omega); have x0 := X1.cell 0; have x1 := X1.cell 1; have x2 := X1.cell 2; have x3 := X1.cell 3; have x4 := X1.cell 4; have y0 := X0.cell 0; have y1 := X0.cell 1; have y2 := X0.cell 2; simp at x0 x1 x2 x3 x4 y0 y1 y2; have b2 : Below w.heap.size w w1 := bel_on (by go_grown) b1; have HB : Hid (Below w.heap.size w w1) := b2; clear b1 b2 X0 X1)
      | (go_at_call 64; clear tok1; refine (l1Amount_any _ _).mono ?_; rintro e w3 ⟨rfl, ew⟩; replace ew := ew.symm; subst ew; rw [am])
      | (go_at_call 64; refine (l1Amount_any _ _).mono ?_; rintro e w3 ⟨rfl, ew⟩; replace ew := ew.symm; subst ew; rw [ba]))
    go_returns
    exact ⟨ret_bool' HV.out, HB.out⟩
  | true =>
  by_cases g5 : lc = 0
  · have z0 : (lc == 0) = true := by simpa using g5
    by_cases g6 : lm = lb
    · have z1 : (lm == lb) = true := by simpa using g6
      have HV : Hid (lnB len c d u ⟨la, ld, lc, lm, lb⟩ = true) := by
        show _ = _
        unfold lnB
        simp only [hv, e1, e2, am, ba, Bool.true_and]
        simp [g5, g6]
      clear g5 g6
      have tok1 : True := trivial
      go_enter Tryd.func68, Tryd.ntmps68
      go_wp2_with (first
        | (go_at_call 43; refine (l1In_any _ _ _ _).mono ?_; rintro e w3 ⟨rfl, ew⟩; replace ew := ew.symm; subst ew; first | rw [hA] | rw [e1] | rw [e2])
        | (go_at_call 28; refine (specLeaf_any _ _ _ c _ _ hl HC.out ((HR.out.alloc _).alloc _)).mono ?_; rintro e w1 ⟨rfl, b1⟩; rw [hv]; have X1 : CB w1 (w.heap.size + 1) #[.int .i64 la, .int .i64 ld, .int .i64 lc, .int .i64 lm, .int .i64 lb] 78 := (CB.newAt (by simp) _ _).below b1 (by simp); have X0 : CB w1 w.heap.size #[.slice fa len cap, .int .i64 d, .int .i64 u] 26 := ((CB.new _ _).alloc _).below b1 (by simp; omega); have x0 := X1.cell 0; have x1 := X1.cell 1; have x2 := X1.cell 2; have x3 := X1.cell 3; have x4 := X1.cell 4; have y0 := X0.cell 0; have y1 := X0.cell 1; have y2 := X0.cell 2; simp at x0 x1 x2 x3 x4 y0 y1 y2; have b2 : Below w.heap.size w w1 := bel_on (by go_grown) b1; have HB : Hid (Below w.heap.size w w1) := b2; clear b1 b2 X0 X1)
        | (go_at_call 64; clear tok1; refine (l1Amount_any _ _).mono ?_; rintro e w3 ⟨rfl, ew⟩; replace ew := ew.symm; subst ew; rw [am])
        | (go_at_call 64; refine (l1Amount_any _ _).mono ?_; rintro e w3 ⟨rfl, ew⟩; replace ew := ew.symm; subst ew; rw [ba]))
      all_goals first | (exact absurd (by simpa using z0) (by assumption : ¬ lc = 0)) | (exact absurd (by assumption : lc = 0) (by simpa using z0)) | (go_returns; exact ⟨ret_bool' HV.out, HB.out⟩)
    · have z1 : (lm == lb) = false := by simpa using g6
      have HV : Hid (lnB len c d u ⟨la, ld, lc, lm, lb⟩ = false) := by
        show _ = _
        unfold lnB
        simp only [hv, e1, e2, am, ba, Bool.true_and]
        simp [g5, g6]
      clear g5 g6
      have tok1 : True := trivial
      go_enter Tryd.func68, Tryd.ntmps68
      go_wp2_with (first
        | (go_at_call 43; refine (l1In_any _ _ _ _).mono ?_; rintro e w3 ⟨rfl, ew⟩; replace ew := ew.symm; subst ew; first | rw [hA] | rw [e1] | rw [e2])
        | (go_at_call 28; refine (specLeaf_any _ _ _ c _ _ hl HC.out ((HR.out.alloc _).alloc _)).mono ?_; rintro e w1 ⟨rfl, b1⟩; rw [hv]; have X1 : CB w1 (w.heap.size + 1) #[.int .i64 la, .int .i64 ld, .int .i64 lc, .int .i64 lm, .int .i64 lb] 78 := (CB.newAt (by simp) _ _).below b1 (by simp); have X0 : CB w1 w.heap.size #[.slice fa len cap, .int .i64 d, .int .i64 u] 26 := ((CB.new _ _).alloc _).below b1 (by simp; omega); have x0 := X1.cell 0; have x1 := X1.cell 1; have x2 := X1.cell 2; have x3 := X1.cell 3; have x4 := X1.cell 4; have y0 := X0.cell 0; have y1 := X0.cell 1; have y2 := X0.cell 2; simp at x0 x1 x2 x3 x4 y0 y1 y2; have b2 : Below w.heap.size w w1 := bel_on (by go_grown) b1; have HB : Hid (Below w.heap.size w w1) := b2; clear b1 b2 X0 X1)
        | (go_at_call 64; clear tok1; refine (l1Amount_any _ _).mono ?_; rintro e w3 ⟨rfl, ew⟩; replace ew := ew.symm; subst ew; rw [am])
        | (go_at_call 64; refine (l1Amount_any _ _).mono ?_; rintro e w3 ⟨rfl, ew⟩; replace ew := ew.symm; subst ew; rw [ba]))
      all_goals first | (exact absurd (by simpa using z0) (by assumption : ¬ lc = 0)) | (exact absurd (by assumption : lc = 0) (by simpa using z0)) | (go_returns; exact ⟨ret_bool' HV.out, HB.out⟩)
  · have z0 : (lc == 0) = false := by simpa using g5
    have HV : Hid (lnB len c d u ⟨la, ld, lc, lm, lb⟩ = true) := by
      show _ = _
      unfold lnB
      simp only [hv, e1, e2, am, ba, Bool.true_and]
      simp [g5]
    clear g5
    have tok1 : True := trivial
    go_enter Tryd.func68, Tryd.ntmps68
    go_wp2_with (first
      | (go_at_call 43; refine (l1In_any _ _ _ _).mono ?_; rintro e w3 ⟨rfl, ew⟩; replace ew := ew.symm; subst ew; first | rw [hA] | rw [e1] | rw [e2])
      | (go_at_call 28; refine (specLeaf_any _ _ _ c _ _ hl HC.out ((HR.out.alloc _).alloc _)).mono ?_; rintro e w1 ⟨rfl, b1⟩; rw [hv]; have X1 : CB w1 (w.heap.size + 1) #[.int .i64 la, .int .i64 ld, .int .i64 lc, .int .i64 lm, .int .i64 lb] 78 := (CB.newAt (by simp) _ _).below b1 (by simp); have X0 : CB w1 w.heap.size #[.slice fa len cap, .int .i64 d, .int .i64 u] 26 := ((CB.new _ _).alloc _).below b1 (by simp; omega); have x0 := X1.cell 0; have x1 := X1.cell 1; have x2 := X1.cell 2; have x3 := X1.cell 3; have x4 := X1.cell 4; have y0 := X0.cell 0; have y1 := X0.cell 1; have y2 := X0.cell 2; simp at x0 x1 x2 x3 x4 y0 y1 y2; have b2 : Below w.heap.size w w1 := bel_on (by go_grown) b1; have HB : Hid (Below w.heap.size w w1) := b2; clear b1 b2 X0 X1)
      | (go_at_call 64; clear tok1; refine (l1Amount_any _ _).mono ?_; rintro e w3 ⟨rfl, ew⟩; replace ew := ew.symm; subst ew; rw [am])
      | (go_at_call 64; refine (l1Amount_any _ _).mono ?_; rintro e w3 ⟨rfl, ew⟩; replace ew := ew.symm; subst ew; rw [ba]))
    all_goals first | (exact absurd (by simpa using z0) (by assumption : ¬ lc = 0)) | (exact absurd (by assumption : lc = 0) (by simpa using z0)) | (go_returns; exact ⟨ret_bool' HV.out, HB.out⟩)

end Go.Proofs.YtapailihjlfkgaaDoor
