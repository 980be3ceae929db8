/- The model's EntryOk, walked. -/
import Derived.Test.YtapailihjlfkgaaDoorSe
namespace Go.Proofs.YtapailihjlfkgaaDoor
open Go.ChangeShapes Go.WideShapes Go.ChangeAt Go.RowKit
set_option linter.unusedVariables false
set_option linter.unusedSimpArgs false

theorem LR.drew' {w : World} {ad : Option Addr} {len : Nat} {r : Nat → L5} (H : LR w ad len r) : LR w.drew ad len r := H

set_option maxRecDepth 20000 in
set_option maxHeartbeats 8000000 in
theorem specEntry_any (fa : Option Addr) (len cap : Nat) (c : Nat → C3) (d u : Int) (ed er : Int) (et : ByteArray) (ad : Option Addr) (n lcap : Nat) (ls : Nat → L5) (w : World) (hl : (len : Int) ≤ 1048576) (hc : ∀ j, (c j).code.size ≤ maxLen) (hr : CR w fa len c) (hL : LR w ad n ls) (het : (et.size : Int) ≤ 9223372036854775807) (hn1 : (n : Int) ≤ 1048576) :
    Calls Tryd.prog 30 #[.agg #[.slice fa len cap, .int .i64 d, .int .i64 u], .agg #[.int .i64 ed, .int .i64 er, .string et, .slice ad n lcap]] w fun e w' => e = .returned (.bool (enB len c d u ⟨ed, er, et, n, ls⟩)) ∧ Below w.heap.size w w' := by
  have HR : Hid (CR w fa len c) := hr
  have HC : Hid (∀ j, (c j).code.size ≤ maxLen) := hc
  have HL : Hid (LR w ad n ls) := hL
  clear hr hc hL
  cases hv : frB len c d u with
  | false =>
    have HV : Hid (enB len c d u ⟨ed, er, et, n, ls⟩ = false) := by show _ = _; unfold enB; simp only [hv, Bool.false_and, Bool.true_and, Bool.and_false]
    go_enter Tryd.func30, Tryd.ntmps30
    go_wp2_with (first
      | (go_at_call 65; refine (specFrame_any _ _ _ c _ _ _ hl HC.out ((HR.out.alloc _).alloc _)).mono ?_; rintro e w1 ⟨rfl, b1⟩; rw [hv]; have X1 : CB w1 (w.heap.size + 1) #[.int .i64 ed, .int .i64 er, .string et, .slice ad n lcap] 37 := (CB.newAt (by simp) _ _).below b1 (by simp); have X0 : CB w1 w.heap.size #[.slice fa len cap, .int .i64 d, .int .i64 u] 26 := ((CB.new _ _).alloc _).below b1 (by simp; omega); have x0 := X1.cell 0; have x1 := X1.cell 1; have x2 := X1.cell 2; have x3 := X1.cell 3; have y0 := X0.cell 0; have y1 := X0.cell 1; have y2 := X0.cell 2; simp at x0 x1 x2 x3 y0 y1 y2; have HX1 : Hid (CB w1 (w.heap.size + 1) #[.int .i64 ed, .int .i64 er, .string et, .slice ad n lcap] 37) := X1; have HX0 : Hid (CB w1 w.heap.size #[.slice fa len cap, .int .i64 d, .int .i64 u] 26) := X0; have HR1 : Hid (CR w1 fa len c) := ((HR.out.alloc _).alloc _).below b1; have HL1 : Hid (LR w1 ad n ls) := ((HL.out.alloc _).alloc _).below b1; have b2 : Below w.heap.size w w1 := bel_on (by go_grown) b1; have HB : Hid (Below w.heap.size w w1) := b2; clear b1 b2 X0 X1)
      | (go_at_call 66; refine (l2Day_any _ _).mono ?_; rintro e w2 ⟨rfl, ew⟩; replace ew := ew.symm; subst ew; rw [h1])
      | (go_at_call 43; refine (l1In_any _ _ _ _).mono ?_; rintro e w2 ⟨rfl, ew⟩; replace ew := ew.symm; subst ew; first | rw [h2] | rw [h4])
      | (go_at_call 67; refine (l5Text_any _ _ het).mono ?_; rintro e w2 ⟨rfl, ew⟩; replace ew := ew.symm; subst ew; rw [h3]))
    go_returns
    exact ⟨ret_bool' HV.out, HB.out⟩
  | true =>
  cases h1 : inB ed 0 40000 with
  | false =>
    have HV : Hid (enB len c d u ⟨ed, er, et, n, ls⟩ = false) := by show _ = _; unfold enB; simp only [hv, h1, Bool.false_and, Bool.true_and, Bool.and_false]
    go_enter Tryd.func30, Tryd.ntmps30
    go_wp2_with (first
      | (go_at_call 65; refine (specFrame_any _ _ _ c _ _ _ hl HC.out ((HR.out.alloc _).alloc _)).mono ?_; rintro e w1 ⟨rfl, b1⟩; rw [hv]; have X1 : CB w1 (w.heap.size + 1) #[.int .i64 ed, .int .i64 er, .string et, .slice ad n lcap] 37 := (CB.newAt (by simp) _ _).below b1 (by simp); have X0 : CB w1 w.heap.size #[.slice fa len cap, .int .i64 d, .int .i64 u] 26 := ((CB.new _ _).alloc _).below b1 (by simp; omega); have x0 := X1.cell 0; have x1 := X1.cell 1; have x2 := X1.cell 2; have x3 := X1.cell 3; have y0 := X0.cell 0; have y1 := X0.cell 1; have y2 := X0.cell 2; simp at x0 x1 x2 x3 y0 y1 y2; have HX1 : Hid (CB w1 (w.heap.size + 1) #[.int .i64 ed, .int .i64 er, .string et, .slice ad n lcap] 37) := X1; have HX0 : Hid (CB w1 w.heap.size #[.slice fa len cap, .int .i64 d, .int .i64 u] 26) := X0; have HR1 : Hid (CR w1 fa len c) := ((HR.out.alloc _).alloc _).below b1; have HL1 : Hid (LR w1 ad n ls) := ((HL.out.alloc _).alloc _).below b1; have b2 : Below w.heap.size w w1 := bel_on (by go_grown) b1; have HB : Hid (Below w.heap.size w w1) := b2; clear b1 b2 X0 X1)
      | (go_at_call 66; refine (l2Day_any _ _).mono ?_; rintro e w2 ⟨rfl, ew⟩; replace ew := ew.symm; subst ew; rw [h1])
      | (go_at_call 43; refine (l1In_any _ _ _ _).mono ?_; rintro e w2 ⟨rfl, ew⟩; replace ew := ew.symm; subst ew; first | rw [h2] | rw [h4])
      | (go_at_call 67; refine (l5Text_any _ _ het).mono ?_; rintro e w2 ⟨rfl, ew⟩; replace ew := ew.symm; subst ew; rw [h3]))
    go_returns
    exact ⟨ret_bool' HV.out, HB.out⟩
  | true =>
  cases h2 : inB er 0 1000 with
  | false =>
    have HV : Hid (enB len c d u ⟨ed, er, et, n, ls⟩ = false) := by show _ = _; unfold enB; simp only [hv, h1, h2, Bool.false_and, Bool.true_and, Bool.and_false]
    go_enter Tryd.func30, Tryd.ntmps30
    go_wp2_with (first
      | (go_at_call 65; refine (specFrame_any _ _ _ c _ _ _ hl HC.out ((HR.out.alloc _).alloc _)).mono ?_; rintro e w1 ⟨rfl, b1⟩; rw [hv]; have X1 : CB w1 (w.heap.size + 1) #[.int .i64 ed, .int .i64 er, .string et, .slice ad n lcap] 37 := (CB.newAt (by simp) _ _).below b1 (by simp); have X0 : CB w1 w.heap.size #[.slice fa len cap, .int .i64 d, .int .i64 u] 26 := ((CB.new _ _).alloc _).below b1 (by simp; omega); have x0 := X1.cell 0; have x1 := X1.cell 1; have x2 := X1.cell 2; have x3 := X1.cell 3; have y0 := X0.cell 0; have y1 := X0.cell 1; have y2 := X0.cell 2; simp at x0 x1 x2 x3 y0 y1 y2; have HX1 : Hid (CB w1 (w.heap.size + 1) #[.int .i64 ed, .int .i64 er, .string et, .slice ad n lcap] 37) := X1; have HX0 : Hid (CB w1 w.heap.size #[.slice fa len cap, .int .i64 d, .int .i64 u] 26) := X0; have HR1 : Hid (CR w1 fa len c) := ((HR.out.alloc _).alloc _).below b1; have HL1 : Hid (LR w1 ad n ls) := ((HL.out.alloc _).alloc _).below b1; have b2 : Below w.heap.size w w1 := bel_on (by go_grown) b1; have HB : Hid (Below w.heap.size w w1) := b2; clear b1 b2 X0 X1)
      | (go_at_call 66; refine (l2Day_any _ _).mono ?_; rintro e w2 ⟨rfl, ew⟩; replace ew := ew.symm; subst ew; rw [h1])
      | (go_at_call 43; refine (l1In_any _ _ _ _).mono ?_; rintro e w2 ⟨rfl, ew⟩; replace ew := ew.symm; subst ew; first | rw [h2] | rw [h4])
      | (go_at_call 67; refine (l5Text_any _ _ het).mono ?_; rintro e w2 ⟨rfl, ew⟩; replace ew := ew.symm; subst ew; rw [h3]))
    go_returns
    exact ⟨ret_bool' HV.out, HB.out⟩
  | true =>
  cases h3 : txB et with
  | false =>
    have HV : Hid (enB len c d u ⟨ed, er, et, n, ls⟩ = false) := by show _ = _; unfold enB; simp only [hv, h1, h2, h3, Bool.false_and, Bool.true_and, Bool.and_false]
    go_enter Tryd.func30, Tryd.ntmps30
    go_wp2_with (first
      | (go_at_call 65; refine (specFrame_any _ _ _ c _ _ _ hl HC.out ((HR.out.alloc _).alloc _)).mono ?_; rintro e w1 ⟨rfl, b1⟩; rw [hv]; have X1 : CB w1 (w.heap.size + 1) #[.int .i64 ed, .int .i64 er, .string et, .slice ad n lcap] 37 := (CB.newAt (by simp) _ _).below b1 (by simp); have X0 : CB w1 w.heap.size #[.slice fa len cap, .int .i64 d, .int .i64 u] 26 := ((CB.new _ _).alloc _).below b1 (by simp; omega); have x0 := X1.cell 0; have x1 := X1.cell 1; have x2 := X1.cell 2; have x3 := X1.cell 3; have y0 := X0.cell 0; have y1 := X0.cell 1; have y2 := X0.cell 2; simp at x0 x1 x2 x3 y0 y1 y2; have HX1 : Hid (CB w1 (w.heap.size + 1) #[.int .i64 ed, .int .i64 er, .string et, .slice ad n lcap] 37) := X1; have HX0 : Hid (CB w1 w.heap.size #[.slice fa len cap, .int .i64 d, .int .i64 u] 26) := X0; have HR1 : Hid (CR w1 fa len c) := ((HR.out.alloc _).alloc _).below b1; have HL1 : Hid (LR w1 ad n ls) := ((HL.out.alloc _).alloc _).below b1; have b2 : Below w.heap.size w w1 := bel_on (by go_grown) b1; have HB : Hid (Below w.heap.size w w1) := b2; clear b1 b2 X0 X1)
      | (go_at_call 66; refine (l2Day_any _ _).mono ?_; rintro e w2 ⟨rfl, ew⟩; replace ew := ew.symm; subst ew; rw [h1])
      | (go_at_call 43; refine (l1In_any _ _ _ _).mono ?_; rintro e w2 ⟨rfl, ew⟩; replace ew := ew.symm; subst ew; first | rw [h2] | rw [h4])
      | (go_at_call 67; refine (l5Text_any _ _ het).mono ?_; rintro e w2 ⟨rfl, ew⟩; replace ew := ew.symm; subst ew; rw [h3]))
    go_returns
    exact ⟨ret_bool' HV.out, HB.out⟩
  | true =>
  cases h4 : inB (n : Int) 2 60 with
  | false =>
    have hls : lsB len c d u n ls = false := lsB_f (fun q => by rw [inB_t (by omega) (by omega)] at h4; cases h4)
    have HV : Hid (enB len c d u ⟨ed, er, et, n, ls⟩ = false) := by show _ = _; unfold enB; simp only [hv, h1, h2, h3, hls, Bool.false_and, Bool.true_and, Bool.and_false]
    go_enter Tryd.func30, Tryd.ntmps30
    go_wp2_with (first
      | (go_at_call 65; refine (specFrame_any _ _ _ c _ _ _ hl HC.out ((HR.out.alloc _).alloc _)).mono ?_; rintro e w1 ⟨rfl, b1⟩; rw [hv]; have X1 : CB w1 (w.heap.size + 1) #[.int .i64 ed, .int .i64 er, .string et, .slice ad n lcap] 37 := (CB.newAt (by simp) _ _).below b1 (by simp); have X0 : CB w1 w.heap.size #[.slice fa len cap, .int .i64 d, .int .i64 u] 26 := ((CB.new _ _).alloc _).below b1 (by simp; omega); have x0 := X1.cell 0; have x1 := X1.cell 1; have x2 := X1.cell 2; have x3 := X1.cell 3; have y0 := X0.cell 0; have y1 := X0.cell 1; have y2 := X0.cell 2; simp at x0 x1 x2 x3 y0 y1 y2; have HX1 : Hid (CB w1 (w.heap.size + 1) #[.int .i64 ed, .int .i64 er, .string et, .slice ad n lcap] 37) := X1; have HX0 : Hid (CB w1 w.heap.size #[.slice fa len cap, .int .i64 d, .int .i64 u] 26) := X0; have HR1 : Hid (CR w1 fa len c) := ((HR.out.alloc _).alloc _).below b1; have HL1 : Hid (LR w1 ad n ls) := ((HL.out.alloc _).alloc _).below b1; have b2 : Below w.heap.size w w1 := bel_on (by go_grown) b1; have HB : Hid (Below w.heap.size w w1) := b2; clear b1 b2 X0 X1)
      | (go_at_call 66; refine (l2Day_any _ _).mono ?_; rintro e w2 ⟨rfl, ew⟩; replace ew := ew.symm; subst ew; rw [h1])
      | (go_at_call 43; refine (l1In_any _ _ _ _).mono ?_; rintro e w2 ⟨rfl, ew⟩; replace ew := ew.symm; subst ew; first | rw [h2] | rw [h4])
      | (go_at_call 67; refine (l5Text_any _ _ het).mono ?_; rintro e w2 ⟨rfl, ew⟩; replace ew := ew.symm; subst ew; rw [h3]))
    go_returns
    exact ⟨ret_bool' HV.out, HB.out⟩
  | true =>
  have HV : Hid (enB len c d u ⟨ed, er, et, n, ls⟩ = lsB len c d u n ls) := by show _ = _; unfold enB; simp only [hv, h1, h2, h3, Bool.true_and]
  have hnn := inB_iff.1 h4
  have hn60 : (n : Int) ≤ 60 := hnn.2
  have hn2 : (2 : Int) ≤ (n : Int) := hnn.1
  have hdu : (1 ≤ d ∧ d ≤ 20) ∧ (1 ≤ u ∧ u ≤ 20) := by
    have hv' := hv
    unfold frB at hv'
    simp only [Bool.and_eq_true] at hv'
    exact ⟨inB_iff.1 hv'.2.1, inB_iff.1 hv'.2.2⟩
  obtain ⟨⟨d0, d1⟩, u0, u1⟩ := hdu
  clear hnn
  go_enter Tryd.func30, Tryd.ntmps30
  go_wp2_with (first
    | (go_at_call 65; refine (specFrame_any _ _ _ c _ _ _ hl HC.out ((HR.out.alloc _).alloc _)).mono ?_; rintro e w1 ⟨rfl, b1⟩; rw [hv]; have X1 : CB w1 (w.heap.size + 1) #[.int .i64 ed, .int .i64 er, .string et, .slice ad n lcap] 37 := (CB.newAt (by simp) _ _).below b1 (by simp); have X0 : CB w1 w.heap.size #[.slice fa len cap, .int .i64 d, .int .i64 u] 26 := ((CB.new _ _).alloc _).below b1 (by simp; omega); have x0 := X1.cell 0; have x1 := X1.cell 1; have x2 := X1.cell 2; have x3 := X1.cell 3; have y0 := X0.cell 0; have y1 := X0.cell 1; have y2 := X0.cell 2; simp at x0 x1 x2 x3 y0 y1 y2; have HX1 : Hid (CB w1 (w.heap.size + 1) #[.int .i64 ed, .int .i64 er, .string et, .slice ad n lcap] 37) := X1; have HX0 : Hid (CB w1 w.heap.size #[.slice fa len cap, .int .i64 d, .int .i64 u] 26) := X0; have HR1 : Hid (CR w1 fa len c) := ((HR.out.alloc _).alloc _).below b1; have HL1 : Hid (LR w1 ad n ls) := ((HL.out.alloc _).alloc _).below b1; have b2 : Below w.heap.size w w1 := bel_on (by go_grown) b1; have HB : Hid (Below w.heap.size w w1) := b2; clear b1 b2 X0 X1)
    | (go_at_call 66; refine (l2Day_any _ _).mono ?_; rintro e w2 ⟨rfl, ew⟩; replace ew := ew.symm; subst ew; rw [h1])
    | (go_at_call 43; refine (l1In_any _ _ _ _).mono ?_; rintro e w2 ⟨rfl, ew⟩; replace ew := ew.symm; subst ew; first | rw [h2] | rw [h4])
    | (go_at_call 67; refine (l5Text_any _ _ het).mono ?_; rintro e w2 ⟨rfl, ew⟩; replace ew := ew.symm; subst ew; rw [h3]))
  clear x0 x1 x2 x3 y0 y1 y2 HR HL h1 h2 h3 h4 hv
  go_loopw [5] (fun i wr => ∃ k : Nat, k ≤ n ∧ i = .int .i64 (k : Int) ∧ Hid (∀ i, i < k → lnB len c d u (ls i) = true) ∧ Below w1.heap.size w1 wr) (fun i _ => n - (intOf i).toNat)
  case atStart => exact ⟨0, Nat.zero_le _, rfl, fun i hi => by omega, Below.refl _ _⟩
  case round =>
    obtain ⟨k, hk, rfl, HA, hB⟩ := hrel
    have HBr : Hid (Below w1.heap.size w1 wr) := hB
    have x3 : wr.cell? ⟨w.heap.size + 1, 3, none⟩ = some (.slice ad n lcap) := (((HX1.out.below hB HX1.out.lt).cell 3).trans rfl)
    have y0 : wr.cell? ⟨w.heap.size, 0, none⟩ = some (.slice fa len cap) := (((HX0.out.below hB HX0.out.lt).cell 0).trans rfl)
    have y1 : wr.cell? ⟨w.heap.size, 1, none⟩ = some (.int .i64 d) := (((HX0.out.below hB HX0.out.lt).cell 1).trans rfl)
    have y2 : wr.cell? ⟨w.heap.size, 2, none⟩ = some (.int .i64 u) := (((HX0.out.below hB HX0.out.lt).cell 2).trans rfl)
    by_cases hlt : k < n
    · have HLr : Hid (LR wr ad n ls) := HL1.out.below hB
      obtain ⟨kb, off, rfl, hkb⟩ := HLr.out.addr (by omega)
      obtain ⟨c1, c2, c3, c4, c5⟩ := HLr.out.cell hlt
      have rr : CR wr.drew fa len c := HR1.out.below hB.drew
      have bb : Below w1.heap.size w1 wr.drew := hB.drew
      clear hB
      go_wp2
      go_region_held3 (fun w' => w'.cell? ⟨w.heap.size + 1, 3, none⟩ = some (.slice (some ⟨kb, off, none⟩) n lcap) ∧ w'.cell? ⟨w.heap.size, 0, none⟩ = some (.slice fa len cap) ∧ w'.cell? ⟨w.heap.size, 1, none⟩ = some (.int .i64 d) ∧ w'.cell? ⟨w.heap.size, 2, none⟩ = some (.int .i64 u) ∧ w'.cell? ⟨kb, off + k * 5, none⟩ = some (.int .i64 (ls k).acc) ∧ w'.cell? ⟨kb, off + k * 5 + 1, none⟩ = some (.int .i64 (ls k).dim) ∧ w'.cell? ⟨kb, off + k * 5 + 2, none⟩ = some (.int .i64 (ls k).cur) ∧ w'.cell? ⟨kb, off + k * 5 + 3, none⟩ = some (.int .i64 (ls k).amt) ∧ w'.cell? ⟨kb, off + k * 5 + 4, none⟩ = some (.int .i64 (ls k).base) ∧ CR w' fa len c ∧ Below w1.heap.size w1 w')
        (refine ⟨?_, ?_, ?_, ?_, ?_, ?_, ?_, ?_, ?_, ?_, ?_⟩ <;> first | assumption | (simp [*]; done))
        (first
          | (go_at_call 68; refine (l5Line_any _ _ _ c _ _ (ls k) _ hl HC.out (by assumption) d0 d1 u0 u1).mono ?_; rintro e w6 ⟨rfl, b6⟩; have q0 : w6.cell? ⟨w.heap.size + 1, 3, none⟩ = some (.slice (some ⟨kb, off, none⟩) n lcap) := keep_cell b6 (by simp [*]); have q1 : w6.cell? ⟨w.heap.size, 0, none⟩ = some (.slice fa len cap) := keep_cell b6 (by simp [*]); have q2 : w6.cell? ⟨w.heap.size, 1, none⟩ = some (.int .i64 d) := keep_cell b6 (by simp [*]); have q3 : w6.cell? ⟨w.heap.size, 2, none⟩ = some (.int .i64 u) := keep_cell b6 (by simp [*]); have q4 : w6.cell? ⟨kb, off + k * 5, none⟩ = some (.int .i64 (ls k).acc) := keep_cell b6 (by simp [*]); have q5 : w6.cell? ⟨kb, off + k * 5 + 1, none⟩ = some (.int .i64 (ls k).dim) := keep_cell b6 (by simp [*]); have q6 : w6.cell? ⟨kb, off + k * 5 + 2, none⟩ = some (.int .i64 (ls k).cur) := keep_cell b6 (by simp [*]); have q7 : w6.cell? ⟨kb, off + k * 5 + 3, none⟩ = some (.int .i64 (ls k).amt) := keep_cell b6 (by simp [*]); have q8 : w6.cell? ⟨kb, off + k * 5 + 4, none⟩ = some (.int .i64 (ls k).base) := keep_cell b6 (by simp [*]); have q9 : CR w6 fa len c := CR.below (by assumption) b6; have qb : Below w1.heap.size w1 w6 := bel_on (by assumption) b6))
      cases hvk : lnB len c d u (ls k) with
      | false =>
        have HF : Hid (enB len c d u ⟨ed, er, et, n, ls⟩ = false) := by
          show _ = _
          rw [HV.out]
          exact lsB_f (fun q => by have := q.2.2.1 k hlt; rw [hvk] at this; cases this)
        have HB6 : Hid (Below w.heap.size w w6) := bel_on HB.out qb
        go_wp2
        go_returns
        exact ⟨ret_bool' HF.out, HB6.out⟩
      | true =>
        go_wp2
        go_roundw
        case rel => exact ⟨k + 1, by omega, by go_num, fun i hi => by
          by_cases hik : i = k
          · rw [hik]; exact hvk
          · exact HA.out i (by omega), qb⟩
        case measure => simp [intOf]; omega
    · obtain rfl : k = n := by omega
      have HOK : Hid (∀ i, i < k → LOk (ls i)) := fun i hi => lnB_ok d1 u1 (HA.out i hi)
      clear y0 y1 y2 hB
      have hk2 : 0 < k := by omega
      obtain ⟨kb, off, rfl, hkb⟩ := HL1.out.addr hk2
      go_wp2
      go_loopw [6] (fun i wr => ∃ m : Nat, m ≤ k ∧ i = .int .i64 (m : Int) ∧ Hid (∀ j, j < m → sumA ls (ls j).cur k = 0 ∧ sumB ls (ls j).dim k = 0) ∧ Below w1.heap.size w1 wr) (fun i _ => k - (intOf i).toNat)
      case atStart => exact ⟨0, Nat.zero_le _, rfl, fun j hj => by omega, HBr.out⟩
      case round =>
        obtain ⟨m, hm, rfl, HZ, hB2⟩ := hrel
        have HB2 : Hid (Below w1.heap.size w1 wr) := hB2
        have x3 : wr.cell? ⟨w.heap.size + 1, 3, none⟩ = some (.slice (some ⟨kb, off, none⟩) k lcap) := (((HX1.out.below hB2 HX1.out.lt).cell 3).trans rfl)
        clear hB2
        by_cases hml : m < k
        · go_wp2
          go_loopw [7, 8, 9] (fun a b i wr => ∃ q : Nat, q ≤ k ∧ i = .int .i64 (q : Int) ∧ a = .int .i64 (sumA ls (ls m).cur q) ∧ b = .int .i64 (sumB ls (ls m).dim q) ∧ Below w1.heap.size w1 wr) (fun _ _ i _ => k - (intOf i).toNat)
          case atStart => exact ⟨0, Nat.zero_le _, rfl, rfl, rfl, HB2.out⟩
          case round =>
            obtain ⟨q, hq, rfl, rfl, rfl, hB3⟩ := hrel
            have HB3 : Hid (Below w1.heap.size w1 wr) := hB3
            have x4 : wr.cell? ⟨w.heap.size + 1, 3, none⟩ = some (.slice (some ⟨kb, off, none⟩) k lcap) := (((HX1.out.below hB3 HX1.out.lt).cell 3).trans rfl)
            have hLR := HL1.out.below hB3
            have sa := sumA_bd HOK.out (ls m).cur q hq
            have sb := sumB_bd HOK.out (ls m).dim q hq
            obtain ⟨_, m2, m3, _, _⟩ := hLR.cell hml
            by_cases hql : q < k
            · obtain ⟨_, q2, q3, q4, q5⟩ := hLR.cell hql
              obtain ⟨_, _, _, _, z1, z2, z3, z4⟩ := HOK.out q hql
              have HS1 : Hid (sumA ls (ls m).cur (q + 1) = if (ls q).cur = (ls m).cur then sumA ls (ls m).cur q + (ls q).amt else sumA ls (ls m).cur q) := rfl
              have HS2 : Hid (sumB ls (ls m).dim (q + 1) = if (ls q).dim = (ls m).dim then sumB ls (ls m).dim q + (ls q).base else sumB ls (ls m).dim q) := rfl
              generalize sumA ls (ls m).cur q = SA at sa HS1 ⊢
              generalize sumB ls (ls m).dim q = SB at sb HS2 ⊢
              generalize hak : (ls q).amt = ak at q4 HS1 z1 z2
              generalize hbk : (ls q).base = bk at q5 HS2 z3 z4
              have HBD : Hid (Below w1.heap.size w1 wr) := hB3
              have hq60 : (q : Int) < 60 := by omega
              have s1 : -10000000000000 ≤ SA := by omega
              have s2 : SA ≤ 10000000000000 := by omega
              have s3 : -10000000000000 ≤ SB := by omega
              have s4 : SB ≤ 10000000000000 := by omega
              clear hLR hB3 x3 hak hbk sa sb
              by_cases t1 : (ls q).cur = (ls m).cur
              · by_cases t2 : (ls q).dim = (ls m).dim
                · skip
                  have b1 : ((ls q).cur == (ls m).cur) = true := by simpa using t1
                  have b2 : ((ls q).dim == (ls m).dim) = true := by simpa using t2
                  rw [if_pos t1] at HS1
                  rw [if_pos t2] at HS2
                  clear t1 t2
                  go_wp2
                  go_quiet (fail)
                  go_wp2
                  go_quiet (fail)
                  go_wp2
                  go_roundw
                  case rel => exact ⟨q + 1, by omega, by go_num, by rw [HS1.out], by rw [HS2.out], ⟨HB3.out.os, HB3.out.tape, HB3.out.output, HB3.out.size, HB3.out.block⟩⟩
                  case measure => simp [intOf]; omega
                · skip
                  have b1 : ((ls q).cur == (ls m).cur) = true := by simpa using t1
                  have b2 : ((ls q).dim == (ls m).dim) = false := by simpa using t2
                  rw [if_pos t1] at HS1
                  rw [if_neg t2] at HS2
                  clear t1 t2
                  go_wp2
                  go_quiet (fail)
                  go_wp2
                  go_quiet (fail)
                  go_wp2
                  go_roundw
                  case rel => exact ⟨q + 1, by omega, by go_num, by rw [HS1.out], by rw [HS2.out], ⟨HB3.out.os, HB3.out.tape, HB3.out.output, HB3.out.size, HB3.out.block⟩⟩
                  case measure => simp [intOf]; omega
              · by_cases t2 : (ls q).dim = (ls m).dim
                · skip
                  have b1 : ((ls q).cur == (ls m).cur) = false := by simpa using t1
                  have b2 : ((ls q).dim == (ls m).dim) = true := by simpa using t2
                  rw [if_neg t1] at HS1
                  rw [if_pos t2] at HS2
                  clear t1 t2
                  go_wp2
                  go_quiet (fail)
                  go_wp2
                  go_quiet (fail)
                  go_wp2
                  go_roundw
                  case rel => exact ⟨q + 1, by omega, by go_num, by rw [HS1.out], by rw [HS2.out], ⟨HB3.out.os, HB3.out.tape, HB3.out.output, HB3.out.size, HB3.out.block⟩⟩
                  case measure => simp [intOf]; omega
                · skip
                  have b1 : ((ls q).cur == (ls m).cur) = false := by simpa using t1
                  have b2 : ((ls q).dim == (ls m).dim) = false := by simpa using t2
                  rw [if_neg t1] at HS1
                  rw [if_neg t2] at HS2
                  clear t1 t2
                  go_wp2
                  go_quiet (fail)
                  go_wp2
                  go_quiet (fail)
                  go_wp2
                  go_roundw
                  case rel => exact ⟨q + 1, by omega, by go_num, by rw [HS1.out], by rw [HS2.out], ⟨HB3.out.os, HB3.out.tape, HB3.out.output, HB3.out.size, HB3.out.block⟩⟩
                  case measure => simp [intOf]; omega
            · obtain rfl : q = k := by omega
              clear hLR hB3 x3 sa sb m2 m3
              by_cases zz : sumA ls (ls m).cur q = 0 ∧ sumB ls (ls m).dim q = 0
              · have HZM : Hid (sumA ls (ls m).cur q = 0 ∧ sumB ls (ls m).dim q = 0) := zz
                rw [zz.1, zz.2]
                clear zz
                go_wp2
                go_roundw
                case rel => exact ⟨m + 1, by omega, by go_num, fun j hj => by
                  by_cases hjm : j = m
                  · rw [hjm]; exact HZM.out
                  · exact HZ.out j (by omega), HB3.out⟩
                case measure => simp [intOf]; omega
              · have HF : Hid (enB len c d u ⟨ed, er, et, q, ls⟩ = false) := by
                  show _ = _
                  rw [HV.out]
                  exact lsB_f (fun p => by have := ev_not HOK.out hml zz; rw [this] at p; exact absurd p.2.2.2 (by simp))
                have HBF : Hid (Below w.heap.size w wr) := bel_on HB.out HB3.out
                generalize sumA ls (ls m).cur q = SA at zz ⊢
                generalize sumB ls (ls m).dim q = SB at zz ⊢
                by_cases z1 : SA = 0
                · have z2 : ¬ SB = 0 := fun e => zz ⟨z1, e⟩
                  have y1 : (SA == 0) = true := by simpa using z1
                  have y2 : (SB == 0) = false := by simpa using z2
                  clear zz
                  go_wp2
                  all_goals first | (exact absurd z1 (by assumption)) | (exact absurd (by assumption) z2) | (go_returns; exact ⟨ret_bool' HF.out, HBF.out⟩)
                · have y1 : (SA == 0) = false := by simpa using z1
                  clear zz
                  go_wp2
                  all_goals first | (exact absurd (by assumption) z1) | (go_returns; exact ⟨ret_bool' HF.out, HBF.out⟩)
        · obtain rfl : m = k := by omega
          have HF : Hid (enB len c d u ⟨ed, er, et, m, ls⟩ = true) := by
            show _ = _
            rw [HV.out]
            exact lsB_t ⟨by omega, by omega, HA.out, ev_all HOK.out HZ.out⟩
          have HBF : Hid (Below w.heap.size w wr) := bel_on HB.out HB2.out
          go_wp2
          go_returns
          exact ⟨ret_bool' HF.out, HBF.out⟩

end Go.Proofs.YtapailihjlfkgaaDoor
