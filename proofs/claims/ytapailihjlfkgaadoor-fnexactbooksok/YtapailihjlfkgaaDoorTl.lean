/- The program's tests of an entry's lines and of an entry. -/
import Derived.Test.YtapailihjlfkgaaDoorTk
namespace Go.Proofs.YtapailihjlfkgaaDoor
open Go.ChangeShapes Go.WideShapes Go.ChangeAt Go.RowKit
set_option linter.unusedVariables false
set_option linter.unusedSimpArgs false

noncomputable def lsB (len : Nat) (c : Nat → C3) (d u : Int) (n : Nat) (ls : Nat → L5) : Bool :=
  @decide (2 ≤ n ∧ n ≤ 60 ∧ (∀ i, i < n → lnB len c d u (ls i) = true) ∧ evB n ls = true) (Classical.propDecidable _)
theorem lsB_t {len : Nat} {c : Nat → C3} {d u : Int} {n : Nat} {ls : Nat → L5} (h : 2 ≤ n ∧ n ≤ 60 ∧ (∀ i, i < n → lnB len c d u (ls i) = true) ∧ evB n ls = true) : lsB len c d u n ls = true := @decide_eq_true _ (Classical.propDecidable _) h
theorem lsB_f {len : Nat} {c : Nat → C3} {d u : Int} {n : Nat} {ls : Nat → L5} (h : ¬ (2 ≤ n ∧ n ≤ 60 ∧ (∀ i, i < n → lnB len c d u (ls i) = true) ∧ evB n ls = true)) : lsB len c d u n ls = false := @decide_eq_false _ (Classical.propDecidable _) h

theorem lnB_ok {len : Nat} {c : Nat → C3} {d u : Int} {l : L5} (hd : d ≤ 20) (hu : u ≤ 20) (h : lnB len c d u l = true) : LOk l := by
  unfold lnB at h
  simp only [Bool.and_eq_true] at h
  obtain ⟨_, h1, h2, h3, h4, _⟩ := h
  have a1 := inB_iff.1 h1
  have a2 := inB_iff.1 h2
  have a3 := inB_iff.1 h3
  have a4 := inB_iff.1 h4
  exact ⟨by omega, by omega, by omega, by omega, by omega, by omega, by omega, by omega⟩

set_option maxRecDepth 20000 in
set_option maxHeartbeats 4000000 in
theorem takesLines_any (fa : Option Addr) (len cap : Nat) (c : Nat → C3) (d u : Int) (T : Nat) (ad : Option Addr) (n lcap : Nat) (ls : Nat → L5) (w : World) (hd : d ≤ 20) (hu : u ≤ 20) (h : Tree w T len c) (hr : LR w ad n ls) :
    Calls Tryd.prog 74 #[.agg #[.slice fa len cap, .int .i64 d, .int .i64 u, .pointer (some ⟨T, 0, none⟩)], .slice ad n lcap] w fun e w' => e = .returned (.bool (lsB len c d u n ls)) ∧ Below w.heap.size w w' := by
  by_cases hn2 : (2 : Int) ≤ (n : Int)
  rotate_left
  · have HF : Hid (lsB len c d u n ls = false) := lsB_f (fun q => hn2 (by omega))
    go_enter Tryd.func74, Tryd.ntmps74
    go_wp2
    go_returns
    exact ⟨ret_bool' HF.out, by go_grown⟩
  by_cases hn60 : (n : Int) ≤ 60
  rotate_left
  · have HF : Hid (lsB len c d u n ls = false) := lsB_f (fun q => hn60 (by omega))
    go_enter Tryd.func74, Tryd.ntmps74
    go_wp2
    go_returns
    exact ⟨ret_bool' HF.out, by go_grown⟩
  generalize hbx : (Obj.cells #[.slice fa len cap, .int .i64 d, .int .i64 u, .pointer (some ⟨T, 0, none⟩)] 82 (0, 0)) = bx
  have X0 : CB (w.alloc bx) w.heap.size #[.slice fa len cap, .int .i64 d, .int .i64 u, .pointer (some ⟨T, 0, none⟩)] 82 := by rw [← hbx]; exact CB.new _ _
  have HX0 : Hid (CB (w.alloc bx) w.heap.size #[.slice fa len cap, .int .i64 d, .int .i64 u, .pointer (some ⟨T, 0, none⟩)] 82) := X0
  have HT0 : Hid (Tree (w.alloc bx) T len c) := h.alloc _
  have HR0 : Hid (LR (w.alloc bx) ad n ls) := hr.alloc _
  have Hbx : Hid ((Obj.cells #[.slice fa len cap, .int .i64 d, .int .i64 u, .pointer (some ⟨T, 0, none⟩)] 82 (0, 0)) = bx) := hbx
  have HW0 : Hid (Below w.heap.size w (w.alloc bx)) := (Below.refl _ _).alloc (Nat.le_refl _) _
  clear X0 h hr hbx
  go_enter Tryd.func74, Tryd.ntmps74
  go_wp2
  go_loopw [17] (fun i wr => ∃ k : Nat, k ≤ n ∧ i = .int .i64 (k : Int) ∧ Hid (∀ i, i < k → lnB len c d u (ls i) = true) ∧ Below (w.alloc bx).heap.size (w.alloc bx) wr) (fun i _ => n - (intOf i).toNat)
  case atStart => exact ⟨0, Nat.zero_le _, rfl, fun i hi => by omega, by rw [Hbx.out]; exact Below.refl _ _⟩
  case round =>
    obtain ⟨k, hk, rfl, HA, hB⟩ := hrel
    have HB : Hid (Below (w.alloc bx).heap.size (w.alloc bx) wr) := hB
    have hX := HX0.out.below hB HX0.out.lt
    have k0 := hX.cell 0
    have k1 := hX.cell 1
    have k2 := hX.cell 2
    have k3 := hX.cell 3
    simp only [List.getElem?_toArray, List.getElem?_cons_zero, List.getElem?_cons_succ] at k0 k1 k2 k3
    have HTr : Hid (Tree wr T len c) := HT0.out.below hB
    have HRr : Hid (LR wr ad n ls) := HR0.out.below hB
    clear hB hX
    by_cases hlt : k < n
    · obtain ⟨kb, off, rfl, hkb⟩ := HRr.out.addr (by omega)
      obtain ⟨c1, c2, c3, c4, c5⟩ := HRr.out.cell hlt
      have j0 : (wr.alloc (.cells #[.int .i64 (ls k).acc, .int .i64 (ls k).dim, .int .i64 (ls k).cur, .int .i64 (ls k).amt, .int .i64 (ls k).base] 78 (0, 0))).cell? ⟨w.heap.size, 0, none⟩ = some (.slice fa len cap) := keep_cell ((Below.refl _ _).alloc (Nat.le_refl _) _) k0
      have j1 : (wr.alloc (.cells #[.int .i64 (ls k).acc, .int .i64 (ls k).dim, .int .i64 (ls k).cur, .int .i64 (ls k).amt, .int .i64 (ls k).base] 78 (0, 0))).cell? ⟨w.heap.size, 1, none⟩ = some (.int .i64 d) := keep_cell ((Below.refl _ _).alloc (Nat.le_refl _) _) k1
      have j2 : (wr.alloc (.cells #[.int .i64 (ls k).acc, .int .i64 (ls k).dim, .int .i64 (ls k).cur, .int .i64 (ls k).amt, .int .i64 (ls k).base] 78 (0, 0))).cell? ⟨w.heap.size, 2, none⟩ = some (.int .i64 u) := keep_cell ((Below.refl _ _).alloc (Nat.le_refl _) _) k2
      have j3 : (wr.alloc (.cells #[.int .i64 (ls k).acc, .int .i64 (ls k).dim, .int .i64 (ls k).cur, .int .i64 (ls k).amt, .int .i64 (ls k).base] 78 (0, 0))).cell? ⟨w.heap.size, 3, none⟩ = some (.pointer (some ⟨T, 0, none⟩)) := keep_cell ((Below.refl _ _).alloc (Nat.le_refl _) _) k3
      cases hv : lnB len c d u (ls k) with
      | false =>
        have HF : Hid (lsB len c d u n ls = false) := lsB_f (fun q => by have := q.2.2.1 k hlt; rw [hv] at this; cases this)
        go_wp2_with (go_at_call 103; refine (takesLine_any _ _ _ c _ _ T (ls k) _ (HTr.out.alloc _)).mono ?_; rintro e w1 ⟨rfl, b1⟩; rw [hv]; have HB1 : Hid (Below w.heap.size w w1) := bel_on (bel_on (bel_on HW0.out HB.out) ((Below.refl _ _).alloc (Nat.le_refl _) _)) b1; clear b1)
        go_returns
        exact ⟨ret_bool' HF.out, HB1.out⟩
      | true =>
        go_wp2_with (go_at_call 103; refine (takesLine_any _ _ _ c _ _ T (ls k) _ (HTr.out.alloc _)).mono ?_; rintro e w1 ⟨rfl, b1⟩; rw [hv]; have HB1 : Hid (Below (w.alloc bx).heap.size (w.alloc bx) w1) := bel_on (bel_on HB.out ((Below.refl _ _).alloc (Nat.le_refl _) _)) b1; clear b1)
        go_roundw
        case rel => exact ⟨k + 1, by omega, by go_num, fun i hi => by
          by_cases hik : i = k
          · rw [hik]; exact hv
          · exact HA.out i (by omega), HB1.out⟩
        case measure => simp [intOf]; omega
    · obtain rfl : k = n := by omega
      have HE : Hid (lsB len c d u k ls = evB k ls) := by
        show _ = _
        cases he : evB k ls with
        | true => exact lsB_t ⟨by omega, by omega, HA.out, he⟩
        | false => exact lsB_f (fun q => by rw [he] at q; exact absurd q.2.2.2 (by simp))
      go_wp2_with (go_at_call 104; refine (isEven_any _ _ _ ls _ (by omega) (fun i hi => lnB_ok hd hu (HA.out i hi)) HRr.out).mono ?_; rintro e w1 ⟨rfl, b1⟩; have HB1 : Hid (Below w.heap.size w w1) := bel_on (bel_on HW0.out HB.out) b1; clear b1)
      go_returns
      exact ⟨ret_bool' HE.out, HB1.out⟩

/-- An entry that a frame takes. -/
noncomputable def enB (len : Nat) (c : Nat → C3) (d u : Int) (e : E4) : Bool := frB len c d u && (inB e.day 0 40000 && (inB e.ref 0 1000 && (txB e.text && lsB len c d u e.n e.ls)))

set_option maxRecDepth 20000 in
set_option maxHeartbeats 4000000 in
theorem takes_any (fa : Option Addr) (len cap : Nat) (c : Nat → C3) (d u : Int) (T : Nat) (ed er : Int) (et : ByteArray) (ad : Option Addr) (n lcap : Nat) (ls : Nat → L5) (w : World) (h : Tree w T len c) (hr : LR w ad n ls) :
    Calls Tryd.prog 33 #[.agg #[.slice fa len cap, .int .i64 d, .int .i64 u, .pointer (some ⟨T, 0, none⟩)], .agg #[.int .i64 ed, .int .i64 er, .string et, .slice ad n lcap]] w fun e w' => e = .returned (.bool (enB len c d u ⟨ed, er, et, n, ls⟩)) ∧ Below w.heap.size w w' := by
  have HT : Hid (Tree w T len c) := h
  have HR : Hid (LR w ad n ls) := hr
  clear h hr
  cases hv : frB len c d u with
  | false =>
    have HV : Hid (enB len c d u ⟨ed, er, et, n, ls⟩ = false) := by show _ = _; unfold enB; rw [hv]; rfl
    go_enter Tryd.func33, Tryd.ntmps33
    go_wp2_with (go_at_call 70; refine (laidRight_any _ _ _ c _ _ T _ ((HT.out.alloc _).alloc _)).mono ?_; rintro e w1 ⟨rfl, b1⟩; rw [hv]; have b2 : Below w.heap.size w w1 := bel_on (by go_grown) b1; have HB : Hid (Below w.heap.size w w1) := b2; clear b1 b2)
    go_returns
    exact ⟨ret_bool' HV.out, HB.out⟩
  | true =>
    have hdu : d ≤ 20 ∧ u ≤ 20 := by
      unfold frB at hv
      simp only [Bool.and_eq_true] at hv
      exact ⟨(inB_iff.1 hv.2.1).2, (inB_iff.1 hv.2.2).2⟩
    obtain ⟨hd20, hu20⟩ := hdu
    cases h1 : inB ed 0 40000 with
    | false =>
      have HV : Hid (enB len c d u ⟨ed, er, et, n, ls⟩ = false) := by show _ = _; unfold enB; simp only [hv, h1]; rfl
      go_enter Tryd.func33, Tryd.ntmps33
      go_wp2_with (first
        | (go_at_call 70; refine (laidRight_any _ _ _ c _ _ T _ ((HT.out.alloc _).alloc _)).mono ?_; rintro e w1 ⟨rfl, b1⟩; rw [hv]; have X1 : CB w1 (w.heap.size + 1) #[.int .i64 ed, .int .i64 er, .string et, .slice ad n lcap] 37 := (CB.newAt (by simp) _ _).below b1 (by simp); have X0 : CB w1 w.heap.size #[.slice fa len cap, .int .i64 d, .int .i64 u, .pointer (some ⟨T, 0, none⟩)] 82 := ((CB.new _ _).alloc _).below b1 (by simp; omega); have x0 := X1.cell 0; have x1 := X1.cell 1; have x2 := X1.cell 2; have x3 := X1.cell 3; have y0 := X0.cell 0; have y1 := X0.cell 1; have y2 := X0.cell 2; have y3 := X0.cell 3; simp at x0 x1 x2 x3 y0 y1 y2 y3; have HT1 : Hid (Tree w1 T len c) := ((HT.out.alloc _).alloc _).below b1; have HR1 : Hid (LR w1 ad n ls) := ((HR.out.alloc _).alloc _).below b1; have b2 : Below w.heap.size w w1 := bel_on (by go_grown) b1; have HB : Hid (Below w.heap.size w w1) := b2; clear b1 b2 X0 X1)
        | (go_at_call 72; refine (isDay_any _ _).mono ?_; rintro e w2 ⟨rfl, ew⟩; replace ew := ew.symm; subst ew; rw [h1]))
      go_returns
      exact ⟨ret_bool' HV.out, HB.out⟩
    | true =>
      by_cases g1 : 0 ≤ er
      rotate_left
      · have HV : Hid (enB len c d u ⟨ed, er, et, n, ls⟩ = false) := by show _ = _; unfold enB; simp only [hv, h1, inB_f (fun q : 0 ≤ er ∧ er ≤ 1000 => g1 q.1)]; rfl
        have f1 : decide (0 ≤ er) = false := decide_eq_false g1
        go_enter Tryd.func33, Tryd.ntmps33
        go_wp2_with (first
          | (go_at_call 70; refine (laidRight_any _ _ _ c _ _ T _ ((HT.out.alloc _).alloc _)).mono ?_; rintro e w1 ⟨rfl, b1⟩; rw [hv]; have X1 : CB w1 (w.heap.size + 1) #[.int .i64 ed, .int .i64 er, .string et, .slice ad n lcap] 37 := (CB.newAt (by simp) _ _).below b1 (by simp); have X0 : CB w1 w.heap.size #[.slice fa len cap, .int .i64 d, .int .i64 u, .pointer (some ⟨T, 0, none⟩)] 82 := ((CB.new _ _).alloc _).below b1 (by simp; omega); have x0 := X1.cell 0; have x1 := X1.cell 1; have x2 := X1.cell 2; have x3 := X1.cell 3; have y0 := X0.cell 0; have y1 := X0.cell 1; have y2 := X0.cell 2; have y3 := X0.cell 3; simp at x0 x1 x2 x3 y0 y1 y2 y3; have HT1 : Hid (Tree w1 T len c) := ((HT.out.alloc _).alloc _).below b1; have HR1 : Hid (LR w1 ad n ls) := ((HR.out.alloc _).alloc _).below b1; have b2 : Below w.heap.size w w1 := bel_on (by go_grown) b1; have HB : Hid (Below w.heap.size w w1) := b2; clear b1 b2 X0 X1)
          | (go_at_call 72; refine (isDay_any _ _).mono ?_; rintro e w2 ⟨rfl, ew⟩; replace ew := ew.symm; subst ew; rw [h1]))
        go_returns
        exact ⟨ret_bool' HV.out, HB.out⟩
      by_cases g2 : er ≤ 1000
      rotate_left
      · have HV : Hid (enB len c d u ⟨ed, er, et, n, ls⟩ = false) := by show _ = _; unfold enB; simp only [hv, h1, inB_f (fun q : 0 ≤ er ∧ er ≤ 1000 => g2 q.2)]; rfl
        have f1 : decide (er ≤ 1000) = false := decide_eq_false g2
        go_enter Tryd.func33, Tryd.ntmps33
        go_wp2_with (first
          | (go_at_call 70; refine (laidRight_any _ _ _ c _ _ T _ ((HT.out.alloc _).alloc _)).mono ?_; rintro e w1 ⟨rfl, b1⟩; rw [hv]; have X1 : CB w1 (w.heap.size + 1) #[.int .i64 ed, .int .i64 er, .string et, .slice ad n lcap] 37 := (CB.newAt (by simp) _ _).below b1 (by simp); have X0 : CB w1 w.heap.size #[.slice fa len cap, .int .i64 d, .int .i64 u, .pointer (some ⟨T, 0, none⟩)] 82 := ((CB.new _ _).alloc _).below b1 (by simp; omega); have x0 := X1.cell 0; have x1 := X1.cell 1; have x2 := X1.cell 2; have x3 := X1.cell 3; have y0 := X0.cell 0; have y1 := X0.cell 1; have y2 := X0.cell 2; have y3 := X0.cell 3; simp at x0 x1 x2 x3 y0 y1 y2 y3; have HT1 : Hid (Tree w1 T len c) := ((HT.out.alloc _).alloc _).below b1; have HR1 : Hid (LR w1 ad n ls) := ((HR.out.alloc _).alloc _).below b1; have b2 : Below w.heap.size w w1 := bel_on (by go_grown) b1; have HB : Hid (Below w.heap.size w w1) := b2; clear b1 b2 X0 X1)
          | (go_at_call 72; refine (isDay_any _ _).mono ?_; rintro e w2 ⟨rfl, ew⟩; replace ew := ew.symm; subst ew; rw [h1]))
        go_returns
        exact ⟨ret_bool' HV.out, HB.out⟩
      cases h3 : txB et with
      | false =>
        have HV : Hid (enB len c d u ⟨ed, er, et, n, ls⟩ = false) := by show _ = _; unfold enB; simp only [hv, h1, inB_t g1 g2, h3]; rfl
        go_enter Tryd.func33, Tryd.ntmps33
        go_wp2_with (first
          | (go_at_call 70; refine (laidRight_any _ _ _ c _ _ T _ ((HT.out.alloc _).alloc _)).mono ?_; rintro e w1 ⟨rfl, b1⟩; rw [hv]; have X1 : CB w1 (w.heap.size + 1) #[.int .i64 ed, .int .i64 er, .string et, .slice ad n lcap] 37 := (CB.newAt (by simp) _ _).below b1 (by simp); have X0 : CB w1 w.heap.size #[.slice fa len cap, .int .i64 d, .int .i64 u, .pointer (some ⟨T, 0, none⟩)] 82 := ((CB.new _ _).alloc _).below b1 (by simp; omega); have x0 := X1.cell 0; have x1 := X1.cell 1; have x2 := X1.cell 2; have x3 := X1.cell 3; have y0 := X0.cell 0; have y1 := X0.cell 1; have y2 := X0.cell 2; have y3 := X0.cell 3; simp at x0 x1 x2 x3 y0 y1 y2 y3; have HT1 : Hid (Tree w1 T len c) := ((HT.out.alloc _).alloc _).below b1; have HR1 : Hid (LR w1 ad n ls) := ((HR.out.alloc _).alloc _).below b1; have b2 : Below w.heap.size w w1 := bel_on (by go_grown) b1; have HB : Hid (Below w.heap.size w w1) := b2; clear b1 b2 X0 X1)
          | (go_at_call 72; refine (isDay_any _ _).mono ?_; rintro e w2 ⟨rfl, ew⟩; replace ew := ew.symm; subst ew; rw [h1])
          | (go_at_call 73; refine (isText_any _ _).mono ?_; rintro e w2 ⟨rfl, ew⟩; replace ew := ew.symm; subst ew; rw [h3]))
        go_returns
        exact ⟨ret_bool' HV.out, HB.out⟩
      | true =>
        have HV : Hid (enB len c d u ⟨ed, er, et, n, ls⟩ = lsB len c d u n ls) := by show _ = _; unfold enB; simp only [hv, h1, inB_t g1 g2, h3]; rfl
        go_enter Tryd.func33, Tryd.ntmps33
        go_wp2_with (first
          | (go_at_call 70; refine (laidRight_any _ _ _ c _ _ T _ ((HT.out.alloc _).alloc _)).mono ?_; rintro e w1 ⟨rfl, b1⟩; rw [hv]; have X1 : CB w1 (w.heap.size + 1) #[.int .i64 ed, .int .i64 er, .string et, .slice ad n lcap] 37 := (CB.newAt (by simp) _ _).below b1 (by simp); have X0 : CB w1 w.heap.size #[.slice fa len cap, .int .i64 d, .int .i64 u, .pointer (some ⟨T, 0, none⟩)] 82 := ((CB.new _ _).alloc _).below b1 (by simp; omega); have x0 := X1.cell 0; have x1 := X1.cell 1; have x2 := X1.cell 2; have x3 := X1.cell 3; have y0 := X0.cell 0; have y1 := X0.cell 1; have y2 := X0.cell 2; have y3 := X0.cell 3; simp at x0 x1 x2 x3 y0 y1 y2 y3; have HT1 : Hid (Tree w1 T len c) := ((HT.out.alloc _).alloc _).below b1; have HR1 : Hid (LR w1 ad n ls) := ((HR.out.alloc _).alloc _).below b1; have b2 : Below w.heap.size w w1 := bel_on (by go_grown) b1; have HB : Hid (Below w.heap.size w w1) := b2; clear b1 b2 X0 X1)
          | (go_at_call 72; refine (isDay_any _ _).mono ?_; rintro e w2 ⟨rfl, ew⟩; replace ew := ew.symm; subst ew; rw [h1])
          | (go_at_call 73; refine (isText_any _ _).mono ?_; rintro e w2 ⟨rfl, ew⟩; replace ew := ew.symm; subst ew; rw [h3])
          | (go_at_call 74; refine (takesLines_any _ _ _ c _ _ T _ _ _ ls _ hd20 hu20 HT1.out HR1.out).mono ?_; rintro e w3 ⟨rfl, b3⟩; have HB3 : Hid (Below w.heap.size w w3) := bel_on HB.out b3; clear b3))
        go_returns
        exact ⟨ret_bool' HV.out, HB3.out⟩

end Go.Proofs.YtapailihjlfkgaaDoor
