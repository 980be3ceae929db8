/- The program's LedgerOk: it answers leB. -/
import Derived.Test.YtapailihjlfkgaaDoorTl
import Derived.Test.YtapailihjlfkgaaDoorHj
namespace Go.Proofs.YtapailihjlfkgaaDoor
open Go.ChangeShapes Go.WideShapes Go.ChangeAt Go.RowKit
set_option linter.unusedVariables false
set_option linter.unusedSimpArgs false

/-- A ledger that is right in a frame. -/
noncomputable def leB (len : Nat) (c : Nat → C3) (d u : Int) (n : Nat) (es : Nat → E4) (hd : Int) : Bool :=
  @decide (frB len c d u = true ∧ n ≤ 1000 ∧ (∀ i, i < n → enB len c d u (es i) = true) ∧ hd = headV n es) (Classical.propDecidable _)
theorem leB_t {len : Nat} {c : Nat → C3} {d u : Int} {n : Nat} {es : Nat → E4} {hd : Int} (h : frB len c d u = true ∧ n ≤ 1000 ∧ (∀ i, i < n → enB len c d u (es i) = true) ∧ hd = headV n es) : leB len c d u n es hd = true := @decide_eq_true _ (Classical.propDecidable _) h
theorem leB_f {len : Nat} {c : Nat → C3} {d u : Int} {n : Nat} {es : Nat → E4} {hd : Int} (h : ¬ (frB len c d u = true ∧ n ≤ 1000 ∧ (∀ i, i < n → enB len c d u (es i) = true) ∧ hd = headV n es)) : leB len c d u n es hd = false := @decide_eq_false _ (Classical.propDecidable _) h

theorem ER.drew' {w : World} {ad : Option Addr} {len : Nat} {r : Nat → E4} (H : ER w ad len r) : ER w.drew ad len r := H

set_option maxRecDepth 20000 in
set_option maxHeartbeats 4000000 in
theorem isRightIn_any (fa : Option Addr) (len cap : Nat) (c : Nat → C3) (d u : Int) (T : Nat) (ad : Option Addr) (n lcap : Nat) (es : Nat → E4) (hd : Int) (w : World) (h : Tree w T len c) (hr : ER w ad n es) :
    Calls Tryd.prog 32 #[.agg #[.slice ad n lcap, .int .i64 hd], .agg #[.slice fa len cap, .int .i64 d, .int .i64 u, .pointer (some ⟨T, 0, none⟩)]] w fun e w' => e = .returned (.bool (leB len c d u n es hd)) ∧ Below w.heap.size w w' := by
  have HT : Hid (Tree w T len c) := h
  have HR : Hid (ER w ad n es) := hr
  clear h hr
  cases hv : frB len c d u with
  | false =>
    have HV : Hid (leB len c d u n es hd = false) := leB_f (fun q => by rw [hv] at q; exact absurd q.1 (by simp))
    go_enter Tryd.func32, Tryd.ntmps32
    go_wp2_with (go_at_call 70; refine (laidRight_any _ _ _ c _ _ T _ ((HT.out.alloc _).alloc _)).mono ?_; rintro e w1 ⟨rfl, b1⟩; rw [hv]; have b2 : Below w.heap.size w w1 := bel_on (by go_grown) b1; have HB : Hid (Below w.heap.size w w1) := b2; clear b1 b2)
    go_returns
    exact ⟨ret_bool' HV.out, HB.out⟩
  | true =>
  by_cases hn : (n : Int) ≤ 1000
  rotate_left
  · have HV : Hid (leB len c d u n es hd = false) := leB_f (fun q => hn (by omega))
    go_enter Tryd.func32, Tryd.ntmps32
    go_wp2_with (go_at_call 70; refine (laidRight_any _ _ _ c _ _ T _ ((HT.out.alloc _).alloc _)).mono ?_; rintro e w1 ⟨rfl, b1⟩; rw [hv]; have X0 : CB w1 w.heap.size #[.slice ad n lcap, .int .i64 hd] 29 := ((CB.new _ _).alloc _).below b1 (by simp; omega); have y0 := X0.cell 0; have y1 := X0.cell 1; simp at y0 y1; have b2 : Below w.heap.size w w1 := bel_on (by go_grown) b1; have HB : Hid (Below w.heap.size w w1) := b2; clear b1 b2 X0)
    go_returns
    exact ⟨ret_bool' HV.out, HB.out⟩
  go_enter Tryd.func32, Tryd.ntmps32
  go_wp2_with (go_at_call 70; refine (laidRight_any _ _ _ c _ _ T _ ((HT.out.alloc _).alloc _)).mono ?_; rintro e w1 ⟨rfl, b1⟩; rw [hv]; have X0 : CB w1 w.heap.size #[.slice ad n lcap, .int .i64 hd] 29 := ((CB.new _ _).alloc _).below b1 (by simp; omega); have X1 : CB w1 (w.heap.size + 1) #[.slice fa len cap, .int .i64 d, .int .i64 u, .pointer (some ⟨T, 0, none⟩)] 82 := (CB.newAt (by simp) _ _).below b1 (by simp); have y0 := X0.cell 0; have y1 := X0.cell 1; simp at y0 y1; have HX0 : Hid (CB w1 w.heap.size #[.slice ad n lcap, .int .i64 hd] 29) := X0; have HX1 : Hid (CB w1 (w.heap.size + 1) #[.slice fa len cap, .int .i64 d, .int .i64 u, .pointer (some ⟨T, 0, none⟩)] 82) := X1; have HT1 : Hid (Tree w1 T len c) := ((HT.out.alloc _).alloc _).below b1; have HR1 : Hid (ER w1 ad n es) := ((HR.out.alloc _).alloc _).below b1; have b2 : Below w.heap.size w w1 := bel_on (by go_grown) b1; have HB : Hid (Below w.heap.size w w1) := b2; clear b1 b2 X0 X1)
  go_loopw [19] (fun i wr => ∃ k : Nat, k ≤ n ∧ i = .int .i64 (k : Int) ∧ Hid (∀ i, i < k → enB len c d u (es i) = true) ∧ Below w1.heap.size w1 wr) (fun i _ => n - (intOf i).toNat)
  case atStart => exact ⟨0, Nat.zero_le _, rfl, fun i hi => by omega, Below.refl _ _⟩
  case round =>
    obtain ⟨k, hk, rfl, HA, hB⟩ := hrel
    have HBr : Hid (Below w1.heap.size w1 wr) := hB
    have HTr : Hid (Tree wr T len c) := HT1.out.below hB
    have HRr : Hid (ER wr ad n es) := HR1.out.below hB
    by_cases hlt : k < n
    · obtain ⟨kb, off, rfl, hkb⟩ := HRr.out.addr (by omega)
      obtain ⟨c1, c2, c3, la, lca, c4, hl⟩ := HRr.out.cell hlt
      have HLR : Hid (LR wr la (es k).n (es k).ls) := hl
      have k0 : wr.cell? ⟨w.heap.size + 1, 0, none⟩ = some (.slice fa len cap) := ((HX1.out.below hB HX1.out.lt).cell 0).trans rfl
      have k1 : wr.cell? ⟨w.heap.size + 1, 1, none⟩ = some (.int .i64 d) := ((HX1.out.below hB HX1.out.lt).cell 1).trans rfl
      have k2 : wr.cell? ⟨w.heap.size + 1, 2, none⟩ = some (.int .i64 u) := ((HX1.out.below hB HX1.out.lt).cell 2).trans rfl
      have k3 : wr.cell? ⟨w.heap.size + 1, 3, none⟩ = some (.pointer (some ⟨T, 0, none⟩)) := ((HX1.out.below hB HX1.out.lt).cell 3).trans rfl
      have j0 : (wr.alloc (.cells #[.int .i64 (es k).day, .int .i64 (es k).ref, .string (es k).text, .slice la (es k).n lca] 37 (0, 0))).cell? ⟨w.heap.size + 1, 0, none⟩ = some (.slice fa len cap) := keep_cell ((Below.refl _ _).alloc (Nat.le_refl _) _) k0
      have j1 : (wr.alloc (.cells #[.int .i64 (es k).day, .int .i64 (es k).ref, .string (es k).text, .slice la (es k).n lca] 37 (0, 0))).cell? ⟨w.heap.size + 1, 1, none⟩ = some (.int .i64 d) := keep_cell ((Below.refl _ _).alloc (Nat.le_refl _) _) k1
      have j2 : (wr.alloc (.cells #[.int .i64 (es k).day, .int .i64 (es k).ref, .string (es k).text, .slice la (es k).n lca] 37 (0, 0))).cell? ⟨w.heap.size + 1, 2, none⟩ = some (.int .i64 u) := keep_cell ((Below.refl _ _).alloc (Nat.le_refl _) _) k2
      have j3 : (wr.alloc (.cells #[.int .i64 (es k).day, .int .i64 (es k).ref, .string (es k).text, .slice la (es k).n lca] 37 (0, 0))).cell? ⟨w.heap.size + 1, 3, none⟩ = some (.pointer (some ⟨T, 0, none⟩)) := keep_cell ((Below.refl _ _).alloc (Nat.le_refl _) _) k3
      clear hl hB
      have HEE : Hid (enB len c d u ⟨(es k).day, (es k).ref, (es k).text, (es k).n, (es k).ls⟩ = enB len c d u (es k)) := rfl
      cases hvk : enB len c d u (es k) with
      | false =>
        have HF : Hid (leB len c d u n es hd = false) := leB_f (fun q => by have := q.2.2.1 k hlt; rw [hvk] at this; cases this)
        go_wp2_with (go_at_call 33; refine (takes_any _ _ _ c _ _ T _ _ _ _ _ _ (es k).ls _ (HTr.out.alloc _) (HLR.out.alloc _)).mono ?_; rintro e w2 ⟨rfl, b2⟩; rw [HEE.out, hvk]; have HB2 : Hid (Below w.heap.size w w2) := bel_on (bel_on (bel_on HB.out HBr.out) ((Below.refl _ _).alloc (Nat.le_refl _) _)) b2; clear b2)
        go_returns
        exact ⟨ret_bool' HF.out, HB2.out⟩
      | true =>
        go_wp2_with (go_at_call 33; refine (takes_any _ _ _ c _ _ T _ _ _ _ _ _ (es k).ls _ (HTr.out.alloc _) (HLR.out.alloc _)).mono ?_; rintro e w2 ⟨rfl, b2⟩; rw [HEE.out, hvk]; have HB2 : Hid (Below w1.heap.size w1 w2) := bel_on (bel_on HBr.out ((Below.refl _ _).alloc (Nat.le_refl _) _)) b2; clear b2)
        go_roundw
        case rel => exact ⟨k + 1, by omega, by go_num, fun i hi => by
          by_cases hik : i = k
          · rw [hik]; exact hvk
          · exact HA.out i (by omega), HB2.out⟩
        case measure => simp [intOf]; omega
    · obtain rfl : k = n := by omega
      have s0 : wr.cell? ⟨w.heap.size, 0, none⟩ = some (.slice ad k lcap) := ((HX0.out.below hB HX0.out.lt).cell 0).trans rfl
      have s1 : wr.cell? ⟨w.heap.size, 1, none⟩ = some (.int .i64 hd) := ((HX0.out.below hB HX0.out.lt).cell 1).trans rfl
      have r1 : ER wr.drew ad k es := HRr.out
      have q1 : Below w1.heap.size w1 wr.drew := hB.drew
      clear hB
      obtain ⟨hv2, hhv⟩ : ∃ x, x = headV k es := ⟨_, rfl⟩
      go_wp2
      go_region_held3 (fun w' => w'.cell? ⟨w.heap.size, 0, none⟩ = some (.slice ad k lcap) ∧ w'.cell? ⟨w.heap.size, 1, none⟩ = some (.int .i64 hd) ∧ ER w' ad k es ∧ Below w1.heap.size w1 w')
        (refine ⟨?_, ?_, ?_, ?_⟩ <;> first | assumption | (simp [*]; done))
        (first
          | (go_at_call 71; refine (implHead_any _ _ _ es _ (by assumption)).mono ?_; rintro e w2 ⟨rfl, b2⟩; rw [← hhv]; have t0 : w2.cell? ⟨w.heap.size, 0, none⟩ = some (.slice ad k lcap) := keep_cell b2 (by simp [*]); have t1 : w2.cell? ⟨w.heap.size, 1, none⟩ = some (.int .i64 hd) := keep_cell b2 (by simp [*]); have t2 : ER w2 ad k es := ER.below (by assumption) b2; have t3 : Below w1.heap.size w1 w2 := bel_on (by assumption) b2))
      have HBE : Hid (Below w.heap.size w w2) := bel_on HB.out t3
      have HE : Hid (leB len c d u k es hd = (hd == hv2)) := by
        show _ = _
        by_cases e : hd = hv2
        · rw [leB_t ⟨hv, by omega, HA.out, by rw [← hhv]; exact e⟩]; simp [e]
        · rw [leB_f (fun q => e (by rw [hhv]; exact q.2.2.2))]; simp [e]
      go_wp2
      go_returns
      exact ⟨ret_bool' (by rw [← hhv]; exact HE.out), HBE.out⟩

set_option maxHeartbeats 2000000 in
theorem implLedger_any (fa : Option Addr) (len cap : Nat) (c : Nat → C3) (d u : Int) (ad : Option Addr) (n lcap : Nat) (es : Nat → E4) (hd : Int) (w : World) (hl : (len : Int) ≤ 1048576) (hc : ∀ j, (c j).code.size ≤ maxLen) (hr : CR w fa len c) (hE : EL w) (hL : ER w ad n es) :
    Calls Tryd.prog 39 #[.agg #[.slice fa len cap, .int .i64 d, .int .i64 u], .agg #[.slice ad n lcap, .int .i64 hd]] w fun e w' => e = .returned (.bool (leB len c d u n es hd)) ∧ Below w.heap.size w w' := by
  have HC : Hid (∀ j, (c j).code.size ≤ maxLen) := hc
  have d1 : CR ((w.alloc (.cells #[.slice fa len cap, .int .i64 d, .int .i64 u] 26 (0, 0))).alloc (.cells #[.slice ad n lcap, .int .i64 hd] 29 (0, 0))).drew fa len c := ((hr.alloc _).alloc _).drew'
  have d2 : EL ((w.alloc (.cells #[.slice fa len cap, .int .i64 d, .int .i64 u] 26 (0, 0))).alloc (.cells #[.slice ad n lcap, .int .i64 hd] 29 (0, 0))).drew := ((hE.alloc' _).alloc' _).drew'
  have d3 : ER ((w.alloc (.cells #[.slice fa len cap, .int .i64 d, .int .i64 u] 26 (0, 0))).alloc (.cells #[.slice ad n lcap, .int .i64 hd] 29 (0, 0))).drew ad n es := ((hL.alloc (.cells #[.slice fa len cap, .int .i64 d, .int .i64 u] 26 (0, 0))).alloc (.cells #[.slice ad n lcap, .int .i64 hd] 29 (0, 0))).drew'
  have d4 : Below w.heap.size w ((w.alloc (.cells #[.slice fa len cap, .int .i64 d, .int .i64 u] 26 (0, 0))).alloc (.cells #[.slice ad n lcap, .int .i64 hd] 29 (0, 0))).drew := Below.drew (((Below.refl _ _).alloc (Nat.le_refl _) _).alloc (by simp) _)
  clear hr hc hE hL
  go_enter Tryd.func39, Tryd.ntmps39
  go_wp2
  go_region_held3 (fun w' => w'.cell? ⟨w.heap.size, 0, none⟩ = some (.slice fa len cap) ∧ w'.cell? ⟨w.heap.size, 1, none⟩ = some (.int .i64 d) ∧ w'.cell? ⟨w.heap.size, 2, none⟩ = some (.int .i64 u) ∧ w'.cell? ⟨w.heap.size + 1, 0, none⟩ = some (.slice ad n lcap) ∧ w'.cell? ⟨w.heap.size + 1, 1, none⟩ = some (.int .i64 hd) ∧ CR w' fa len c ∧ EL w' ∧ ER w' ad n es ∧ Below w.heap.size w w')
    (refine ⟨?_, ?_, ?_, ?_, ?_, ?_, ?_, ?_, ?_⟩ <;> first | assumption | (simp [*]; done))
    (first
      | (go_at_call 31; refine (lay_any _ _ _ c _ _ _ hl HC.out (by assumption) (by assumption)).mono ?_; rintro e w6 ⟨T, rfl, hT, b6⟩; have q0 : w6.cell? ⟨w.heap.size, 0, none⟩ = some (.slice fa len cap) := keep_cell b6 (by simp [*]); have q1 : w6.cell? ⟨w.heap.size, 1, none⟩ = some (.int .i64 d) := keep_cell b6 (by simp [*]); have q2 : w6.cell? ⟨w.heap.size, 2, none⟩ = some (.int .i64 u) := keep_cell b6 (by simp [*]); have q3 : w6.cell? ⟨w.heap.size + 1, 0, none⟩ = some (.slice ad n lcap) := keep_cell b6 (by simp [*]); have q4 : w6.cell? ⟨w.heap.size + 1, 1, none⟩ = some (.int .i64 hd) := keep_cell b6 (by simp [*]); have qr : CR w6 fa len c := CR.below (by assumption) b6; have qe : EL w6 := EL.below (by assumption) b6 (EL.nine (by assumption)); have ql : ER w6 ad n es := ER.below (by assumption) b6; have qb : Below w.heap.size w w6 := bel_on (by assumption) b6)
      | (go_at_call 32; refine (isRightIn_any _ _ _ c _ _ T _ _ _ es _ _ hT (by assumption)).mono ?_; rintro e w7 ⟨rfl, b7⟩; have v0 : w7.cell? ⟨w.heap.size, 0, none⟩ = some (.slice fa len cap) := keep_cell b7 (by simp [*]); have v1 : w7.cell? ⟨w.heap.size, 1, none⟩ = some (.int .i64 d) := keep_cell b7 (by simp [*]); have v2 : w7.cell? ⟨w.heap.size, 2, none⟩ = some (.int .i64 u) := keep_cell b7 (by simp [*]); have v3 : w7.cell? ⟨w.heap.size + 1, 0, none⟩ = some (.slice ad n lcap) := keep_cell b7 (by simp [*]); have v4 : w7.cell? ⟨w.heap.size + 1, 1, none⟩ = some (.int .i64 hd) := keep_cell b7 (by simp [*]); have vr : CR w7 fa len c := CR.below (by assumption) b7; have ve : EL w7 := EL.below (by assumption) b7 (EL.nine (by assumption)); have vl : ER w7 ad n es := ER.below (by assumption) b7; have vb : Below w.heap.size w w7 := bel_on (by assumption) b7))
  go_wp2
  go_returns
  exact ⟨rfl, vb⟩

end Go.Proofs.YtapailihjlfkgaaDoor
