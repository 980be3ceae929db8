/- TakeIn of both sides in one form. -/
import Derived.Test.YtdgccdlaokbnhaaTc
namespace Go.Proofs.Ytdgccdlaokbnhaa
open Go Go.ChangeShapes Go.WideShapes Go.ChangeAt Go.RowKit
set_option linter.unusedVariables false
set_option linter.unusedSimpArgs false


set_option maxRecDepth 20000 in
set_option maxHeartbeats 16000000 in
theorem implTakeIn_no (m p : Int) (a : Addr) (n cap : Nat) (off q k : Int) (c C : Nat → LA2) (w : World) (hnI : (n : Int) ≤ 1048576) (hno : woB m p n c off = false ∨ laB ⟨q, k⟩ = false) (hr : LAr w (some a) n c) :
    Calls Try.prog 31 #[.agg #[.int .i64 m, .int .i64 p, .slice (some a) n cap, .int .i64 off], .int .i64 q, .int .i64 k] w fun e w' => ∃ ad cap, e = .returned (.tuple #[.agg #[.int .i64 0, .int .i64 0, .slice ad 0 cap, .int .i64 0], .bool false]) ∧ OwnLA2 w' w.heap.size ad 0 C ∧ Below w.heap.size w w' := by
  have HR : Hid (LAr w (some a) n c) := hr
  clear hr
  cases h0 : woB m p n c off
  · have HW0 := hid h0
    have HLA : Hid (laB ⟨q, k⟩ = laB ⟨q, k⟩) := rfl
    clear h0 hno
    go_enter Try.func31, Try.ntmps31
    go_wp2_with (first
    | (go_at_call 18; refine (implWorth_eq _ _ _ _ _ _ c _ _ hnI (((HR.out.alloc _).alloc _).alloc _) HW0.out).mono ?_; rintro e w3 ⟨rfl, b3⟩; have U3 : Hid (UB w m p (.slice (some a) n cap) off q k w3) := hid ((UB.start w m p (.slice (some a) n cap) off q k).below b3); have R3 : Hid (LAr w3 (some a) n c) := hid ((((HR.out.alloc _).alloc _).alloc _).below b3); have k0 : w3.cell? ⟨w.heap.size + 1 + 1, 0, none⟩ = some (.int .i64 q) := U3.out.ca.cell 0; have k1 : w3.cell? ⟨w.heap.size + 1 + 1, 1, none⟩ = some (.int .i64 k) := U3.out.ca.cell 1; have x0 : w3.cell? ⟨w.heap.size + 1, 0, none⟩ = some (.int .i64 0) := U3.out.rs.cell 0; have x1 : w3.cell? ⟨w.heap.size + 1, 1, none⟩ = some (.int .i64 0) := U3.out.rs.cell 1; have x2 : w3.cell? ⟨w.heap.size + 1, 2, none⟩ = some (.slice none 0 0) := U3.out.rs.cell 2; have x3 : w3.cell? ⟨w.heap.size + 1, 3, none⟩ = some (.int .i64 0) := U3.out.rs.cell 3; have f0 := U3.out.rs.fr 0; have f1 := U3.out.rs.fr 1; have f2 := U3.out.rs.fr 2; have f3 := U3.out.rs.fr 3; clear b3)
    | (go_at_call 77; refine (laRight_eq ⟨q, k⟩ _ _ HLA.out).mono ?_; rintro e w4 ⟨rfl, b4⟩; clear x0 x1 x2 x3 f0 f1 f2 f3; have U4 := hid (U3.out.below b4); have R4 := hid (R3.out.below b4); have x0 : w4.cell? ⟨w.heap.size + 1, 0, none⟩ = some (.int .i64 0) := U4.out.rs.cell 0; have x1 : w4.cell? ⟨w.heap.size + 1, 1, none⟩ = some (.int .i64 0) := U4.out.rs.cell 1; have x2 : w4.cell? ⟨w.heap.size + 1, 2, none⟩ = some (.slice none 0 0) := U4.out.rs.cell 2; have x3 : w4.cell? ⟨w.heap.size + 1, 3, none⟩ = some (.int .i64 0) := U4.out.rs.cell 3; have f0 := U4.out.rs.fr 0; have f1 := U4.out.rs.fr 1; have f2 := U4.out.rs.fr 2; have f3 := U4.out.rs.fr 3; clear b4))
    have ZC : CB ((((w3.setCell ⟨w.heap.size + 1, 0, none⟩ (.int .i64 0)).setCell ⟨w.heap.size + 1, 1, none⟩ (.int .i64 0)).setCell ⟨w.heap.size + 1, 2, none⟩ (.slice none 0 0)).setCell ⟨w.heap.size + 1, 3, none⟩ (.int .i64 0)) (w.heap.size + 1) #[.int .i64 0, .int .i64 0, .slice none 0 0, .int .i64 0] 26 := set4 U3.out.rs
    have ZB : Below w.heap.size w ((((w3.setCell ⟨w.heap.size + 1, 0, none⟩ (.int .i64 0)).setCell ⟨w.heap.size + 1, 1, none⟩ (.int .i64 0)).setCell ⟨w.heap.size + 1, 2, none⟩ (.slice none 0 0)).setCell ⟨w.heap.size + 1, 3, none⟩ (.int .i64 0)) := ((((U3.out.bl.setCell (by simp <;> omega) _).setCell (by simp <;> omega) _).setCell (by simp <;> omega) _).setCell (by simp <;> omega) _)
    have ZO : OwnLA2 ((((w3.setCell ⟨w.heap.size + 1, 0, none⟩ (.int .i64 0)).setCell ⟨w.heap.size + 1, 1, none⟩ (.int .i64 0)).setCell ⟨w.heap.size + 1, 2, none⟩ (.slice none 0 0)).setCell ⟨w.heap.size + 1, 3, none⟩ (.int .i64 0)) w.heap.size none 0 C := .inl rfl
    generalize ((((w3.setCell ⟨w.heap.size + 1, 0, none⟩ (.int .i64 0)).setCell ⟨w.heap.size + 1, 1, none⟩ (.int .i64 0)).setCell ⟨w.heap.size + 1, 2, none⟩ (.slice none 0 0)).setCell ⟨w.heap.size + 1, 3, none⟩ (.int .i64 0)) = Z at ZC ZB ZO ⊢
    have z0 : Z.cell? ⟨w.heap.size + 1, 0, none⟩ = some (.int .i64 0) := ZC.cell 0
    have z1 : Z.cell? ⟨w.heap.size + 1, 1, none⟩ = some (.int .i64 0) := ZC.cell 1
    have z2 : Z.cell? ⟨w.heap.size + 1, 2, none⟩ = some (.slice none 0 0) := ZC.cell 2
    have z3 : Z.cell? ⟨w.heap.size + 1, 3, none⟩ = some (.int .i64 0) := ZC.cell 3
    refine bodyPost_ret (v := .tuple #[.agg #[.int .i64 0, .int .i64 0, .slice none 0 0, .int .i64 0], .bool false]) (by simp [results, Try.results31, go_sem, z0, z1, z2, z3]; try rfl) rfl ?_
    exact ⟨_, _, rfl, ZO, ZB⟩
  · have hla : laB ⟨q, k⟩ = false := by
      rcases hno with h | h
      · rw [h0] at h; cases h
      · exact h
    have HW0 := hid h0
    have HLA := hid hla
    clear h0 hno hla
    go_enter Try.func31, Try.ntmps31
    go_wp2_with (first
    | (go_at_call 18; refine (implWorth_eq _ _ _ _ _ _ c _ _ hnI (((HR.out.alloc _).alloc _).alloc _) HW0.out).mono ?_; rintro e w3 ⟨rfl, b3⟩; have U3 : Hid (UB w m p (.slice (some a) n cap) off q k w3) := hid ((UB.start w m p (.slice (some a) n cap) off q k).below b3); have R3 : Hid (LAr w3 (some a) n c) := hid ((((HR.out.alloc _).alloc _).alloc _).below b3); have k0 : w3.cell? ⟨w.heap.size + 1 + 1, 0, none⟩ = some (.int .i64 q) := U3.out.ca.cell 0; have k1 : w3.cell? ⟨w.heap.size + 1 + 1, 1, none⟩ = some (.int .i64 k) := U3.out.ca.cell 1; have x0 : w3.cell? ⟨w.heap.size + 1, 0, none⟩ = some (.int .i64 0) := U3.out.rs.cell 0; have x1 : w3.cell? ⟨w.heap.size + 1, 1, none⟩ = some (.int .i64 0) := U3.out.rs.cell 1; have x2 : w3.cell? ⟨w.heap.size + 1, 2, none⟩ = some (.slice none 0 0) := U3.out.rs.cell 2; have x3 : w3.cell? ⟨w.heap.size + 1, 3, none⟩ = some (.int .i64 0) := U3.out.rs.cell 3; have f0 := U3.out.rs.fr 0; have f1 := U3.out.rs.fr 1; have f2 := U3.out.rs.fr 2; have f3 := U3.out.rs.fr 3; clear b3)
    | (go_at_call 77; refine (laRight_eq ⟨q, k⟩ _ _ HLA.out).mono ?_; rintro e w4 ⟨rfl, b4⟩; clear x0 x1 x2 x3 f0 f1 f2 f3; have U4 := hid (U3.out.below b4); have R4 := hid (R3.out.below b4); have x0 : w4.cell? ⟨w.heap.size + 1, 0, none⟩ = some (.int .i64 0) := U4.out.rs.cell 0; have x1 : w4.cell? ⟨w.heap.size + 1, 1, none⟩ = some (.int .i64 0) := U4.out.rs.cell 1; have x2 : w4.cell? ⟨w.heap.size + 1, 2, none⟩ = some (.slice none 0 0) := U4.out.rs.cell 2; have x3 : w4.cell? ⟨w.heap.size + 1, 3, none⟩ = some (.int .i64 0) := U4.out.rs.cell 3; have f0 := U4.out.rs.fr 0; have f1 := U4.out.rs.fr 1; have f2 := U4.out.rs.fr 2; have f3 := U4.out.rs.fr 3; clear b4))
    have ZC : CB ((((w4.setCell ⟨w.heap.size + 1, 0, none⟩ (.int .i64 0)).setCell ⟨w.heap.size + 1, 1, none⟩ (.int .i64 0)).setCell ⟨w.heap.size + 1, 2, none⟩ (.slice none 0 0)).setCell ⟨w.heap.size + 1, 3, none⟩ (.int .i64 0)) (w.heap.size + 1) #[.int .i64 0, .int .i64 0, .slice none 0 0, .int .i64 0] 26 := set4 U4.out.rs
    have ZB : Below w.heap.size w ((((w4.setCell ⟨w.heap.size + 1, 0, none⟩ (.int .i64 0)).setCell ⟨w.heap.size + 1, 1, none⟩ (.int .i64 0)).setCell ⟨w.heap.size + 1, 2, none⟩ (.slice none 0 0)).setCell ⟨w.heap.size + 1, 3, none⟩ (.int .i64 0)) := ((((U4.out.bl.setCell (by simp <;> omega) _).setCell (by simp <;> omega) _).setCell (by simp <;> omega) _).setCell (by simp <;> omega) _)
    have ZO : OwnLA2 ((((w4.setCell ⟨w.heap.size + 1, 0, none⟩ (.int .i64 0)).setCell ⟨w.heap.size + 1, 1, none⟩ (.int .i64 0)).setCell ⟨w.heap.size + 1, 2, none⟩ (.slice none 0 0)).setCell ⟨w.heap.size + 1, 3, none⟩ (.int .i64 0)) w.heap.size none 0 C := .inl rfl
    generalize ((((w4.setCell ⟨w.heap.size + 1, 0, none⟩ (.int .i64 0)).setCell ⟨w.heap.size + 1, 1, none⟩ (.int .i64 0)).setCell ⟨w.heap.size + 1, 2, none⟩ (.slice none 0 0)).setCell ⟨w.heap.size + 1, 3, none⟩ (.int .i64 0)) = Z at ZC ZB ZO ⊢
    have z0 : Z.cell? ⟨w.heap.size + 1, 0, none⟩ = some (.int .i64 0) := ZC.cell 0
    have z1 : Z.cell? ⟨w.heap.size + 1, 1, none⟩ = some (.int .i64 0) := ZC.cell 1
    have z2 : Z.cell? ⟨w.heap.size + 1, 2, none⟩ = some (.slice none 0 0) := ZC.cell 2
    have z3 : Z.cell? ⟨w.heap.size + 1, 3, none⟩ = some (.int .i64 0) := ZC.cell 3
    refine bodyPost_ret (v := .tuple #[.agg #[.int .i64 0, .int .i64 0, .slice none 0 0, .int .i64 0], .bool false]) (by simp [results, Try.results31, go_sem, z0, z1, z2, z3]; try rfl) rfl ?_
    exact ⟨_, _, rfl, ZO, ZB⟩
theorem tiB_no {m p off q k : Int} {n : Nat} {c : Nat → LA2} (h : woB m p n c off = false ∨ laB ⟨q, k⟩ = false) : tiB m p n c off q k = false := by
  unfold tiB; rcases h with h | h <;> simp [h]
theorem tiB_ok {m p off q k : Int} {n : Nat} {c : Nat → LA2} (h : woB m p n c off = true) (h2 : laB ⟨q, k⟩ = true) : tiB m p n c off q k = woB m p (tiN m n) (tiC m p n c q k) (tiO m p off q k) := by
  unfold tiB; simp [h, h2]
theorem ti_mul {p q : Int} (h0 : 0 ≤ p) (h1 : p ≤ 100000) (q1 : 1 ≤ q) (q2 : q ≤ 1000000) : 0 ≤ q * p ∧ q * p ≤ 100000000000 := by
  refine ⟨Int.mul_nonneg (by omega) h0, ?_⟩
  have a1 : q * p ≤ 1000000 * p := Int.mul_le_mul_of_nonneg_right q2 h0
  have a2 : 1000000 * p ≤ 1000000 * 100000 := Int.mul_le_mul_of_nonneg_left h1 (by decide)
  omega

theorem implTakeIn_any (m p : Int) (a : Addr) (n cap : Nat) (off q k : Int) (c : Nat → LA2) (w : World) (hnI : (n : Int) ≤ 1048576) (hr : LAr w (some a) n c) :
    Calls Try.prog 31 #[.agg #[.int .i64 m, .int .i64 p, .slice (some a) n cap, .int .i64 off], .int .i64 q, .int .i64 k] w (TiR m p n c off q k w) := by
  unfold TiR
  by_cases hno : woB m p n c off = false ∨ laB ⟨q, k⟩ = false
  · rw [tiB_no hno]
    exact implTakeIn_no m p a n cap off q k c _ w hnI hno hr
  have hw0 : woB m p n c off = true := by cases h : woB m p n c off; (exact absurd (Or.inl h) hno); rfl
  have hla : laB ⟨q, k⟩ = true := by cases h : laB ⟨q, k⟩; (exact absurd (Or.inr h) hno); rfl
  rw [tiB_ok hw0 hla]
  have hwp := woB_p hw0
  have hn := hwp.len300
  have hbd := hwp.bd
  have hm := hwp.met
  obtain ⟨⟨q1, q2⟩, k1, k2⟩ := laB_p hla
  simp only at q1 q2 k1 k2
  rcases (show m = 1 ∨ m = 2 ∨ m = 3 ∨ m = 4 by omega) with rfl | rfl | rfl | rfl
  · exact takeIn_1 p a n cap off q k (n + 1) (putL c n ⟨q, k⟩) off _ c w hn (by omega) (by omega) hw0 hla hr (fun W hW => takeInL_any 1 p a n cap off q k c W hn hW) rfl
  · exact takeIn_2 p a n cap off q k (n + 1) (putL c n ⟨q, k⟩) off _ c w hn (by omega) (by omega) hw0 hla hr (fun W hW => takeInL_any 2 p a n cap off q k c W hn hW) rfl
  · exact takeIn_3 p a n cap off q k 1 (fun _ => ⟨qS c n + q, kS c n + k⟩) off _ c w hn (by omega) (by omega) hw0 hla hr (fun W hW => takeInM_any 3 p (some a) n cap off q k c W hn hwp.lay hbd.2.1 hbd.2.2.2 ⟨q1, q2⟩ ⟨k1, k2⟩ hW) rfl
  · exact takeIn_4 p a n cap off q k 1 (fun _ => ⟨qS c n + q, kS c n + q * p⟩) (off + (k - q * p)) _ c w hn (by omega) (by omega) hw0 hla hr (fun W hW => takeInS_any 4 p (some a) n cap off q k (q * p) c W hn hwp.lay hbd.2.1 hbd.2.2.2 ⟨q1, q2⟩ ⟨k1, k2⟩ (hwp.std rfl).2.1 rfl (ti_mul (hwp.std rfl).1.1 (hwp.std rfl).1.2 q1 q2) hW) rfl

theorem specTakeIn_any (m p : Int) (a : Addr) (n cap : Nat) (off q k : Int) (c : Nat → LA2) (w : World) (hnI : (n : Int) ≤ 1048576) (hr : LAr w (some a) n c) :
    Calls Try.prog 30 #[.agg #[.int .i64 m, .int .i64 p, .slice (some a) n cap, .int .i64 off], .int .i64 q, .int .i64 k] w (TiR m p n c off q k w) := by
  unfold TiR
  by_cases hno : woB m p n c off = false ∨ laB ⟨q, k⟩ = false
  · rw [tiB_no hno]
    exact specTakeIn_no m p a n cap off q k c _ w hnI hno hr
  have hw0 : woB m p n c off = true := by cases h : woB m p n c off; (exact absurd (Or.inl h) hno); rfl
  have hla : laB ⟨q, k⟩ = true := by cases h : laB ⟨q, k⟩; (exact absurd (Or.inr h) hno); rfl
  rw [tiB_ok hw0 hla]
  have hwp := woB_p hw0
  have hn := hwp.len300
  have hbd := hwp.bd
  have hm := hwp.met
  obtain ⟨⟨q1, q2⟩, k1, k2⟩ := laB_p hla
  simp only at q1 q2 k1 k2
  rcases (show m = 1 ∨ m = 2 ∨ m = 3 ∨ m = 4 by omega) with rfl | rfl | rfl | rfl
  · exact specTakeIn_1 p a n cap off q k _ _ _ _ c w hn hw0 hla hr rfl rfl rfl rfl
  · exact specTakeIn_2 p a n cap off q k _ _ _ _ c w hn hw0 hla hr rfl rfl rfl rfl
  · exact specTakeIn_3 p a n cap off q k _ _ _ _ c w hn hw0 hla hr rfl rfl rfl rfl
  · exact specTakeIn_4 p a n cap off q k _ _ _ _ c w hn hw0 hla hr rfl rfl rfl rfl

end Go.Proofs.Ytdgccdlaokbnhaa
