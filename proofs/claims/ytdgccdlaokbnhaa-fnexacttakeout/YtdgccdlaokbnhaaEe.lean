/- What goes out: TakeOut of both sides in one form. -/
import Derived.Test.YtdgccdlaokbnhaaEcA
import Derived.Test.YtdgccdlaokbnhaaEcB
import Derived.Test.YtdgccdlaokbnhaaEcC
import Derived.Test.YtdgccdlaokbnhaaEcD
import Derived.Test.YtdgccdlaokbnhaaEdA
import Derived.Test.YtdgccdlaokbnhaaEdB
namespace Go.Proofs.Ytdgccdlaokbnhaa
open Go Go.ChangeShapes Go.WideShapes Go.ChangeAt Go.RowKit
set_option linter.unusedVariables false
set_option linter.unusedSimpArgs false

set_option maxRecDepth 20000 in
set_option maxHeartbeats 16000000 in
theorem implTakeOut_no (m p : Int) (a : Addr) (n cap : Nat) (off q : Int) (c C : Nat → LA2) (w : World) (hnI : (n : Int) ≤ 1048576) (hno : woB m p n c off = false ∨ inB q 1 1000000 = false ∨ qS c n < q) (hr : LAr w (some a) n c) :
    Calls Try.prog 35 #[.agg #[.int .i64 m, .int .i64 p, .slice (some a) n cap, .int .i64 off], .int .i64 q] w fun e w' => ∃ ad cap, e = .returned (.tuple #[.agg #[.int .i64 0, .int .i64 0, .slice ad 0 cap, .int .i64 0], .int .i64 0, .bool false]) ∧ OwnLA2 w' w.heap.size ad 0 C ∧ Below w.heap.size w w' := by
  have HR := hid hr
  clear hr
  cases h0 : woB m p n c off
  · have HW0 := hid h0
    clear h0 hno
    go_enter Try.func35, Try.ntmps35
    go_wp2_with (first
    | (go_at_call 18; refine (implWorth_eq _ _ _ _ _ _ c _ _ hnI ((HR.out.alloc _).alloc _) HW0.out).mono ?_; rintro e w3 ⟨rfl, b3⟩; have U3 : Hid (VB w m p (.slice (some a) n cap) off w3) := hid ((VB.start w m p (.slice (some a) n cap) off).below b3); have R3 : Hid (LAr w3 (some a) n c) := hid (((HR.out.alloc _).alloc _).below b3); have t0 : w3.cell? ⟨w.heap.size, 0, none⟩ = some (.int .i64 m) := U3.out.bx.cell 0; have t1 : w3.cell? ⟨w.heap.size, 1, none⟩ = some (.int .i64 p) := U3.out.bx.cell 1; have t2 : w3.cell? ⟨w.heap.size, 2, none⟩ = some (.slice (some a) n cap) := U3.out.bx.cell 2; have t3 : w3.cell? ⟨w.heap.size, 3, none⟩ = some (.int .i64 off) := U3.out.bx.cell 3; have x0 : w3.cell? ⟨w.heap.size + 1, 0, none⟩ = some (.int .i64 0) := U3.out.rs.cell 0; have x1 : w3.cell? ⟨w.heap.size + 1, 1, none⟩ = some (.int .i64 0) := U3.out.rs.cell 1; have x2 : w3.cell? ⟨w.heap.size + 1, 2, none⟩ = some (.slice none 0 0) := U3.out.rs.cell 2; have x3 : w3.cell? ⟨w.heap.size + 1, 3, none⟩ = some (.int .i64 0) := U3.out.rs.cell 3; have f0 := U3.out.rs.fr 0; have f1 := U3.out.rs.fr 1; have f2 := U3.out.rs.fr 2; have f3 := U3.out.rs.fr 3; clear b3)
    | (go_at_call 80; refine (isQtyA_eq _ _ _ HQ0.out).mono ?_; rintro e w2 ⟨rfl, ew⟩; replace ew := ew.symm; subst ew)
    | (go_at_call 63; refine (allOf_eq (some a) n cap c Q K _ hn HLA.out R3.out HSQ.out HSK.out).mono ?_; rintro e w4 ⟨rfl, b4⟩; clear x0 x1 x2 x3 f0 f1 f2 f3 t0 t1 t2 t3; have U4 := hid (U3.out.below b4); have x0 : w4.cell? ⟨w.heap.size + 1, 0, none⟩ = some (.int .i64 0) := U4.out.rs.cell 0; have x1 : w4.cell? ⟨w.heap.size + 1, 1, none⟩ = some (.int .i64 0) := U4.out.rs.cell 1; have x2 : w4.cell? ⟨w.heap.size + 1, 2, none⟩ = some (.slice none 0 0) := U4.out.rs.cell 2; have x3 : w4.cell? ⟨w.heap.size + 1, 3, none⟩ = some (.int .i64 0) := U4.out.rs.cell 3; have f0 := U4.out.rs.fr 0; have f1 := U4.out.rs.fr 1; have f2 := U4.out.rs.fr 2; have f3 := U4.out.rs.fr 3; clear b4))
    have ZC : CB ((((w3.setCell ⟨w.heap.size + 1, 0, none⟩ (.int .i64 0)).setCell ⟨w.heap.size + 1, 1, none⟩ (.int .i64 0)).setCell ⟨w.heap.size + 1, 2, none⟩ (.slice none 0 0)).setCell ⟨w.heap.size + 1, 3, none⟩ (.int .i64 0)) (w.heap.size + 1) #[.int .i64 0, .int .i64 0, .slice none 0 0, .int .i64 0] 26 := set4 U3.out.rs
    have ZB : Below w.heap.size w ((((w3.setCell ⟨w.heap.size + 1, 0, none⟩ (.int .i64 0)).setCell ⟨w.heap.size + 1, 1, none⟩ (.int .i64 0)).setCell ⟨w.heap.size + 1, 2, none⟩ (.slice none 0 0)).setCell ⟨w.heap.size + 1, 3, none⟩ (.int .i64 0)) := ((((U3.out.bl.setCell (by simp <;> omega) _).setCell (by simp <;> omega) _).setCell (by simp <;> omega) _).setCell (by simp <;> omega) _)
    have ZO : OwnLA2 ((((w3.setCell ⟨w.heap.size + 1, 0, none⟩ (.int .i64 0)).setCell ⟨w.heap.size + 1, 1, none⟩ (.int .i64 0)).setCell ⟨w.heap.size + 1, 2, none⟩ (.slice none 0 0)).setCell ⟨w.heap.size + 1, 3, none⟩ (.int .i64 0)) w.heap.size none 0 C := .inl rfl
    generalize ((((w3.setCell ⟨w.heap.size + 1, 0, none⟩ (.int .i64 0)).setCell ⟨w.heap.size + 1, 1, none⟩ (.int .i64 0)).setCell ⟨w.heap.size + 1, 2, none⟩ (.slice none 0 0)).setCell ⟨w.heap.size + 1, 3, none⟩ (.int .i64 0)) = Z at ZC ZB ZO ⊢
    have z0 : Z.cell? ⟨w.heap.size + 1, 0, none⟩ = some (.int .i64 0) := ZC.cell 0
    have z1 : Z.cell? ⟨w.heap.size + 1, 1, none⟩ = some (.int .i64 0) := ZC.cell 1
    have z2 : Z.cell? ⟨w.heap.size + 1, 2, none⟩ = some (.slice none 0 0) := ZC.cell 2
    have z3 : Z.cell? ⟨w.heap.size + 1, 3, none⟩ = some (.int .i64 0) := ZC.cell 3
    refine bodyPost_ret (v := .tuple #[.agg #[.int .i64 0, .int .i64 0, .slice none 0 0, .int .i64 0], .int .i64 0, .bool false]) (by simp [results, Try.results35, go_sem, z0, z1, z2, z3]; try rfl) rfl ?_
    exact ⟨_, _, rfl, ZO, ZB⟩
  have HW0 := hid h0
  have hwp := woB_p h0
  have hn := hwp.len300
  have HLA := hid hwp.lay
  have hbd := hwp.bd
  obtain ⟨Q, hQ⟩ : ∃ Q, qS c n = Q := ⟨_, rfl⟩
  obtain ⟨K, hK⟩ : ∃ K, kS c n = K := ⟨_, rfl⟩
  rw [hQ, hK] at hbd
  have HSQ := hid hQ
  have HSK := hid hK
  have hfd : ∀ W, (Instr.field 40 (.agg #[.int .i64 Q, .int .i64 K]) 0).run Try.prog W = .ok (.int .i64 Q) W := fun W => by kernel_rfl
  cases h1 : inB q 1 1000000
  · have HQ0 := hid h1
    clear h0 h1 hno hwp hQ hK hbd
    go_enter Try.func35, Try.ntmps35
    go_wp2_with (first
    | (go_at_call 18; refine (implWorth_eq _ _ _ _ _ _ c _ _ hnI ((HR.out.alloc _).alloc _) HW0.out).mono ?_; rintro e w3 ⟨rfl, b3⟩; have U3 : Hid (VB w m p (.slice (some a) n cap) off w3) := hid ((VB.start w m p (.slice (some a) n cap) off).below b3); have R3 : Hid (LAr w3 (some a) n c) := hid (((HR.out.alloc _).alloc _).below b3); have t0 : w3.cell? ⟨w.heap.size, 0, none⟩ = some (.int .i64 m) := U3.out.bx.cell 0; have t1 : w3.cell? ⟨w.heap.size, 1, none⟩ = some (.int .i64 p) := U3.out.bx.cell 1; have t2 : w3.cell? ⟨w.heap.size, 2, none⟩ = some (.slice (some a) n cap) := U3.out.bx.cell 2; have t3 : w3.cell? ⟨w.heap.size, 3, none⟩ = some (.int .i64 off) := U3.out.bx.cell 3; have x0 : w3.cell? ⟨w.heap.size + 1, 0, none⟩ = some (.int .i64 0) := U3.out.rs.cell 0; have x1 : w3.cell? ⟨w.heap.size + 1, 1, none⟩ = some (.int .i64 0) := U3.out.rs.cell 1; have x2 : w3.cell? ⟨w.heap.size + 1, 2, none⟩ = some (.slice none 0 0) := U3.out.rs.cell 2; have x3 : w3.cell? ⟨w.heap.size + 1, 3, none⟩ = some (.int .i64 0) := U3.out.rs.cell 3; have f0 := U3.out.rs.fr 0; have f1 := U3.out.rs.fr 1; have f2 := U3.out.rs.fr 2; have f3 := U3.out.rs.fr 3; clear b3)
    | (go_at_call 80; refine (isQtyA_eq _ _ _ HQ0.out).mono ?_; rintro e w2 ⟨rfl, ew⟩; replace ew := ew.symm; subst ew)
    | (go_at_call 63; refine (allOf_eq (some a) n cap c Q K _ hn HLA.out R3.out HSQ.out HSK.out).mono ?_; rintro e w4 ⟨rfl, b4⟩; clear x0 x1 x2 x3 f0 f1 f2 f3 t0 t1 t2 t3; have U4 := hid (U3.out.below b4); have x0 : w4.cell? ⟨w.heap.size + 1, 0, none⟩ = some (.int .i64 0) := U4.out.rs.cell 0; have x1 : w4.cell? ⟨w.heap.size + 1, 1, none⟩ = some (.int .i64 0) := U4.out.rs.cell 1; have x2 : w4.cell? ⟨w.heap.size + 1, 2, none⟩ = some (.slice none 0 0) := U4.out.rs.cell 2; have x3 : w4.cell? ⟨w.heap.size + 1, 3, none⟩ = some (.int .i64 0) := U4.out.rs.cell 3; have f0 := U4.out.rs.fr 0; have f1 := U4.out.rs.fr 1; have f2 := U4.out.rs.fr 2; have f3 := U4.out.rs.fr 3; clear b4))
    have ZC : CB ((((w3.setCell ⟨w.heap.size + 1, 0, none⟩ (.int .i64 0)).setCell ⟨w.heap.size + 1, 1, none⟩ (.int .i64 0)).setCell ⟨w.heap.size + 1, 2, none⟩ (.slice none 0 0)).setCell ⟨w.heap.size + 1, 3, none⟩ (.int .i64 0)) (w.heap.size + 1) #[.int .i64 0, .int .i64 0, .slice none 0 0, .int .i64 0] 26 := set4 U3.out.rs
    have ZB : Below w.heap.size w ((((w3.setCell ⟨w.heap.size + 1, 0, none⟩ (.int .i64 0)).setCell ⟨w.heap.size + 1, 1, none⟩ (.int .i64 0)).setCell ⟨w.heap.size + 1, 2, none⟩ (.slice none 0 0)).setCell ⟨w.heap.size + 1, 3, none⟩ (.int .i64 0)) := ((((U3.out.bl.setCell (by simp <;> omega) _).setCell (by simp <;> omega) _).setCell (by simp <;> omega) _).setCell (by simp <;> omega) _)
    have ZO : OwnLA2 ((((w3.setCell ⟨w.heap.size + 1, 0, none⟩ (.int .i64 0)).setCell ⟨w.heap.size + 1, 1, none⟩ (.int .i64 0)).setCell ⟨w.heap.size + 1, 2, none⟩ (.slice none 0 0)).setCell ⟨w.heap.size + 1, 3, none⟩ (.int .i64 0)) w.heap.size none 0 C := .inl rfl
    generalize ((((w3.setCell ⟨w.heap.size + 1, 0, none⟩ (.int .i64 0)).setCell ⟨w.heap.size + 1, 1, none⟩ (.int .i64 0)).setCell ⟨w.heap.size + 1, 2, none⟩ (.slice none 0 0)).setCell ⟨w.heap.size + 1, 3, none⟩ (.int .i64 0)) = Z at ZC ZB ZO ⊢
    have z0 : Z.cell? ⟨w.heap.size + 1, 0, none⟩ = some (.int .i64 0) := ZC.cell 0
    have z1 : Z.cell? ⟨w.heap.size + 1, 1, none⟩ = some (.int .i64 0) := ZC.cell 1
    have z2 : Z.cell? ⟨w.heap.size + 1, 2, none⟩ = some (.slice none 0 0) := ZC.cell 2
    have z3 : Z.cell? ⟨w.heap.size + 1, 3, none⟩ = some (.int .i64 0) := ZC.cell 3
    refine bodyPost_ret (v := .tuple #[.agg #[.int .i64 0, .int .i64 0, .slice none 0 0, .int .i64 0], .int .i64 0, .bool false]) (by simp [results, Try.results35, go_sem, z0, z1, z2, z3]; try rfl) rfl ?_
    exact ⟨_, _, rfl, ZO, ZB⟩
  have hlt : Q < q := by
    rcases hno with h | h | h
    · rw [h0] at h; cases h
    · rw [h1] at h; cases h
    · omega
  have HQ0 := hid h1
  clear h0 h1 hno hwp hQ hK hbd
  go_enter Try.func35, Try.ntmps35
  go_wp2_with (first
    | (go_at_call 18; refine (implWorth_eq _ _ _ _ _ _ c _ _ hnI ((HR.out.alloc _).alloc _) HW0.out).mono ?_; rintro e w3 ⟨rfl, b3⟩; have U3 : Hid (VB w m p (.slice (some a) n cap) off w3) := hid ((VB.start w m p (.slice (some a) n cap) off).below b3); have R3 : Hid (LAr w3 (some a) n c) := hid (((HR.out.alloc _).alloc _).below b3); have t0 : w3.cell? ⟨w.heap.size, 0, none⟩ = some (.int .i64 m) := U3.out.bx.cell 0; have t1 : w3.cell? ⟨w.heap.size, 1, none⟩ = some (.int .i64 p) := U3.out.bx.cell 1; have t2 : w3.cell? ⟨w.heap.size, 2, none⟩ = some (.slice (some a) n cap) := U3.out.bx.cell 2; have t3 : w3.cell? ⟨w.heap.size, 3, none⟩ = some (.int .i64 off) := U3.out.bx.cell 3; have x0 : w3.cell? ⟨w.heap.size + 1, 0, none⟩ = some (.int .i64 0) := U3.out.rs.cell 0; have x1 : w3.cell? ⟨w.heap.size + 1, 1, none⟩ = some (.int .i64 0) := U3.out.rs.cell 1; have x2 : w3.cell? ⟨w.heap.size + 1, 2, none⟩ = some (.slice none 0 0) := U3.out.rs.cell 2; have x3 : w3.cell? ⟨w.heap.size + 1, 3, none⟩ = some (.int .i64 0) := U3.out.rs.cell 3; have f0 := U3.out.rs.fr 0; have f1 := U3.out.rs.fr 1; have f2 := U3.out.rs.fr 2; have f3 := U3.out.rs.fr 3; clear b3)
    | (go_at_call 80; refine (isQtyA_eq _ _ _ HQ0.out).mono ?_; rintro e w2 ⟨rfl, ew⟩; replace ew := ew.symm; subst ew)
    | (go_at_call 63; refine (allOf_eq (some a) n cap c Q K _ hn HLA.out R3.out HSQ.out HSK.out).mono ?_; rintro e w4 ⟨rfl, b4⟩; clear x0 x1 x2 x3 f0 f1 f2 f3 t0 t1 t2 t3; have U4 := hid (U3.out.below b4); have x0 : w4.cell? ⟨w.heap.size + 1, 0, none⟩ = some (.int .i64 0) := U4.out.rs.cell 0; have x1 : w4.cell? ⟨w.heap.size + 1, 1, none⟩ = some (.int .i64 0) := U4.out.rs.cell 1; have x2 : w4.cell? ⟨w.heap.size + 1, 2, none⟩ = some (.slice none 0 0) := U4.out.rs.cell 2; have x3 : w4.cell? ⟨w.heap.size + 1, 3, none⟩ = some (.int .i64 0) := U4.out.rs.cell 3; have f0 := U4.out.rs.fr 0; have f1 := U4.out.rs.fr 1; have f2 := U4.out.rs.fr 2; have f3 := U4.out.rs.fr 3; clear b4))
  have ZC : CB ((((w4.setCell ⟨w.heap.size + 1, 0, none⟩ (.int .i64 0)).setCell ⟨w.heap.size + 1, 1, none⟩ (.int .i64 0)).setCell ⟨w.heap.size + 1, 2, none⟩ (.slice none 0 0)).setCell ⟨w.heap.size + 1, 3, none⟩ (.int .i64 0)) (w.heap.size + 1) #[.int .i64 0, .int .i64 0, .slice none 0 0, .int .i64 0] 26 := set4 U4.out.rs
  have ZB : Below w.heap.size w ((((w4.setCell ⟨w.heap.size + 1, 0, none⟩ (.int .i64 0)).setCell ⟨w.heap.size + 1, 1, none⟩ (.int .i64 0)).setCell ⟨w.heap.size + 1, 2, none⟩ (.slice none 0 0)).setCell ⟨w.heap.size + 1, 3, none⟩ (.int .i64 0)) := ((((U4.out.bl.setCell (by simp <;> omega) _).setCell (by simp <;> omega) _).setCell (by simp <;> omega) _).setCell (by simp <;> omega) _)
  have ZO : OwnLA2 ((((w4.setCell ⟨w.heap.size + 1, 0, none⟩ (.int .i64 0)).setCell ⟨w.heap.size + 1, 1, none⟩ (.int .i64 0)).setCell ⟨w.heap.size + 1, 2, none⟩ (.slice none 0 0)).setCell ⟨w.heap.size + 1, 3, none⟩ (.int .i64 0)) w.heap.size none 0 C := .inl rfl
  generalize ((((w4.setCell ⟨w.heap.size + 1, 0, none⟩ (.int .i64 0)).setCell ⟨w.heap.size + 1, 1, none⟩ (.int .i64 0)).setCell ⟨w.heap.size + 1, 2, none⟩ (.slice none 0 0)).setCell ⟨w.heap.size + 1, 3, none⟩ (.int .i64 0)) = Z at ZC ZB ZO ⊢
  have z0 : Z.cell? ⟨w.heap.size + 1, 0, none⟩ = some (.int .i64 0) := ZC.cell 0
  have z1 : Z.cell? ⟨w.heap.size + 1, 1, none⟩ = some (.int .i64 0) := ZC.cell 1
  have z2 : Z.cell? ⟨w.heap.size + 1, 2, none⟩ = some (.slice none 0 0) := ZC.cell 2
  have z3 : Z.cell? ⟨w.heap.size + 1, 3, none⟩ = some (.int .i64 0) := ZC.cell 3
  refine bodyPost_ret (v := .tuple #[.agg #[.int .i64 0, .int .i64 0, .slice none 0 0, .int .i64 0], .int .i64 0, .bool false]) (by simp [results, Try.results35, go_sem, z0, z1, z2, z3]; try rfl) rfl ?_
  exact ⟨_, _, rfl, ZO, ZB⟩

set_option maxRecDepth 20000 in
set_option maxHeartbeats 16000000 in
theorem specTakeOut_no (m p : Int) (a : Addr) (n cap : Nat) (off q : Int) (c C : Nat → LA2) (w : World) (hnI : (n : Int) ≤ 1048576) (hno : woB m p n c off = false ∨ inB q 1 1000000 = false ∨ qS c n < q) (hr : LAr w (some a) n c) :
    Calls Try.prog 34 #[.agg #[.int .i64 m, .int .i64 p, .slice (some a) n cap, .int .i64 off], .int .i64 q] w fun e w' => ∃ ad cap, e = .returned (.tuple #[.agg #[.int .i64 0, .int .i64 0, .slice ad 0 cap, .int .i64 0], .int .i64 0, .bool false]) ∧ OwnLA2 w' w.heap.size ad 0 C ∧ Below w.heap.size w w' := by
  have HR := hid hr
  clear hr
  cases h0 : woB m p n c off
  · have HW0 := hid h0
    clear h0 hno
    go_enter Try.func34, Try.ntmps34
    go_wp2_with (first
    | (go_at_call 20; refine (specWorth_eq _ _ _ _ _ _ c _ _ hnI ((HR.out.alloc _).alloc _) HW0.out).mono ?_; rintro e w3 ⟨rfl, b3⟩; have U3 : Hid (VB w m p (.slice (some a) n cap) off w3) := hid ((VB.start w m p (.slice (some a) n cap) off).below b3); have R3 : Hid (LAr w3 (some a) n c) := hid (((HR.out.alloc _).alloc _).below b3); have t0 : w3.cell? ⟨w.heap.size, 0, none⟩ = some (.int .i64 m) := U3.out.bx.cell 0; have t1 : w3.cell? ⟨w.heap.size, 1, none⟩ = some (.int .i64 p) := U3.out.bx.cell 1; have t2 : w3.cell? ⟨w.heap.size, 2, none⟩ = some (.slice (some a) n cap) := U3.out.bx.cell 2; have t3 : w3.cell? ⟨w.heap.size, 3, none⟩ = some (.int .i64 off) := U3.out.bx.cell 3; have x0 : w3.cell? ⟨w.heap.size + 1, 0, none⟩ = some (.int .i64 0) := U3.out.rs.cell 0; have x1 : w3.cell? ⟨w.heap.size + 1, 1, none⟩ = some (.int .i64 0) := U3.out.rs.cell 1; have x2 : w3.cell? ⟨w.heap.size + 1, 2, none⟩ = some (.slice none 0 0) := U3.out.rs.cell 2; have x3 : w3.cell? ⟨w.heap.size + 1, 3, none⟩ = some (.int .i64 0) := U3.out.rs.cell 3; have f0 := U3.out.rs.fr 0; have f1 := U3.out.rs.fr 1; have f2 := U3.out.rs.fr 2; have f3 := U3.out.rs.fr 3; clear b3)
    | (go_at_call 60; refine (l1In_eq _ _ _ _ _ HQ0.out).mono ?_; rintro e w1 ⟨rfl, ew⟩; replace ew := ew.symm; subst ew)
    | (go_at_call 70; refine (specSums_eq (some a) n cap c Q K _ (by omega) HLA.out R3.out HSQ.out HSK.out).mono ?_; rintro e w4 ⟨rfl, ew⟩; replace ew := ew.symm; subst ew))
    have ZC : CB ((((w3.setCell ⟨w.heap.size + 1, 0, none⟩ (.int .i64 0)).setCell ⟨w.heap.size + 1, 1, none⟩ (.int .i64 0)).setCell ⟨w.heap.size + 1, 2, none⟩ (.slice none 0 0)).setCell ⟨w.heap.size + 1, 3, none⟩ (.int .i64 0)) (w.heap.size + 1) #[.int .i64 0, .int .i64 0, .slice none 0 0, .int .i64 0] 26 := set4 U3.out.rs
    have ZB : Below w.heap.size w ((((w3.setCell ⟨w.heap.size + 1, 0, none⟩ (.int .i64 0)).setCell ⟨w.heap.size + 1, 1, none⟩ (.int .i64 0)).setCell ⟨w.heap.size + 1, 2, none⟩ (.slice none 0 0)).setCell ⟨w.heap.size + 1, 3, none⟩ (.int .i64 0)) := ((((U3.out.bl.setCell (by simp <;> omega) _).setCell (by simp <;> omega) _).setCell (by simp <;> omega) _).setCell (by simp <;> omega) _)
    have ZO : OwnLA2 ((((w3.setCell ⟨w.heap.size + 1, 0, none⟩ (.int .i64 0)).setCell ⟨w.heap.size + 1, 1, none⟩ (.int .i64 0)).setCell ⟨w.heap.size + 1, 2, none⟩ (.slice none 0 0)).setCell ⟨w.heap.size + 1, 3, none⟩ (.int .i64 0)) w.heap.size none 0 C := .inl rfl
    generalize ((((w3.setCell ⟨w.heap.size + 1, 0, none⟩ (.int .i64 0)).setCell ⟨w.heap.size + 1, 1, none⟩ (.int .i64 0)).setCell ⟨w.heap.size + 1, 2, none⟩ (.slice none 0 0)).setCell ⟨w.heap.size + 1, 3, none⟩ (.int .i64 0)) = Z at ZC ZB ZO ⊢
    have z0 : Z.cell? ⟨w.heap.size + 1, 0, none⟩ = some (.int .i64 0) := ZC.cell 0
    have z1 : Z.cell? ⟨w.heap.size + 1, 1, none⟩ = some (.int .i64 0) := ZC.cell 1
    have z2 : Z.cell? ⟨w.heap.size + 1, 2, none⟩ = some (.slice none 0 0) := ZC.cell 2
    have z3 : Z.cell? ⟨w.heap.size + 1, 3, none⟩ = some (.int .i64 0) := ZC.cell 3
    refine bodyPost_ret (v := .tuple #[.agg #[.int .i64 0, .int .i64 0, .slice none 0 0, .int .i64 0], .int .i64 0, .bool false]) (by simp [results, Try.results34, go_sem, z0, z1, z2, z3]; try rfl) rfl ?_
    exact ⟨_, _, rfl, ZO, ZB⟩
  have HW0 := hid h0
  have hwp := woB_p h0
  have hn := hwp.len300
  have HLA := hid hwp.lay
  have hbd := hwp.bd
  obtain ⟨Q, hQ⟩ : ∃ Q, qS c n = Q := ⟨_, rfl⟩
  obtain ⟨K, hK⟩ : ∃ K, kS c n = K := ⟨_, rfl⟩
  rw [hQ, hK] at hbd
  have HSQ := hid hQ
  have HSK := hid hK
  have hfd : ∀ W, (Instr.field 40 (.agg #[.int .i64 Q, .int .i64 K]) 0).run Try.prog W = .ok (.int .i64 Q) W := fun W => by kernel_rfl
  cases h1 : inB q 1 1000000
  · have HQ0 := hid h1
    clear h0 h1 hno hwp hQ hK hbd
    go_enter Try.func34, Try.ntmps34
    go_wp2_with (first
    | (go_at_call 20; refine (specWorth_eq _ _ _ _ _ _ c _ _ hnI ((HR.out.alloc _).alloc _) HW0.out).mono ?_; rintro e w3 ⟨rfl, b3⟩; have U3 : Hid (VB w m p (.slice (some a) n cap) off w3) := hid ((VB.start w m p (.slice (some a) n cap) off).below b3); have R3 : Hid (LAr w3 (some a) n c) := hid (((HR.out.alloc _).alloc _).below b3); have t0 : w3.cell? ⟨w.heap.size, 0, none⟩ = some (.int .i64 m) := U3.out.bx.cell 0; have t1 : w3.cell? ⟨w.heap.size, 1, none⟩ = some (.int .i64 p) := U3.out.bx.cell 1; have t2 : w3.cell? ⟨w.heap.size, 2, none⟩ = some (.slice (some a) n cap) := U3.out.bx.cell 2; have t3 : w3.cell? ⟨w.heap.size, 3, none⟩ = some (.int .i64 off) := U3.out.bx.cell 3; have x0 : w3.cell? ⟨w.heap.size + 1, 0, none⟩ = some (.int .i64 0) := U3.out.rs.cell 0; have x1 : w3.cell? ⟨w.heap.size + 1, 1, none⟩ = some (.int .i64 0) := U3.out.rs.cell 1; have x2 : w3.cell? ⟨w.heap.size + 1, 2, none⟩ = some (.slice none 0 0) := U3.out.rs.cell 2; have x3 : w3.cell? ⟨w.heap.size + 1, 3, none⟩ = some (.int .i64 0) := U3.out.rs.cell 3; have f0 := U3.out.rs.fr 0; have f1 := U3.out.rs.fr 1; have f2 := U3.out.rs.fr 2; have f3 := U3.out.rs.fr 3; clear b3)
    | (go_at_call 60; refine (l1In_eq _ _ _ _ _ HQ0.out).mono ?_; rintro e w1 ⟨rfl, ew⟩; replace ew := ew.symm; subst ew)
    | (go_at_call 70; refine (specSums_eq (some a) n cap c Q K _ (by omega) HLA.out R3.out HSQ.out HSK.out).mono ?_; rintro e w4 ⟨rfl, ew⟩; replace ew := ew.symm; subst ew))
    have ZC : CB ((((w3.setCell ⟨w.heap.size + 1, 0, none⟩ (.int .i64 0)).setCell ⟨w.heap.size + 1, 1, none⟩ (.int .i64 0)).setCell ⟨w.heap.size + 1, 2, none⟩ (.slice none 0 0)).setCell ⟨w.heap.size + 1, 3, none⟩ (.int .i64 0)) (w.heap.size + 1) #[.int .i64 0, .int .i64 0, .slice none 0 0, .int .i64 0] 26 := set4 U3.out.rs
    have ZB : Below w.heap.size w ((((w3.setCell ⟨w.heap.size + 1, 0, none⟩ (.int .i64 0)).setCell ⟨w.heap.size + 1, 1, none⟩ (.int .i64 0)).setCell ⟨w.heap.size + 1, 2, none⟩ (.slice none 0 0)).setCell ⟨w.heap.size + 1, 3, none⟩ (.int .i64 0)) := ((((U3.out.bl.setCell (by simp <;> omega) _).setCell (by simp <;> omega) _).setCell (by simp <;> omega) _).setCell (by simp <;> omega) _)
    have ZO : OwnLA2 ((((w3.setCell ⟨w.heap.size + 1, 0, none⟩ (.int .i64 0)).setCell ⟨w.heap.size + 1, 1, none⟩ (.int .i64 0)).setCell ⟨w.heap.size + 1, 2, none⟩ (.slice none 0 0)).setCell ⟨w.heap.size + 1, 3, none⟩ (.int .i64 0)) w.heap.size none 0 C := .inl rfl
    generalize ((((w3.setCell ⟨w.heap.size + 1, 0, none⟩ (.int .i64 0)).setCell ⟨w.heap.size + 1, 1, none⟩ (.int .i64 0)).setCell ⟨w.heap.size + 1, 2, none⟩ (.slice none 0 0)).setCell ⟨w.heap.size + 1, 3, none⟩ (.int .i64 0)) = Z at ZC ZB ZO ⊢
    have z0 : Z.cell? ⟨w.heap.size + 1, 0, none⟩ = some (.int .i64 0) := ZC.cell 0
    have z1 : Z.cell? ⟨w.heap.size + 1, 1, none⟩ = some (.int .i64 0) := ZC.cell 1
    have z2 : Z.cell? ⟨w.heap.size + 1, 2, none⟩ = some (.slice none 0 0) := ZC.cell 2
    have z3 : Z.cell? ⟨w.heap.size + 1, 3, none⟩ = some (.int .i64 0) := ZC.cell 3
    refine bodyPost_ret (v := .tuple #[.agg #[.int .i64 0, .int .i64 0, .slice none 0 0, .int .i64 0], .int .i64 0, .bool false]) (by simp [results, Try.results34, go_sem, z0, z1, z2, z3]; try rfl) rfl ?_
    exact ⟨_, _, rfl, ZO, ZB⟩
  have hlt : Q < q := by
    rcases hno with h | h | h
    · rw [h0] at h; cases h
    · rw [h1] at h; cases h
    · omega
  have HQ0 := hid h1
  clear h0 h1 hno hwp hQ hK hbd
  go_enter Try.func34, Try.ntmps34
  go_wp2_with (first
    | (go_at_call 20; refine (specWorth_eq _ _ _ _ _ _ c _ _ hnI ((HR.out.alloc _).alloc _) HW0.out).mono ?_; rintro e w3 ⟨rfl, b3⟩; have U3 : Hid (VB w m p (.slice (some a) n cap) off w3) := hid ((VB.start w m p (.slice (some a) n cap) off).below b3); have R3 : Hid (LAr w3 (some a) n c) := hid (((HR.out.alloc _).alloc _).below b3); have t0 : w3.cell? ⟨w.heap.size, 0, none⟩ = some (.int .i64 m) := U3.out.bx.cell 0; have t1 : w3.cell? ⟨w.heap.size, 1, none⟩ = some (.int .i64 p) := U3.out.bx.cell 1; have t2 : w3.cell? ⟨w.heap.size, 2, none⟩ = some (.slice (some a) n cap) := U3.out.bx.cell 2; have t3 : w3.cell? ⟨w.heap.size, 3, none⟩ = some (.int .i64 off) := U3.out.bx.cell 3; have x0 : w3.cell? ⟨w.heap.size + 1, 0, none⟩ = some (.int .i64 0) := U3.out.rs.cell 0; have x1 : w3.cell? ⟨w.heap.size + 1, 1, none⟩ = some (.int .i64 0) := U3.out.rs.cell 1; have x2 : w3.cell? ⟨w.heap.size + 1, 2, none⟩ = some (.slice none 0 0) := U3.out.rs.cell 2; have x3 : w3.cell? ⟨w.heap.size + 1, 3, none⟩ = some (.int .i64 0) := U3.out.rs.cell 3; have f0 := U3.out.rs.fr 0; have f1 := U3.out.rs.fr 1; have f2 := U3.out.rs.fr 2; have f3 := U3.out.rs.fr 3; clear b3)
    | (go_at_call 60; refine (l1In_eq _ _ _ _ _ HQ0.out).mono ?_; rintro e w1 ⟨rfl, ew⟩; replace ew := ew.symm; subst ew)
    | (go_at_call 70; refine (specSums_eq (some a) n cap c Q K _ (by omega) HLA.out R3.out HSQ.out HSK.out).mono ?_; rintro e w4 ⟨rfl, ew⟩; replace ew := ew.symm; subst ew))
  have ZC : CB ((((w3.setCell ⟨w.heap.size + 1, 0, none⟩ (.int .i64 0)).setCell ⟨w.heap.size + 1, 1, none⟩ (.int .i64 0)).setCell ⟨w.heap.size + 1, 2, none⟩ (.slice none 0 0)).setCell ⟨w.heap.size + 1, 3, none⟩ (.int .i64 0)) (w.heap.size + 1) #[.int .i64 0, .int .i64 0, .slice none 0 0, .int .i64 0] 26 := set4 U3.out.rs
  have ZB : Below w.heap.size w ((((w3.setCell ⟨w.heap.size + 1, 0, none⟩ (.int .i64 0)).setCell ⟨w.heap.size + 1, 1, none⟩ (.int .i64 0)).setCell ⟨w.heap.size + 1, 2, none⟩ (.slice none 0 0)).setCell ⟨w.heap.size + 1, 3, none⟩ (.int .i64 0)) := ((((U3.out.bl.setCell (by simp <;> omega) _).setCell (by simp <;> omega) _).setCell (by simp <;> omega) _).setCell (by simp <;> omega) _)
  have ZO : OwnLA2 ((((w3.setCell ⟨w.heap.size + 1, 0, none⟩ (.int .i64 0)).setCell ⟨w.heap.size + 1, 1, none⟩ (.int .i64 0)).setCell ⟨w.heap.size + 1, 2, none⟩ (.slice none 0 0)).setCell ⟨w.heap.size + 1, 3, none⟩ (.int .i64 0)) w.heap.size none 0 C := .inl rfl
  generalize ((((w3.setCell ⟨w.heap.size + 1, 0, none⟩ (.int .i64 0)).setCell ⟨w.heap.size + 1, 1, none⟩ (.int .i64 0)).setCell ⟨w.heap.size + 1, 2, none⟩ (.slice none 0 0)).setCell ⟨w.heap.size + 1, 3, none⟩ (.int .i64 0)) = Z at ZC ZB ZO ⊢
  have z0 : Z.cell? ⟨w.heap.size + 1, 0, none⟩ = some (.int .i64 0) := ZC.cell 0
  have z1 : Z.cell? ⟨w.heap.size + 1, 1, none⟩ = some (.int .i64 0) := ZC.cell 1
  have z2 : Z.cell? ⟨w.heap.size + 1, 2, none⟩ = some (.slice none 0 0) := ZC.cell 2
  have z3 : Z.cell? ⟨w.heap.size + 1, 3, none⟩ = some (.int .i64 0) := ZC.cell 3
  refine bodyPost_ret (v := .tuple #[.agg #[.int .i64 0, .int .i64 0, .slice none 0 0, .int .i64 0], .int .i64 0, .bool false]) (by simp [results, Try.results34, go_sem, z0, z1, z2, z3]; try rfl) rfl ?_
  exact ⟨_, _, rfl, ZO, ZB⟩

/-- What TakeOut answers. -/
def ToR (m p : Int) (n : Nat) (c : Nat → LA2) (off q : Int) (w : World) (e : Ending) (w' : World) : Prop :=
  ∃ ad cap, e = .returned (.tuple #[.agg #[.int .i64 (zI (toB m p n c off q) m), .int .i64 (zI (toB m p n c off q) p), .slice ad (zN (toB m p n c off q) (toS m n c q).n) cap, .int .i64 (zI (toB m p n c off q) off)], .int .i64 (zI (toB m p n c off q) (toS m n c q).cost), .bool (toB m p n c off q)]) ∧ OwnLA2 w' w.heap.size ad (zN (toB m p n c off q) (toS m n c q).n) (toS m n c q).c ∧ Below w.heap.size w w'
theorem toB_no {m p off q : Int} {n : Nat} {c : Nat → LA2} (h : woB m p n c off = false ∨ inB q 1 1000000 = false ∨ qS c n < q) : toB m p n c off q = false := by
  unfold toB; rcases h with h | h | h
  · simp [h]
  · simp [h]
  · rw [decide_eq_false (show ¬ q ≤ qS c n by omega)]; simp
theorem toB_ok {m p off q : Int} {n : Nat} {c : Nat → LA2} (h : woB m p n c off = true) (h2 : inB q 1 1000000 = true) (h3 : q ≤ qS c n) : toB m p n c off q = true := by
  unfold toB; simp [h, h2, h3]
theorem toB_cases {m p off q : Int} {n : Nat} {c : Nat → LA2} (h : ¬ (woB m p n c off = false ∨ inB q 1 1000000 = false ∨ qS c n < q)) : woB m p n c off = true ∧ inB q 1 1000000 = true ∧ q ≤ qS c n := by
  refine ⟨?_, ?_, ?_⟩
  · cases g : woB m p n c off; (exact absurd (Or.inl g) h); rfl
  · cases g : inB q 1 1000000; (exact absurd (Or.inr (Or.inl g)) h); rfl
  · rcases Int.lt_or_le (qS c n) q with g | g
    · exact absurd (Or.inr (Or.inr g)) h
    · exact g
theorem zI_t (x : Int) : zI true x = x := rfl
theorem zN_t (x : Nat) : zN true x = x := rfl
theorem implTakeOut_any (m p : Int) (a : Addr) (n cap : Nat) (off q : Int) (c : Nat → LA2) (w : World) (hnI : (n : Int) ≤ 1048576) (hr : LAr w (some a) n c) :
    Calls Try.prog 35 #[.agg #[.int .i64 m, .int .i64 p, .slice (some a) n cap, .int .i64 off], .int .i64 q] w (ToR m p n c off q w) := by
  unfold ToR
  by_cases hno : woB m p n c off = false ∨ inB q 1 1000000 = false ∨ qS c n < q
  · rw [toB_no hno]
    exact implTakeOut_no m p a n cap off q c _ w hnI hno hr
  obtain ⟨h1, h2, h3⟩ := toB_cases hno
  rw [toB_ok h1 h2 h3]
  simp only [zI_t, zN_t]
  have hm := (woB_p h1).met
  have hx : ∀ t, ∀ w, (nilAhead 275 t (.agg #[]) "loop.example/g00040/impl.nextOut").run Try.prog w = (nilAhead 275 t (.agg #[]) "loop.example/g00040/impl.nextOut").run Try.prog w := fun _ _ => rfl
  rcases (show m = 1 ∨ m = 2 ∨ m = 3 ∨ m = 4 by omega) with rfl | rfl | rfl | rfl
  · exact implTakeOut_1 1 p a n cap off q c _ w h1 h2 h3 hr (fun ad k W => methodOf_1 p ad n k off W) (fun w => by kernel_rfl) (fun w => by kernel_rfl) (fun ad n1 k W _ _ => nextOut_1 ad n1 k W) rfl
  · exact implTakeOut_2 2 p a n cap off q c _ w h1 h2 h3 hr (fun ad k W => methodOf_2 p ad n k off W) (fun w => by kernel_rfl) (fun w => by kernel_rfl) (fun ad n1 k W g1 g2 => nextOut_2 ad n1 k W g1 g2) rfl
  · exact implTakeOut_3 3 p a n cap off q c _ w h1 h2 h3 hr (fun ad k W => methodOf_3 p ad n k off W) (fun w => by kernel_rfl) (fun w => by kernel_rfl) (fun ad n1 k W _ _ => nextOut_3 ad n1 k W) rfl
  · exact implTakeOut_4 4 p a n cap off q c _ w h1 h2 h3 hr (fun ad k W => methodOf_4 p ad n k off W) (fun w => by kernel_rfl) (fun w => by kernel_rfl) (fun ad n1 k W _ _ => nextOut_3 ad n1 k W) rfl
theorem specTakeOut_any (m p : Int) (a : Addr) (n cap : Nat) (off q : Int) (c : Nat → LA2) (w : World) (hnI : (n : Int) ≤ 1048576) (hr : LAr w (some a) n c) :
    Calls Try.prog 34 #[.agg #[.int .i64 m, .int .i64 p, .slice (some a) n cap, .int .i64 off], .int .i64 q] w (ToR m p n c off q w) := by
  unfold ToR
  by_cases hno : woB m p n c off = false ∨ inB q 1 1000000 = false ∨ qS c n < q
  · rw [toB_no hno]
    exact specTakeOut_no m p a n cap off q c _ w hnI hno hr
  obtain ⟨h1, h2, h3⟩ := toB_cases hno
  rw [toB_ok h1 h2 h3]
  simp only [zI_t, zN_t]
  by_cases hm : m = 2
  · exact specTakeOut_A m p a n cap off q c _ w h1 h2 h3 hr rfl hm
  · exact specTakeOut_B m p a n cap off q c _ w h1 h2 h3 hr rfl hm
end Go.Proofs.Ytdgccdlaokbnhaa
