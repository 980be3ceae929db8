/- How dear a line may be, and its state: the program's dearestOf and stateOf. -/
import Derived.Test.YtghphlnpginmhaaBp
import Derived.Deep.RegionHeld3
namespace Go.Proofs.Ytghphlnpginmhaa
open Go.ChangeShapes Go.WideShapes Go.ChangeAt Go.RowKit
set_option linter.unusedVariables false
set_option linter.unusedSimpArgs false

theorem tol_bx {w w1 : World} {bs : Array Value} {s : TypeId} (b : Below (w.alloc (.cells bs s (0, 0))).heap.size (w.alloc (.cells bs s (0, 0))) w1) : CB w1 w.heap.size bs s ∧ Below w.heap.size w w1 :=
  ⟨(CB.new bs s).below b (by simp), bel_on ((Below.refl _ _).alloc (Nat.le_refl _) _) b⟩
theorem dearestOf_any (ov pr le co D : Int) (w : World) (hc : 0 ≤ co ∧ co ≤ 100000000000) (hl : 0 ≤ le ∧ le ≤ 100000000000) (hD : dearV co le (mdV co pr 1000 1) = D) : Calls Try.prog 131 #[.agg #[.int .i64 ov, .int .i64 pr, .int .i64 le], .int .i64 co] w fun e w' => e = .returned (.int .i64 D) ∧ Below w.heap.size w w' := by
  have hm := md_abs co pr 1000 1
  have HMD : Hid (∀ W, Calls Try.prog 117 #[.int .i64 co, .int .i64 pr, .int .i64 1000, .int .i64 1] W fun e w' => e = .returned (.tuple #[.int .i64 (mdV co pr 1000 1), .bool (mdB co pr 1000 1)]) ∧ Below W.heap.size W w') := fun W => implMulDiv_any co pr 1000 1 W
  unfold dearV at hD
  obtain ⟨S, hS⟩ : ∃ D, mdV co pr 1000 1 = D := ⟨_, rfl⟩
  obtain ⟨DB, hDB⟩ : ∃ D, mdB co pr 1000 1 = D := ⟨_, rfl⟩
  rw [hS, hDB] at HMD
  rw [hS] at hm hD
  clear hS hDB
  have HDD : Hid (co + max le S = D) := hD
  clear hD
  go_enter Try.func131, Try.ntmps131
  go_wp2_with (go_at_call 117; refine (HMD.out _).mono ?_; rintro e w1 ⟨rfl, b1⟩; obtain ⟨C1, B1⟩ := tol_bx b1; have x2 := (C1.cell 2).trans rfl; have HB1 : Hid (Below w.heap.size w w1) := B1; clear b1 C1 B1)
  all_goals go_returns
  all_goals exact ⟨ret_i (by have := HDD.out; omega), HB1.out⟩
theorem st_0 {gt bl du p pr le : Int} (h : bl = 0) : stV gt bl du p pr le = 0 := if_pos h
theorem st_4 {gt bl du p pr le D : Int} (h : bl ≠ 0) (h1 : gt < bl) (hD : dearV (bl * p) le (mdV (bl * p) pr 1000 1) = D) (h2 : D < du) : stV gt bl du p pr le = 4 := by unfold stV; rw [if_neg h, if_pos h1, hD, if_pos h2]
theorem st_2 {gt bl du p pr le D : Int} (h : bl ≠ 0) (h1 : gt < bl) (hD : dearV (bl * p) le (mdV (bl * p) pr 1000 1) = D) (h2 : ¬ D < du) : stV gt bl du p pr le = 2 := by unfold stV; rw [if_neg h, if_pos h1, hD, if_neg h2]
theorem st_3 {gt bl du p pr le D : Int} (h : bl ≠ 0) (h1 : ¬ gt < bl) (hD : dearV (bl * p) le (mdV (bl * p) pr 1000 1) = D) (h2 : D < du) : stV gt bl du p pr le = 3 := by unfold stV; rw [if_neg h, if_neg h1, hD, if_pos h2]
theorem st_1 {gt bl du p pr le D : Int} (h : bl ≠ 0) (h1 : ¬ gt < bl) (hD : dearV (bl * p) le (mdV (bl * p) pr 1000 1) = D) (h2 : ¬ D < du) : stV gt bl du p pr le = 1 := by unfold stV; rw [if_neg h, if_neg h1, hD, if_neg h2]
set_option maxRecDepth 20000 in
set_option maxHeartbeats 4000000 in
theorem stateOf_any (ov pr le gt bl du s0 p : Int) (w : World) (hb : 0 ≤ bl ∧ bl ≤ 1000000) (hp : 0 ≤ p ∧ p ≤ 100000) (hl : 0 ≤ le ∧ le ≤ 100000000000) :
    Calls Try.prog 79 #[.agg #[.int .i64 ov, .int .i64 pr, .int .i64 le], .agg #[.int .i64 gt, .int .i64 bl, .int .i64 du, .int .i64 s0], .int .i64 p] w fun e w' => e = .returned (.int .i64 (stV gt bl du p pr le)) ∧ Below w.heap.size w w' := by
  have hm0 : 0 ≤ bl * p := Int.mul_nonneg (by omega) (by omega)
  have hm1 : bl * p ≤ 1000000 * 100000 := Int.mul_le_mul hb.2 hp.2 hp.1 (by omega)
  have hwm : IntKind.i64.wrap (bl * p) = bl * p := IntWalk.i64_in _ ⟨by omega, by omega⟩
  obtain ⟨D, hD⟩ : ∃ D, dearV (bl * p) le (mdV (bl * p) pr 1000 1) = D := ⟨_, rfl⟩
  have HD : Hid (dearV (bl * p) le (mdV (bl * p) pr 1000 1) = D) := hD
  have HDE : Hid (∀ W, Calls Try.prog 131 #[.agg #[.int .i64 ov, .int .i64 pr, .int .i64 le], .int .i64 (bl * p)] W fun e w' => e = .returned (.int .i64 D) ∧ Below W.heap.size W w') := fun W => dearestOf_any ov pr le (bl * p) D W ⟨hm0, by omega⟩ hl hD
  clear hD
  go_enter Try.func79, Try.ntmps79
  go_wp2
  have c0 : CB ((w.alloc (.cells #[.int .i64 ov, .int .i64 pr, .int .i64 le] 40 (0, 0))).alloc (.cells #[.int .i64 gt, .int .i64 bl, .int .i64 du, .int .i64 s0] 47 (0, 0))) w.heap.size #[.int .i64 ov, .int .i64 pr, .int .i64 le] 40 := (CB.new _ _).alloc _
  have c1 : CB ((w.alloc (.cells #[.int .i64 ov, .int .i64 pr, .int .i64 le] 40 (0, 0))).alloc (.cells #[.int .i64 gt, .int .i64 bl, .int .i64 du, .int .i64 s0] 47 (0, 0))) (w.heap.size + 1) #[.int .i64 gt, .int .i64 bl, .int .i64 du, .int .i64 s0] 47 := CB.newAt (by simp) _ _
  have hBd : Below w.heap.size w ((w.alloc (.cells #[.int .i64 ov, .int .i64 pr, .int .i64 le] 40 (0, 0))).alloc (.cells #[.int .i64 gt, .int .i64 bl, .int .i64 du, .int .i64 s0] 47 (0, 0))) := by go_grown
  generalize ((w.alloc (.cells #[.int .i64 ov, .int .i64 pr, .int .i64 le] 40 (0, 0))).alloc (.cells #[.int .i64 gt, .int .i64 bl, .int .i64 du, .int .i64 s0] 47 (0, 0))) = W at c0 c1 hBd ⊢
  have x0 := (c0.cell 0).trans rfl
  have x1 := (c0.cell 1).trans rfl
  have x2 := (c0.cell 2).trans rfl
  have y0 := (c1.cell 0).trans rfl
  have y1 := (c1.cell 1).trans rfl
  have y2 := (c1.cell 2).trans rfl
  have y3 := (c1.cell 3).trans rfl
  have hBe : Below w.heap.size w W.drew := hBd.drew
  clear c0 c1 hBd
  go_region_held3 (fun w' => (w'.cell? ⟨w.heap.size, 0, none⟩ = some (.int .i64 ov)) ∧ (w'.cell? ⟨w.heap.size, 1, none⟩ = some (.int .i64 pr)) ∧ (w'.cell? ⟨w.heap.size, 2, none⟩ = some (.int .i64 le)) ∧ (w'.cell? ⟨w.heap.size + 1, 0, none⟩ = some (.int .i64 gt)) ∧ (w'.cell? ⟨w.heap.size + 1, 1, none⟩ = some (.int .i64 bl)) ∧ (w'.cell? ⟨w.heap.size + 1, 2, none⟩ = some (.int .i64 du)) ∧ (w'.cell? ⟨w.heap.size + 1, 3, none⟩ = some (.int .i64 s0)) ∧ Below w.heap.size w w')
    (refine ⟨?_, ?_, ?_, ?_, ?_, ?_, ?_, ?_⟩ <;> first | assumption | (simp [*]; done))
    (first | (go_at_call 131; refine (HDE.out _).mono ?_; rintro e w2 ⟨rfl, b2⟩; have q0 : w2.cell? ⟨w.heap.size, 0, none⟩ = some (.int .i64 ov) := keep_cell b2 (by simp [*]); have q1 : w2.cell? ⟨w.heap.size, 1, none⟩ = some (.int .i64 pr) := keep_cell b2 (by simp [*]); have q2 : w2.cell? ⟨w.heap.size, 2, none⟩ = some (.int .i64 le) := keep_cell b2 (by simp [*]); have q3 : w2.cell? ⟨w.heap.size + 1, 0, none⟩ = some (.int .i64 gt) := keep_cell b2 (by simp [*]); have q4 : w2.cell? ⟨w.heap.size + 1, 1, none⟩ = some (.int .i64 bl) := keep_cell b2 (by simp [*]); have q5 : w2.cell? ⟨w.heap.size + 1, 2, none⟩ = some (.int .i64 du) := keep_cell b2 (by simp [*]); have q6 : w2.cell? ⟨w.heap.size + 1, 3, none⟩ = some (.int .i64 s0) := keep_cell b2 (by simp [*]); have q9 : Below w.heap.size w w2 := bel_on (by assumption) b2; clear b2))
  clear x0 x1 x2 y0 y1 y2 y3 hBe
  by_cases h0 : bl = 0
  · have e0 := eq_t h0
    have HS : Hid (0 = stV gt bl du p pr le) := hid (st_0 h0).symm
    clear h0
    go_wp2
    go_returns
    exact ⟨ret_i HS.out, q9⟩
  have e0 := eq_f h0
  by_cases h1 : gt < bl
  · by_cases h2 : D < du
    · have HS : Hid (4 = stV gt bl du p pr le) := hid (st_4 h0 h1 HD.out h2).symm
      clear h0
      go_wp2
      go_returns
      exact ⟨ret_i HS.out, q9⟩
    · have HS : Hid (2 = stV gt bl du p pr le) := hid (st_2 h0 h1 HD.out h2).symm
      clear h0
      go_wp2
      go_returns
      exact ⟨ret_i HS.out, q9⟩
  · by_cases h2 : D < du
    · have HS : Hid (3 = stV gt bl du p pr le) := hid (st_3 h0 h1 HD.out h2).symm
      clear h0
      go_wp2
      go_returns
      exact ⟨ret_i HS.out, q9⟩
    · have HS : Hid (1 = stV gt bl du p pr le) := hid (st_1 h0 h1 HD.out h2).symm
      clear h0
      go_wp2
      go_returns
      exact ⟨ret_i HS.out, q9⟩
end Go.Proofs.Ytghphlnpginmhaa
