/- cmp.Compare, and the comparison of placed items by their days. -/
import Derived.Test.YtnglofgcckdbmaaNm
import Derived.Test.YtnglofgcckdbmaaSm
import Derived.Test.YtnglofgcckdbmaaRr
import Derived.Deep.RegionHeld3
import Derived.Deep.QuietTactic
namespace Go.Proofs.Ytnglofgcckdbmaa
open Go Go.ChangeShapes Go.WideShapes Go.ChangeAt Go.RowKit
set_option linter.unusedVariables false
set_option linter.unusedSimpArgs false

theorem isNaN_any (x : Int) (w : World) : Calls Try.prog 140 #[.int .i64 x] w fun e w' => e = .returned (.bool false) ∧ w' = w := by
  go_enter Try.func140, Try.ntmps140
  go_wp2
  all_goals go_returns
  all_goals exact ⟨ret_bool (by simp), rfl⟩

/-- What cmp.Compare tells. -/
def cm (a b : Int) : Int := if a < b then -1 else if b < a then 1 else 0
theorem cm_l {a b : Int} (h : a < b) : cm a b = -1 := if_pos h
theorem cm_g {a b : Int} (h : b < a) : cm a b = 1 := by unfold cm; rw [if_neg (by omega), if_pos h]
theorem cm_e (a : Int) : cm a a = 0 := by unfold cm; rw [if_neg (by omega), if_neg (by omega)]

theorem compare_any (a b : Int) (w : World) : Calls Try.prog 123 #[.int .i64 a, .int .i64 b] w fun e w' => e = .returned (.int .i64 (cm a b)) ∧ w' = w := by
  by_cases h1 : a < b
  · rw [cm_l h1]
    go_enter Try.func123, Try.ntmps123
    go_wp2_with (go_at_call 140; refine (isNaN_any _ _).mono ?_; rintro e w1 ⟨rfl, rfl⟩)
    all_goals go_returns
    all_goals exact ⟨rfl, rfl⟩
  · by_cases h2 : b < a
    · rw [cm_g h2]
      go_enter Try.func123, Try.ntmps123
      go_wp2_with (go_at_call 140; refine (isNaN_any _ _).mono ?_; rintro e w1 ⟨rfl, rfl⟩)
      all_goals go_returns
      all_goals exact ⟨rfl, rfl⟩
    · obtain rfl : a = b := by omega
      rw [cm_e]
      go_enter Try.func123, Try.ntmps123
      go_wp2_with (go_at_call 140; refine (isNaN_any _ _).mono ?_; rintro e w1 ⟨rfl, rfl⟩)
      all_goals go_returns
      all_goals exact ⟨rfl, rfl⟩

/-- What cmp.Or tells of two. -/
theorem pday_any (d a p : Int) (w : World) : Calls Try.prog 110 #[.agg #[.int .i64 d, .int .i64 a, .int .i64 p]] w fun e w' => e = .returned (.int .i64 d) ∧ Below w.heap.size w w' := by
  go_enter Try.func110, Try.ntmps110
  go_wp2
  go_returns
  refine ⟨?_, by go_grown⟩
  first | rfl | (simp [go_sem]; done)
set_option maxRecDepth 20000 in
set_option maxHeartbeats 4000000 in
theorem byDay_any (cb : Nat) (d a p d2 a2 p2 : Int) (w : World) (hc : w.cell? ⟨cb, 0, none⟩ = some (.func (.func 110) #[] #[])) :
    Calls Try.prog 136 #[.agg #[.int .i64 d, .int .i64 a, .int .i64 p], .agg #[.int .i64 d2, .int .i64 a2, .int .i64 p2], .pointer (some ⟨cb, 0, none⟩)] w fun e w' => e = .returned (.int .i64 (cm d d2)) ∧ Below w.heap.size w w' := by
  have hcb : cb < w.heap.size := World.block_lt_of_cell? w ⟨cb, 0, none⟩ hc
  have HS0 : Hid (((w.alloc (.cells #[.int .i64 d, .int .i64 a, .int .i64 p] 112 (0, 0))).alloc (.cells #[.int .i64 d2, .int .i64 a2, .int .i64 p2] 112 (0, 0))).drew.cell? ⟨cb, 0, none⟩ = some (.func (.func 110) #[] #[]) ∧ ((w.alloc (.cells #[.int .i64 d, .int .i64 a, .int .i64 p] 112 (0, 0))).alloc (.cells #[.int .i64 d2, .int .i64 a2, .int .i64 p2] 112 (0, 0))).drew.cell? ⟨w.heap.size, 0, none⟩ = some (.int .i64 d) ∧ ((w.alloc (.cells #[.int .i64 d, .int .i64 a, .int .i64 p] 112 (0, 0))).alloc (.cells #[.int .i64 d2, .int .i64 a2, .int .i64 p2] 112 (0, 0))).drew.cell? ⟨w.heap.size, 1, none⟩ = some (.int .i64 a) ∧ ((w.alloc (.cells #[.int .i64 d, .int .i64 a, .int .i64 p] 112 (0, 0))).alloc (.cells #[.int .i64 d2, .int .i64 a2, .int .i64 p2] 112 (0, 0))).drew.cell? ⟨w.heap.size, 2, none⟩ = some (.int .i64 p) ∧ ((w.alloc (.cells #[.int .i64 d, .int .i64 a, .int .i64 p] 112 (0, 0))).alloc (.cells #[.int .i64 d2, .int .i64 a2, .int .i64 p2] 112 (0, 0))).drew.cell? ⟨w.heap.size + 1, 0, none⟩ = some (.int .i64 d2) ∧ ((w.alloc (.cells #[.int .i64 d, .int .i64 a, .int .i64 p] 112 (0, 0))).alloc (.cells #[.int .i64 d2, .int .i64 a2, .int .i64 p2] 112 (0, 0))).drew.cell? ⟨w.heap.size + 1, 1, none⟩ = some (.int .i64 a2) ∧ ((w.alloc (.cells #[.int .i64 d, .int .i64 a, .int .i64 p] 112 (0, 0))).alloc (.cells #[.int .i64 d2, .int .i64 a2, .int .i64 p2] 112 (0, 0))).drew.cell? ⟨w.heap.size + 1, 2, none⟩ = some (.int .i64 p2) ∧ Below w.heap.size w ((w.alloc (.cells #[.int .i64 d, .int .i64 a, .int .i64 p] 112 (0, 0))).alloc (.cells #[.int .i64 d2, .int .i64 a2, .int .i64 p2] 112 (0, 0))).drew) := hid ⟨by simp [go_sem, hc, hcb, Nat.ne_of_lt hcb, show cb ≠ w.heap.size + 1 by omega], by simp [go_sem], by simp [go_sem], by simp [go_sem], by simp [go_sem], by simp [go_sem], by simp [go_sem], by go_grown⟩
  have HC : Hid (w.cell? ⟨cb, 0, none⟩ = some (.func (.func 110) #[] #[])) := hc
  go_enter Try.func136, Try.ntmps136
  go_wp2
  refine wp_region_noPanic ?_
  refine wp_region_held_drew (S := fun w' => w'.cell? ⟨cb, 0, none⟩ = some (.func (.func 110) #[] #[]) ∧ w'.cell? ⟨w.heap.size, 0, none⟩ = some (.int .i64 d) ∧ w'.cell? ⟨w.heap.size, 1, none⟩ = some (.int .i64 a) ∧ w'.cell? ⟨w.heap.size, 2, none⟩ = some (.int .i64 p) ∧ w'.cell? ⟨w.heap.size + 1, 0, none⟩ = some (.int .i64 d2) ∧ w'.cell? ⟨w.heap.size + 1, 1, none⟩ = some (.int .i64 a2) ∧ w'.cell? ⟨w.heap.size + 1, 2, none⟩ = some (.int .i64 p2) ∧ Below w.heap.size w w') (by kernel_rfl) (by exact HS0.out) (fun hHeld => ?_)
  refine wpAnyH_take (i := 0) (oi := { dst := some 6, op := Go.Op.load 146 (Go.Operand.tmp 2), type := 146, pos := "l13_sell.go:149", after := #[], guard := none }) (v := ?_) rfl (by kernel_rfl) (by kernel_rfl) (by kernel_rfl) (fun _ _ _ h => h) (Or.inl ⟨by rfl, ?_⟩) (by assumption) ?_
  rotate_left
  · (intro w hSw; (try dsimp only at hSw); go_simp <;> try with_reducible rfl)
  try simp only [Act.put, List.setIfInBounds_toArray, List.set_cons_zero, List.set_cons_succ]
  refine wpAnyH_take (i := 1) (oi := { dst := some 7, op := Go.Op.load 112 (Go.Operand.tmp 3), type := 112, pos := "l13_sell.go:149", after := #[], guard := none }) (v := ?_) rfl (by kernel_rfl) (by kernel_rfl) (by kernel_rfl) (fun _ _ _ h => h) (Or.inl ⟨by rfl, ?_⟩) (by assumption) ?_
  rotate_left
  · (intro w hSw; (try dsimp only at hSw); go_simp <;> try with_reducible rfl)
  try simp only [Act.put, List.setIfInBounds_toArray, List.set_cons_zero, List.set_cons_succ]
  refine wpAnyH_take (i := 3) (oi := { dst := some 9, op := Go.Op.load 146 (Go.Operand.tmp 2), type := 146, pos := "l13_sell.go:149", after := #[], guard := none }) (v := ?_) rfl (by kernel_rfl) (by kernel_rfl) (by kernel_rfl) (fun _ _ _ h => h) (Or.inl ⟨by rfl, ?_⟩) (by assumption) ?_
  rotate_left
  · (intro w hSw; (try dsimp only at hSw); go_simp <;> try with_reducible rfl)
  try simp only [Act.put, List.setIfInBounds_toArray, List.set_cons_zero, List.set_cons_succ]
  refine wpAnyH_take (i := 4) (oi := { dst := some 10, op := Go.Op.load 112 (Go.Operand.tmp 4), type := 112, pos := "l13_sell.go:149", after := #[], guard := none }) (v := ?_) rfl (by kernel_rfl) (by kernel_rfl) (by kernel_rfl) (fun _ _ _ h => h) (Or.inl ⟨by rfl, ?_⟩) (by assumption) ?_
  rotate_left
  · (intro w hSw; (try dsimp only at hSw); go_simp <;> try with_reducible rfl)
  try simp only [Act.put, List.setIfInBounds_toArray, List.set_cons_zero, List.set_cons_succ]
  refine wpAnyH_ready (rs := [2]) (by kernel_rfl) (by simp) ?_
  refine AllReadyH.cons (o := { dst := some 8, op := Go.Op.call { callee := Go.Callee.value (Go.Operand.tmp 6), args := #[Go.Operand.tmp 7], argTypes := #[112] }, type := 3, pos := "l13_sell.go:149", after := #[{ on := 0, ground := Go.Ground.data }, { on := 1, ground := Go.Ground.data }], guard := none }) rfl (fun K hK => ?_) (AllReadyH.nil)
  go_simp
  refine (pday_any d a p _).mono ?_
  rintro e w2 ⟨rfl, b2⟩
  have Q2 : w2.cell? ⟨cb, 0, none⟩ = some (.func (.func 110) #[] #[]) ∧ w2.cell? ⟨w.heap.size, 0, none⟩ = some (.int .i64 d) ∧ w2.cell? ⟨w.heap.size, 1, none⟩ = some (.int .i64 a) ∧ w2.cell? ⟨w.heap.size, 2, none⟩ = some (.int .i64 p) ∧ w2.cell? ⟨w.heap.size + 1, 0, none⟩ = some (.int .i64 d2) ∧ w2.cell? ⟨w.heap.size + 1, 1, none⟩ = some (.int .i64 a2) ∧ w2.cell? ⟨w.heap.size + 1, 2, none⟩ = some (.int .i64 p2) ∧ Below w.heap.size w w2 := ⟨keep_cell b2 hHeld.1, keep_cell b2 hHeld.2.1, keep_cell b2 hHeld.2.2.1, keep_cell b2 hHeld.2.2.2.1, keep_cell b2 hHeld.2.2.2.2.1, keep_cell b2 hHeld.2.2.2.2.2.1, keep_cell b2 hHeld.2.2.2.2.2.2.1, bel_on hHeld.2.2.2.2.2.2.2 b2⟩
  clear b2
  first | refine hK.out _ _ (by exact Q2) (fun hHeld => ?_) | (go_wp2_with fail; refine hK.out _ _ (by exact Q2) (fun hHeld => ?_))
  clear hK K
  try simp only [Act.put, List.setIfInBounds_toArray, List.set_cons_zero, List.set_cons_succ]
  refine wpAnyH_ready (rs := [5]) (by kernel_rfl) (by simp) ?_
  refine AllReadyH.cons (o := { dst := some 11, op := Go.Op.call { callee := Go.Callee.value (Go.Operand.tmp 9), args := #[Go.Operand.tmp 10], argTypes := #[112] }, type := 3, pos := "l13_sell.go:149", after := #[{ on := 3, ground := Go.Ground.data }, { on := 4, ground := Go.Ground.data }, { on := 2, ground := Go.Ground.chain }], guard := none }) rfl (fun K hK => ?_) (AllReadyH.nil)
  go_simp
  refine (pday_any d2 a2 p2 _).mono ?_
  rintro e w3 ⟨rfl, b3⟩
  have Q3 : w3.cell? ⟨cb, 0, none⟩ = some (.func (.func 110) #[] #[]) ∧ w3.cell? ⟨w.heap.size, 0, none⟩ = some (.int .i64 d) ∧ w3.cell? ⟨w.heap.size, 1, none⟩ = some (.int .i64 a) ∧ w3.cell? ⟨w.heap.size, 2, none⟩ = some (.int .i64 p) ∧ w3.cell? ⟨w.heap.size + 1, 0, none⟩ = some (.int .i64 d2) ∧ w3.cell? ⟨w.heap.size + 1, 1, none⟩ = some (.int .i64 a2) ∧ w3.cell? ⟨w.heap.size + 1, 2, none⟩ = some (.int .i64 p2) ∧ Below w.heap.size w w3 := ⟨keep_cell b3 hHeld.1, keep_cell b3 hHeld.2.1, keep_cell b3 hHeld.2.2.1, keep_cell b3 hHeld.2.2.2.1, keep_cell b3 hHeld.2.2.2.2.1, keep_cell b3 hHeld.2.2.2.2.2.1, keep_cell b3 hHeld.2.2.2.2.2.2.1, bel_on hHeld.2.2.2.2.2.2.2 b3⟩
  clear b3
  first | refine hK.out _ _ (by exact Q3) (fun hHeld => ?_) | (go_wp2_with fail; refine hK.out _ _ (by exact Q3) (fun hHeld => ?_))
  clear hK K
  try simp only [Act.put, List.setIfInBounds_toArray, List.set_cons_zero, List.set_cons_succ]
  refine wpAnyH_ready (rs := [6]) (by kernel_rfl) (by simp) ?_
  refine AllReadyH.cons (o := { dst := some 12, op := Go.Op.call { callee := Go.Callee.value (Go.Operand.func 123), args := #[Go.Operand.tmp 8, Go.Operand.tmp 11], argTypes := #[3, 3] }, type := 3, pos := "l13_sell.go:149", after := #[{ on := 2, ground := Go.Ground.data }, { on := 5, ground := Go.Ground.data }, { on := 5, ground := Go.Ground.chain }], guard := none }) rfl (fun K hK => ?_) (AllReadyH.nil)
  go_simp
  refine (compare_any d d2 _).mono ?_
  rintro e w4 ⟨rfl, ew⟩
  replace ew := ew.symm
  subst ew
  first | refine hK.out _ _ (by exact Q3) (fun hHeld => ?_) | (go_wp2_with fail; refine hK.out _ _ (by exact Q3) (fun hHeld => ?_))
  clear hK K
  try simp only [Act.put, List.setIfInBounds_toArray, List.set_cons_zero, List.set_cons_succ]
  refine wpAnyH_take (i := 7) (oi := { dst := some 5, op := Go.Op.assign (Go.Operand.tmp 12), type := 3, pos := "l13_sell.go:149", after := #[{ on := 6, ground := Go.Ground.data }, { on := 6, ground := Go.Ground.chain }, { on := 0, ground := Go.Ground.phase }, { on := 1, ground := Go.Ground.phase }, { on := 2, ground := Go.Ground.phase }, { on := 3, ground := Go.Ground.phase }, { on := 4, ground := Go.Ground.phase }, { on := 5, ground := Go.Ground.phase }, { on := 6, ground := Go.Ground.phase }], guard := none }) (v := ?_) rfl (by kernel_rfl) (by kernel_rfl) (by kernel_rfl) (fun _ _ _ h => h) (Or.inl ⟨by rfl, ?_⟩) (by assumption) ?_
  rotate_left
  · (intro w hSw; (try dsimp only at hSw); go_simp <;> try with_reducible rfl)
  try simp only [Act.put, List.setIfInBounds_toArray, List.set_cons_zero, List.set_cons_succ]
  refine wpAnyH_done (by kernel_rfl) ?_ _
  refine NoPanic.normal ?_
  have HB := hid hHeld.2.2.2.2.2.2.2
  clear hHeld Q2 Q3
  go_wp2
  go_returns
  exact ⟨rfl, HB.out⟩
end Go.Proofs.Ytnglofgcckdbmaa
