/- Fees of bills: cuts and quotients of greater numbers; feeFor of the program. -/
import Derived.Test.YtnglofgcckdbmaaOb
import Derived.Test.YtnglofgcckdbmaaCa
namespace Go.Proofs.Ytnglofgcckdbmaa
open Go.ChangeShapes Go.WideShapes Go.ChangeAt Go.RowKit
set_option linter.unusedVariables false
set_option linter.unusedSimpArgs false

theorem cutOf_wide (p q : Int) (w : World) (h0 : -4000000000000000000 ≤ p) (h1 : p ≤ 4000000000000000000) (hq : 1 ≤ q) (hq1 : q ≤ 10000000000) :
    Calls Try.prog 117 #[.int .i64 p, .int .i64 q] w fun e w' => e = .returned (.agg #[.int .i64 (p.tdiv q), .int .i64 (cr p q), .int .i64 q, .bool (decide (p < 0))]) ∧ Below w.heap.size w w' := by
  obtain ⟨c0, c1, cp, cn⟩ := cut_facts p q hq
  by_cases h : p < 0
  · obtain ⟨n1, n2, n3, n4⟩ := cn h
    have hdec : decide (p < 0) = true := decide_eq_true h
    clear cp cn n4
    obtain ⟨d, hd⟩ : ∃ d, p.tdiv q = d := ⟨_, rfl⟩
    obtain ⟨r, hr⟩ : ∃ r, cr p q = r := ⟨_, rfl⟩
    rw [hd] at n1 n2
    rw [hr] at n3 c0 c1
    by_cases hr0 : r = 0
    · subst hr0
      go_enter Try.func117, Try.ntmps117
      go_wp2
      go_returns
      exact ⟨by simp [hr, hdec, hd], by go_grown⟩
    · go_enter Try.func117, Try.ntmps117
      go_wp2
      go_returns
      exact ⟨by simp [hr, hdec, hd], by go_grown⟩
  · obtain ⟨n1, n2, n3, n4, n5⟩ := cp (by omega)
    have hdec : decide (p < 0) = false := decide_eq_false h
    have hp : 0 ≤ p := by omega
    clear cp cn n5
    obtain ⟨d, hd⟩ : ∃ d, p.tdiv q = d := ⟨_, rfl⟩
    obtain ⟨r, hr⟩ : ∃ r, cr p q = r := ⟨_, rfl⟩
    rw [hd] at n1 n2 n3
    rw [hr] at n4 c0 c1
    go_enter Try.func117, Try.ntmps117
    go_wp2
    go_returns
    exact ⟨by simp [hr, hdec, hd], by go_grown⟩

set_option maxHeartbeats 2000000 in
theorem l1Div_wide (p q : Int) (w : World) (h0 : -4000000000000000000 ≤ p) (h1 : p ≤ 4000000000000000000) (hq : 1 ≤ q) (hq1 : q ≤ 10000000000) :
    Calls Try.prog 86 #[.int .i64 p, .int .i64 q, .int .i64 3] w fun e w' => e = .returned (.int .i64 (dv p q 3)) ∧ w' = w := by
  obtain ⟨c0, c1, cp, cn⟩ := cut_facts p q hq
  have HD : Hid (dv p q 3 = rnd (p.tdiv q) (cr p q) q (decide (p < 0)) 3) := rfl
  obtain ⟨d, hd⟩ : ∃ d, p.tdiv q = d := ⟨_, rfl⟩
  obtain ⟨r, hr⟩ : ∃ r, cr p q = r := ⟨_, rfl⟩
  rw [hd, hr] at HD cp cn
  rw [hr] at c0 c1
  by_cases h : p < 0
  · obtain ⟨n1, n2, n3, n4⟩ := cn h
    have HP : Hid (decide (p < 0) = true) := decide_eq_true h
    clear cp cn n4
    by_cases hz : r = 0
    · subst hz
      go_enter Try.func86, Try.ntmps86
      go_wp2
      go_returns
      exact ⟨ret_Lda (by rw [HD.out, HP.out]; simp [rnd, fur, *] <;> omega), rfl⟩
    · have hb : (r == 0) = false := by simpa using hz
      rcases Int.lt_trichotomy q (2 * r) with g | g | g
      · go_enter Try.func86, Try.ntmps86
        go_wp2
        go_returns
        exact ⟨ret_Lda (by rw [HD.out, HP.out]; simp [rnd, fur, *] <;> omega), rfl⟩
      · have g1 : ¬ q < 2 * r := by omega
        have g2 : ¬ 2 * r < q := by omega
        have G : Hid (q = 2 * r) := g
        clear g
        go_enter Try.func86, Try.ntmps86
        go_wp2
        go_returns
        exact ⟨ret_Lda (by rw [HD.out, HP.out]; simp [rnd, fur, G.out, hz] <;> omega), rfl⟩
      · go_enter Try.func86, Try.ntmps86
        go_wp2
        go_returns
        exact ⟨ret_Lda (by rw [HD.out, HP.out]; simp [rnd, fur, *] <;> omega), rfl⟩
  · obtain ⟨n1, n2, n3, n4, n5⟩ := cp (by omega)
    have HP : Hid (decide (p < 0) = false) := decide_eq_false h
    have hp : 0 ≤ p := by omega
    clear cp cn n5 hd
    by_cases hz : r = 0
    · subst hz
      go_enter Try.func86, Try.ntmps86
      go_wp2
      go_returns
      exact ⟨ret_Lda (by rw [HD.out, HP.out]; simp [rnd, fur, *] <;> omega), rfl⟩
    · have hb : (r == 0) = false := by simpa using hz
      rcases Int.lt_trichotomy q (2 * r) with g | g | g
      · go_enter Try.func86, Try.ntmps86
        go_wp2
        go_returns
        exact ⟨ret_Lda (by rw [HD.out, HP.out]; simp [rnd, fur, *] <;> omega), rfl⟩
      · have g1 : ¬ q < 2 * r := by omega
        have g2 : ¬ 2 * r < q := by omega
        have G : Hid (q = 2 * r) := g
        clear g
        go_enter Try.func86, Try.ntmps86
        go_wp2
        go_returns
        exact ⟨ret_Lda (by rw [HD.out, HP.out]; simp [rnd, fur, G.out, hz] <;> omega), rfl⟩
      · go_enter Try.func86, Try.ntmps86
        go_wp2
        go_returns
        exact ⟨ret_Lda (by rw [HD.out, HP.out]; simp [rnd, fur, *] <;> omega), rfl⟩


def fdV (d day : Int) : Int := max (d - day) 0
def feV (a r d : Int) : Int := dv (a * r * d) 36000000 3
theorem fee_prod {a r d : Int} (ha : 1 ≤ a ∧ a ≤ 100000000000) (hr : 0 ≤ r ∧ r ≤ 100000) (hd : 0 ≤ d ∧ d ≤ 360) : 0 ≤ a * r ∧ a * r ≤ 10000000000000000 ∧ 0 ≤ a * r * d ∧ a * r * d ≤ 3600000000000000000 ∧ 0 ≤ r * d ∧ r * d ≤ 36000000 := by
  have h1 : 0 ≤ a * r := Int.mul_nonneg (by omega) hr.1
  have h2 : a * r ≤ 100000000000 * 100000 := Int.mul_le_mul ha.2 hr.2 hr.1 (by omega)
  have h3 : 0 ≤ a * r * d := Int.mul_nonneg h1 hd.1
  have h4 : a * r * d ≤ 10000000000000000 * 360 := Int.mul_le_mul (by omega) hd.2 hd.1 (by omega)
  have h5 : 0 ≤ r * d := Int.mul_nonneg hr.1 hd.1
  have h6 : r * d ≤ 100000 * 360 := Int.mul_le_mul hr.2 hd.2 hd.1 (by omega)
  exact ⟨h1, by omega, h3, by omega, h5, by omega⟩
theorem dv_fee {p : Int} (h0 : 0 ≤ p) (h1 : p ≤ 3600000000000000000) : 0 ≤ dv p 36000000 3 ∧ dv p 36000000 3 ≤ 100000000001 := by
  obtain ⟨e1, _⟩ := dv_pos p 36000000 h0 (by omega)
  unfold dv rnd
  rw [e1, show decide (p < 0) = false from decide_eq_false (by omega)]
  simp only [Bool.false_eq_true, if_false]
  split <;> omega
theorem fee_bd {a r d : Int} (ha : 1 ≤ a ∧ a ≤ 100000000000) (hr : 0 ≤ r ∧ r ≤ 100000) (hd : 0 ≤ d ∧ d ≤ 360) : 0 ≤ feV a r d ∧ feV a r d ≤ 100000000001 := by
  have := fee_prod ha hr hd
  exact dv_fee this.2.2.1 this.2.2.2.1

set_option maxRecDepth 20000 in
set_option maxHeartbeats 4000000 in
theorem feeFor_any (dy a r d : Int) (w : World) (ha : 1 ≤ a ∧ a ≤ 100000000000) (hr : 0 ≤ r ∧ r ≤ 100000) (hd : 0 ≤ d ∧ d ≤ 360) :
    Calls Try.prog 111 #[.agg #[.int .i64 dy, .int .i64 a], .int .i64 r, .int .i64 d] w fun e w' => e = .returned (.int .i64 (feV a r d)) ∧ Below w.heap.size w w' := by
  obtain ⟨p1, p2, p3, p4, _, _⟩ := fee_prod ha hr hd
  have HV : Hid (feV a r d = rnd ((a * r * d).tdiv 36000000) (cr (a * r * d) 36000000) 36000000 (decide (a * r * d < 0)) 3) := rfl
  obtain ⟨c0, c1, cp, cn⟩ := cut_facts (a * r * d) 36000000 (by omega)
  have g1 := (cp p3).1
  have g2 := (cp p3).2.1
  have hw1 : IntKind.i64.wrap (a * r) = a * r := IntWalk.i64_in _ ⟨by omega, by omega⟩
  have hw2 : IntKind.i64.wrap (a * r * d) = a * r * d := IntWalk.i64_in _ ⟨by omega, by omega⟩
  have hq : (a * r * d).tdiv 36000000 ≤ 1000000000000000000 := by rw [(dv_pos _ _ p3 (by omega)).1]; omega
  obtain ⟨X, hX⟩ : ∃ X, a * r = X := ⟨_, rfl⟩
  rw [hX] at p1 p2 p3 p4 HV c0 c1 g1 g2 hq hw2
  replace hw1 : IntKind.i64.wrap (a * r) = X := hw1.trans hX
  obtain ⟨Y, hY⟩ : ∃ Y, X * d = Y := ⟨_, rfl⟩
  rw [hY] at p3 p4 HV c0 c1 g1 g2 hq
  replace hw2 : IntKind.i64.wrap (X * d) = Y := hw2.trans hY
  have HC : Hid (∀ w, Calls Try.prog 117 #[.int .i64 Y, .int .i64 36000000] w fun e w' => e = .returned (.agg #[.int .i64 (Y.tdiv 36000000), .int .i64 (cr Y 36000000), .int .i64 36000000, .bool (decide (Y < 0))]) ∧ Below w.heap.size w w') := fun w => cutOf_wide Y 36000000 w (by omega) (by omega) (by omega) (by omega)
  have HR : Hid (∀ w, Calls Try.prog 116 #[.agg #[.int .i64 3, .func (.func (fk 3)) #[] #[]], .agg #[.int .i64 (Y.tdiv 36000000), .int .i64 (cr Y 36000000), .int .i64 36000000, .bool (decide (Y < 0))]] w fun e w' => e = .returned (.int .i64 (rnd (Y.tdiv 36000000) (cr Y 36000000) 36000000 (decide (Y < 0)) 3)) ∧ Below w.heap.size w w') := fun w => round_any 3 _ _ _ _ w (by omega) (by omega) (by omega) hq c0 c1 (by omega)
  obtain ⟨D, hD⟩ : ∃ D, Y.tdiv 36000000 = D := ⟨_, rfl⟩
  obtain ⟨R, hR⟩ : ∃ R, cr Y 36000000 = R := ⟨_, rfl⟩
  obtain ⟨NG, hNG⟩ : ∃ N, decide (Y < 0) = N := ⟨_, rfl⟩
  rw [hD, hR, hNG] at HC HR HV
  obtain ⟨V, hVV⟩ : ∃ V, rnd D R 36000000 NG 3 = V := ⟨_, rfl⟩
  rw [hVV] at HR HV
  have HRO : Hid (∀ w, Calls Try.prog 112 #[.int .i64 3] w fun e w' => e = .returned (.tuple #[.agg #[.int .i64 3, .func (.func (fk 3)) #[] #[]], .bool true]) ∧ Below w.heap.size w w') := fun w => roundingOf_any 3 w (by omega) (by omega)
  clear hX hY hD hR hNG hVV cp cn c0 c1 g1 g2 hq
  go_enter Try.func111, Try.ntmps111
  go_wp2_with (go_at_call 112; refine (HRO.out _).mono ?_; rintro e w1 ⟨rfl, b1⟩; have k1 : w1.cell? ⟨w.heap.size, 1, none⟩ = some (.int .i64 a) := keep_cell b1 (((CB.new _ _).cell 1).trans rfl); have HB1 : Hid (Below w.heap.size w w1) := bel_on ((Below.refl _ _).alloc (Nat.le_refl _) _) b1; clear b1)
  have hC : CB (w1.alloc (.cells #[.int .i64 3, .func (.func (fk 3)) #[] #[]] 151 (0, 0))) w1.heap.size #[.int .i64 3, .func (.func (fk 3)) #[] #[]] 151 := CB.new _ _
  have hk : (w1.alloc (.cells #[.int .i64 3, .func (.func (fk 3)) #[] #[]] 151 (0, 0))).cell? ⟨w.heap.size, 1, none⟩ = some (.int .i64 a) := keep_cell ((Below.refl _ _).alloc (Nat.le_refl _) _) k1
  have hB : Below w.heap.size w (w1.alloc (.cells #[.int .i64 3, .func (.func (fk 3)) #[] #[]] 151 (0, 0))) := HB1.out.alloc HB1.out.size _
  clear k1 HB1
  generalize w1.alloc (.cells #[.int .i64 3, .func (.func (fk 3)) #[] #[]] 151 (0, 0)) = W at hC hk hB ⊢
  have m0 : W.drew.cell? ⟨w1.heap.size, 0, none⟩ = some (.int .i64 3) := (hC.cell 0).trans rfl
  have m1 : W.drew.cell? ⟨w1.heap.size, 1, none⟩ = some (.func (.func (fk 3)) #[] #[]) := (hC.cell 1).trans rfl
  have m2 : W.drew.cell? ⟨w.heap.size, 1, none⟩ = some (.int .i64 a) := hk
  have hBd : Below w.heap.size w W.drew := hB.drew
  clear hC hk hB
  refine wp_region_noPanic ?_
  refine wp_region_held_drew (S := fun w' => w'.cell? ⟨w1.heap.size, 0, none⟩ = some (.int .i64 3) ∧ w'.cell? ⟨w1.heap.size, 1, none⟩ = some (.func (.func (fk 3)) #[] #[]) ∧ w'.cell? ⟨w.heap.size, 1, none⟩ = some (.int .i64 a) ∧ Below w.heap.size w w') (by kernel_rfl) (by exact ⟨m0, m1, m2, hBd⟩) (fun hHeld => ?_)
  refine wpAnyH_take (i := 0) (oi := { dst := some 13, op := Go.Op.load 151 (Go.Operand.tmp 7), type := 151, pos := "l13_sell.go:219", after := #[], guard := none }) (v := ?_) rfl (by kernel_rfl) (by kernel_rfl) (by kernel_rfl) (fun _ _ _ h => h) (Or.inl ⟨by rfl, ?_⟩) (by assumption) ?_
  rotate_left
  · (intro w hSw; (try dsimp only at hSw); go_simp <;> try with_reducible rfl)
  try simp only [Act.put, List.setIfInBounds_toArray, List.set_cons_zero, List.set_cons_succ]
  refine wpAnyH_take (i := 1) (oi := { dst := some 14, op := Go.Op.fieldAddr 60 (Go.Operand.tmp 3) 1, type := 0, pos := "l13_sell.go:219", after := #[], guard := none }) (v := ?_) rfl (by kernel_rfl) (by kernel_rfl) (by kernel_rfl) (fun _ _ _ h => h) (Or.inl ⟨by rfl, ?_⟩) (by assumption) ?_
  rotate_left
  · (intro w hSw; (try dsimp only at hSw); go_simp <;> try with_reducible rfl)
  try simp only [Act.put, List.setIfInBounds_toArray, List.set_cons_zero, List.set_cons_succ]
  refine wpAnyH_take (i := 2) (oi := { dst := some 15, op := Go.Op.load 3 (Go.Operand.tmp 14), type := 3, pos := "l13_sell.go:219", after := #[{ on := 1, ground := Go.Ground.data }], guard := none }) (v := ?_) rfl (by kernel_rfl) (by kernel_rfl) (by kernel_rfl) (fun _ _ _ h => h) (Or.inl ⟨by rfl, ?_⟩) (by assumption) ?_
  rotate_left
  · (intro w hSw; (try dsimp only at hSw); go_simp <;> try with_reducible rfl)
  try simp only [Act.put, List.setIfInBounds_toArray, List.set_cons_zero, List.set_cons_succ]
  refine wpAnyH_take (i := 3) (oi := { dst := some 16, op := Go.Op.move (Go.Operand.tmp 1), type := 3, pos := "l13_sell.go:219", after := #[], guard := none }) (v := ?_) rfl (by kernel_rfl) (by kernel_rfl) (by kernel_rfl) (fun _ _ _ h => h) (Or.inl ⟨by rfl, ?_⟩) (by assumption) ?_
  rotate_left
  · (intro w hSw; (try dsimp only at hSw); go_simp <;> try with_reducible rfl)
  try simp only [Act.put, List.setIfInBounds_toArray, List.set_cons_zero, List.set_cons_succ]
  refine wpAnyH_take (i := 4) (oi := { dst := some 17, op := Go.Op.binOp Go.BinOp.mul 3 (Go.Operand.tmp 15) (Go.Operand.tmp 16) 3, type := 3, pos := "l13_sell.go:219", after := #[{ on := 2, ground := Go.Ground.data }, { on := 3, ground := Go.Ground.data }], guard := none }) (v := ?_) rfl (by kernel_rfl) (by kernel_rfl) (by kernel_rfl) (fun _ _ _ h => h) (Or.inl ⟨by rfl, ?_⟩) (by assumption) ?_
  rotate_left
  · (intro w hSw; (try dsimp only at hSw); go_simp <;> try with_reducible rfl)
  try simp only [Act.put, List.setIfInBounds_toArray, List.set_cons_zero, List.set_cons_succ]
  refine wpAnyH_take (i := 5) (oi := { dst := some 18, op := Go.Op.move (Go.Operand.tmp 2), type := 3, pos := "l13_sell.go:219", after := #[], guard := none }) (v := ?_) rfl (by kernel_rfl) (by kernel_rfl) (by kernel_rfl) (fun _ _ _ h => h) (Or.inl ⟨by rfl, ?_⟩) (by assumption) ?_
  rotate_left
  · (intro w hSw; (try dsimp only at hSw); go_simp <;> try with_reducible rfl)
  try simp only [Act.put, List.setIfInBounds_toArray, List.set_cons_zero, List.set_cons_succ]
  refine wpAnyH_take (i := 6) (oi := { dst := some 19, op := Go.Op.binOp Go.BinOp.mul 3 (Go.Operand.tmp 17) (Go.Operand.tmp 18) 3, type := 3, pos := "l13_sell.go:219", after := #[{ on := 4, ground := Go.Ground.data }, { on := 5, ground := Go.Ground.data }], guard := none }) (v := ?_) rfl (by kernel_rfl) (by kernel_rfl) (by kernel_rfl) (fun _ _ _ h => h) (Or.inl ⟨by rfl, ?_⟩) (by assumption) ?_
  rotate_left
  · (intro w hSw; (try dsimp only at hSw); go_simp <;> try with_reducible rfl)
  try simp only [Act.put, List.setIfInBounds_toArray, List.set_cons_zero, List.set_cons_succ]
  refine wpAnyH_ready (rs := [7]) (by kernel_rfl) (by simp) ?_
  refine AllReadyH.cons (o := { dst := some 20, op := Go.Op.call { callee := Go.Callee.value (Go.Operand.func 117), args := #[Go.Operand.tmp 19, Go.Operand.const (Go.Value.int Go.IntKind.i64 36000000)], argTypes := #[3, 3] }, type := 157, pos := "l13_sell.go:219", after := #[{ on := 6, ground := Go.Ground.data }], guard := none }) rfl (fun K hK => ?_) (AllReadyH.nil)
  go_simp
  refine (HC.out _).mono ?_
  rintro e w2 ⟨rfl, b2⟩
  have Q2 : w2.cell? ⟨w1.heap.size, 0, none⟩ = some (.int .i64 3) ∧ w2.cell? ⟨w1.heap.size, 1, none⟩ = some (.func (.func (fk 3)) #[] #[]) ∧ w2.cell? ⟨w.heap.size, 1, none⟩ = some (.int .i64 a) ∧ Below w.heap.size w w2 := ⟨keep_cell b2 hHeld.1, keep_cell b2 hHeld.2.1, keep_cell b2 hHeld.2.2.1, bel_on hHeld.2.2.2 b2⟩
  clear b2
  first | refine hK.out _ _ (by exact Q2) (fun hHeld => ?_) | (go_wp2_with fail; refine hK.out _ _ (by exact Q2) (fun hHeld => ?_))
  clear hK K
  try simp only [Act.put, List.setIfInBounds_toArray, List.set_cons_zero, List.set_cons_succ]
  refine wpAnyH_ready (rs := [8]) (by kernel_rfl) (by simp) ?_
  refine AllReadyH.cons (o := { dst := some 21, op := Go.Op.call { callee := Go.Callee.value (Go.Operand.func 116), args := #[Go.Operand.tmp 13, Go.Operand.tmp 20], argTypes := #[151, 157] }, type := 3, pos := "l13_sell.go:219", after := #[{ on := 0, ground := Go.Ground.data }, { on := 7, ground := Go.Ground.data }, { on := 7, ground := Go.Ground.chain }], guard := none }) rfl (fun K hK => ?_) (AllReadyH.nil)
  go_simp
  refine (HR.out _).mono ?_
  rintro e w3 ⟨rfl, b3⟩
  have Q3 : w3.cell? ⟨w1.heap.size, 0, none⟩ = some (.int .i64 3) ∧ w3.cell? ⟨w1.heap.size, 1, none⟩ = some (.func (.func (fk 3)) #[] #[]) ∧ w3.cell? ⟨w.heap.size, 1, none⟩ = some (.int .i64 a) ∧ Below w.heap.size w w3 := ⟨keep_cell b3 hHeld.1, keep_cell b3 hHeld.2.1, keep_cell b3 hHeld.2.2.1, bel_on hHeld.2.2.2 b3⟩
  clear b3
  first | refine hK.out _ _ (by exact Q3) (fun hHeld => ?_) | (go_wp2_with fail; refine hK.out _ _ (by exact Q3) (fun hHeld => ?_))
  clear hK K
  try simp only [Act.put, List.setIfInBounds_toArray, List.set_cons_zero, List.set_cons_succ]
  refine wpAnyH_take (i := 9) (oi := { dst := some 6, op := Go.Op.assign (Go.Operand.tmp 21), type := 3, pos := "l13_sell.go:219", after := #[{ on := 8, ground := Go.Ground.data }, { on := 8, ground := Go.Ground.chain }, { on := 0, ground := Go.Ground.phase }, { on := 1, ground := Go.Ground.phase }, { on := 2, ground := Go.Ground.phase }, { on := 3, ground := Go.Ground.phase }, { on := 4, ground := Go.Ground.phase }, { on := 5, ground := Go.Ground.phase }, { on := 6, ground := Go.Ground.phase }, { on := 7, ground := Go.Ground.phase }, { on := 8, ground := Go.Ground.phase }], guard := none }) (v := ?_) rfl (by kernel_rfl) (by kernel_rfl) (by kernel_rfl) (fun _ _ _ h => h) (Or.inl ⟨by rfl, ?_⟩) (by assumption) ?_
  rotate_left
  · (intro w hSw; (try dsimp only at hSw); go_simp <;> try with_reducible rfl)
  try simp only [Act.put, List.setIfInBounds_toArray, List.set_cons_zero, List.set_cons_succ]
  refine wpAnyH_done (by kernel_rfl) ?_ _
  refine NoPanic.normal ?_
  clear hHeld
  go_wp2
  go_returns
  exact ⟨ret_i HV.out.symm, Q3.2.2.2⟩
end Go.Proofs.Ytnglofgcckdbmaa
