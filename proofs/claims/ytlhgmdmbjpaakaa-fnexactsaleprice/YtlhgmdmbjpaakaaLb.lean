/- Ladders of Rung: isRight, height, isLadder of the program. -/
import Derived.Test.YtlhgmdmbjpaakaaLa
import Derived.Test.YtlhgmdmbjpaakaaSm
import Derived.Deep.QuietTactic
namespace Go.Proofs.Ytlhgmdmbjpaakaa
open Go.ChangeShapes Go.WideShapes Go.ChangeAt Go.RowKit
set_option linter.unusedVariables false
set_option linter.unusedSimpArgs false

def rlE (from_ rate : Int) : Bool := inB from_ 0 1000000 && inB rate 0 100000
def rlOk (z : Nat → RU2) (i : Nat) : Bool := rlE (z i).from_ (z i).rate && decide (0 < i → (z (i - 1)).from_ < (z i).from_)
def RlP (n : Nat) (z : Nat → RU2) : Prop := n ≤ 20 ∧ ∀ i, i < n → rlOk z i = true
open Classical in
noncomputable def rlB (n : Nat) (z : Nat → RU2) : Bool := decide (RlP n z)
open Classical in
theorem rlB_t {n : Nat} {z : Nat → RU2} (h : RlP n z) : rlB n z = true := by unfold rlB; exact decide_eq_true h
open Classical in
theorem rlB_f {n : Nat} {z : Nat → RU2} (h : ¬ RlP n z) : rlB n z = false := by unfold rlB; exact decide_eq_false h
open Classical in
theorem rlB_p {n : Nat} {z : Nat → RU2} (h : rlB n z = true) : RlP n z := by unfold rlB at h; exact of_decide_eq_true h
theorem rlB_bad {n i : Nat} {z : Nat → RU2} (hi : i < n) (h : rlOk z i = false) : rlB n z = false := rlB_f fun H => by have := H.2 i hi; rw [h] at this; cases this
theorem rl_step {z : Nat → RU2} {k : Nat} (h : ∀ j, j < k → rlOk z j = true) (g : rlOk z k = true) : ∀ j, j < k + 1 → rlOk z j = true := fun j hj => by
  by_cases e : j = k
  · subst e; exact g
  · exact h j (by omega)
theorem rl_q {z : Nat → RU2} {k : Nat} {from_ rate : Int} (hz : z k = ⟨from_, rate⟩) (h : rlE from_ rate = false) : rlOk z k = false := by unfold rlOk; rw [hz]; simp [h]
theorem rl_o {z : Nat → RU2} {k m : Nat} {from_ rate : Int} (hz : z k = ⟨from_, rate⟩) (hk : k = m + 1) (h : from_ ≤ (z m).from_) : rlOk z k = false := by
  subst hk; unfold rlOk; rw [hz]; simp; intro _; omega
theorem rl_0 {z : Nat → RU2} {from_ rate : Int} (hz : z 0 = ⟨from_, rate⟩) (h1 : rlE from_ rate = true) : rlOk z 0 = true := by unfold rlOk; rw [hz]; simp [h1]
theorem rl_1 {z : Nat → RU2} {k m : Nat} {from_ rate : Int} (hz : z k = ⟨from_, rate⟩) (hk : k = m + 1) (h1 : rlE from_ rate = true) (h : (z m).from_ < from_) : rlOk z k = true := by
  subst hk; unfold rlOk; rw [hz]; simp [h1]; exact h

set_option maxRecDepth 20000 in
set_option maxHeartbeats 4000000 in
theorem rlRight_any (from_ rate : Int) (w : World) : Calls Try.prog 151 #[.agg #[.int .i64 from_, .int .i64 rate]] w fun e w' => e = .returned (.bool (rlE from_ rate)) ∧ Below w.heap.size w w' := by
  cases hf : inB from_ 0 1000000
  · have HV : Hid (false = rlE from_ rate) := hid (by simp [rlE, hf])
    go_enter Try.func151, Try.ntmps151
    go_wp2_with (first | (go_at_call 88; refine (isQty_any _ _).mono ?_; rintro e w1 ⟨rfl, rfl⟩) | (go_at_call 80; refine (isRate_any _ _).mono ?_; rintro e w1 ⟨rfl, rfl⟩))
    go_returns
    exact ⟨ret_bool HV.out, by go_grown⟩
  cases hr : inB rate 0 100000
  · have HV : Hid (false = rlE from_ rate) := hid (by simp [rlE, hf, hr])
    go_enter Try.func151, Try.ntmps151
    go_wp2_with (first | (go_at_call 88; refine (isQty_any _ _).mono ?_; rintro e w1 ⟨rfl, rfl⟩) | (go_at_call 80; refine (isRate_any _ _).mono ?_; rintro e w1 ⟨rfl, rfl⟩))
    go_returns
    exact ⟨ret_bool HV.out, by go_grown⟩
  have HV : Hid (true = rlE from_ rate) := hid (by simp [rlE, hf, hr])
  go_enter Try.func151, Try.ntmps151
  go_wp2_with (first | (go_at_call 88; refine (isQty_any _ _).mono ?_; rintro e w1 ⟨rfl, rfl⟩) | (go_at_call 80; refine (isRate_any _ _).mono ?_; rintro e w1 ⟨rfl, rfl⟩))
  go_returns
  exact ⟨ret_bool HV.out, by go_grown⟩
theorem rlRight_eq (from_ rate : Int) (v : Bool) (w : World) (h : rlE from_ rate = v) : Calls Try.prog 151 #[.agg #[.int .i64 from_, .int .i64 rate]] w fun e w' => e = .returned (.bool v) ∧ Below w.heap.size w w' := by
  subst h; exact rlRight_any from_ rate w
theorem rlHeight_any (from_ rate : Int) (w : World) : Calls Try.prog 150 #[.agg #[.int .i64 from_, .int .i64 rate]] w fun e w' => e = .returned (.int .i64 from_) ∧ Below w.heap.size w w' := by
  go_enter Try.func150, Try.ntmps150
  go_wp2
  go_returns
  exact ⟨rfl, by go_grown⟩

set_option maxRecDepth 20000 in
set_option maxHeartbeats 8000000 in
theorem rlLadder_any (ra : Option Addr) (n rc : Nat) (z : Nat → RU2) (w : World) (h : (n : Int) ≤ 1048576) (hr : RUr w ra n z) :
    Calls Try.prog 87 #[.slice ra n rc] w fun e w' => e = .returned (.bool (rlB n z)) ∧ Below w.heap.size w w' := by
  have HR : Hid (RUr w ra n z) := hr
  clear hr
  by_cases h6 : (20 : Int) < (n : Int)
  · have HV : Hid (rlB n z = false) := rlB_f fun H => by have := H.1; omega
    go_enter Try.func87, Try.ntmps87
    go_wp2
    go_returns
    exact ⟨ret_bool HV.out.symm, Below.refl _ _⟩
  have g6 : (n : Int) ≤ 20 := by omega
  clear h6
  go_enter Try.func87, Try.ntmps87
  go_wp2
  go_loopw [10] (fun i wr => ∃ (k : Nat), k ≤ n ∧ i = .int .i64 (k : Int) ∧ Hid ((∀ j, j < k → rlOk z j = true) ∧ Below w.heap.size w wr)) (fun i _ => n - (intOf i).toNat)
  case atStart => exact ⟨0, Nat.zero_le _, rfl, fun j hj => by omega, Below.refl _ _⟩
  case round =>
    obtain ⟨k, hk, rfl, HH⟩ := hrel
    obtain ⟨wo, rfl⟩ : ∃ x, x = wr := ⟨wr, rfl⟩
    by_cases hlt : k < n
    · have hlt2 : (k : Int) < (n : Int) := by omega
      obtain ⟨kb, off, rfl, hkb⟩ := HR.out.addr (by omega)
      have k0 := (HR.out.below HH.out.2).cell hlt
      obtain ⟨e, he⟩ : ∃ e, z k = e := ⟨_, rfl⟩
      rw [he] at k0
      obtain ⟨from_, rate⟩ := e
      have HX : Hid (z k = ⟨from_, rate⟩) := he
      obtain ⟨c0, c1⟩ := k0
      simp only at c0 c1
      clear he
      go_wp2
      have hC : CB (wo.alloc (.cells #[.int .i64 from_, .int .i64 rate] 112 (0, 0))) wo.heap.size #[.int .i64 from_, .int .i64 rate] 112 := CB.new _ _
      have hB : Below w.heap.size w (wo.alloc (.cells #[.int .i64 from_, .int .i64 rate] 112 (0, 0))) := bel_on HH.out.2 ((Below.refl _ _).alloc (Nat.le_refl _) _)
      clear c0 c1
      generalize wo.alloc (.cells #[.int .i64 from_, .int .i64 rate] 112 (0, 0)) = W at hC hB ⊢
      have c0 : W.drew.cell? ⟨wo.heap.size, 0, none⟩ = some (.int .i64 from_) := (hC.cell 0).trans rfl
      have c1 : W.drew.cell? ⟨wo.heap.size, 1, none⟩ = some (.int .i64 rate) := (hC.cell 1).trans rfl
      have HB : Hid (Below w.heap.size w W) := hB
      have hnaisRight : ∀ w, (nilAhead 265 112 (.agg #[.int .i64 from_, .int .i64 rate]) "loop.example/g00040/impl.isRight").run Try.prog w = .ok (some false) w := fun w => by kernel_rfl
      have hmaisRight : ∀ w, (method 265 112 (.agg #[.int .i64 from_, .int .i64 rate]) "loop.example/g00040/impl.isRight").run Try.prog w = .ok (151, .agg #[.int .i64 from_, .int .i64 rate]) w := fun w => by kernel_rfl
      have hnaheight : ∀ w, (nilAhead 265 112 (.agg #[.int .i64 from_, .int .i64 rate]) "loop.example/g00040/impl.height").run Try.prog w = .ok (some false) w := fun w => by kernel_rfl
      have hmaheight : ∀ w, (method 265 112 (.agg #[.int .i64 from_, .int .i64 rate]) "loop.example/g00040/impl.height").run Try.prog w = .ok (150, .agg #[.int .i64 from_, .int .i64 rate]) w := fun w => by kernel_rfl
      clear hC
      have hBd : Below w.heap.size w W.drew := hB.drew
      clear hB
      cases hq : rlE from_ rate
      · have HV : Hid (rlB n z = false) := hid (rlB_bad hlt (rl_q HX.out hq))
        refine wp_region_noPanic ?_
        refine wp_region_held_drew (S := fun w' => (w'.cell? ⟨wo.heap.size, 0, none⟩ = some (.int .i64 from_)) ∧ (w'.cell? ⟨wo.heap.size, 1, none⟩ = some (.int .i64 rate)) ∧ Below w.heap.size w w') (by kernel_rfl) (by exact ⟨c0, c1, hBd⟩) (fun hHeld => ?_)
        refine wpAnyH_take (i := 0) (oi := { dst := some 15, op := Go.Op.load 112 (Go.Operand.tmp 4), type := 112, pos := "l13_sell.go:68", after := #[], guard := none }) (v := ?_) rfl (by kernel_rfl) (by kernel_rfl) (by kernel_rfl) (fun _ _ _ h => h) (Or.inl ⟨by rfl, ?_⟩) (by assumption) ?_
        rotate_left
        · (intro w hSw; (try dsimp only at hSw); go_simp <;> try with_reducible rfl)
        try simp only [Act.put, List.setIfInBounds_toArray, List.set_cons_zero, List.set_cons_succ]
        refine wpAnyH_take (i := 1) (oi := { dst := some 16, op := Go.Op.makeInterface 112 (Go.Operand.tmp 15), type := 20, pos := "l13_sell.go:68", after := #[{ on := 0, ground := Go.Ground.data }], guard := none }) (v := ?_) rfl (by kernel_rfl) (by kernel_rfl) (by kernel_rfl) (fun _ _ _ h => h) (Or.inl ⟨by rfl, ?_⟩) (by assumption) ?_
        rotate_left
        · (intro w hSw; (try dsimp only at hSw); go_simp <;> try with_reducible rfl)
        try simp only [Act.put, List.setIfInBounds_toArray, List.set_cons_zero, List.set_cons_succ]
        refine wpAnyH_ready (rs := [2]) (by kernel_rfl) (by simp) ?_
        refine AllReadyH.cons (o := { dst := some 17, op := Go.Op.call { callee := Go.Callee.invoke (Go.Operand.tmp 16) "loop.example/g00040/impl.isRight", args := #[], argTypes := #[] }, type := 4, pos := "l13_sell.go:68", after := #[{ on := 1, ground := Go.Ground.data }], guard := none }) rfl (fun K hK => ?_) (AllReadyH.nil)
        go_simp
        refine (rlRight_eq from_ rate false _ hq).mono ?_
        rintro e w2 ⟨rfl, b2⟩
        have Q2 : (w2.cell? ⟨wo.heap.size, 0, none⟩ = some (.int .i64 from_)) ∧ (w2.cell? ⟨wo.heap.size, 1, none⟩ = some (.int .i64 rate)) ∧ Below w.heap.size w w2 := ⟨keep_cell b2 hHeld.1, keep_cell b2 hHeld.2.1, bel_on hHeld.2.2 b2⟩
        clear b2
        first | refine hK.out _ _ (by exact Q2) (fun hHeld => ?_) | (go_wp2_with fail; refine hK.out _ _ (by exact Q2) (fun hHeld => ?_))
        clear hK K
        try simp only [Act.put, List.setIfInBounds_toArray, List.set_cons_zero, List.set_cons_succ]
        refine wpAnyH_take (i := 3) (oi := { dst := some 18, op := Go.Op.unOp Go.UnOp.not 4 (Go.Operand.tmp 17), type := 4, pos := "l13_sell.go:68", after := #[{ on := 2, ground := Go.Ground.data }], guard := none }) (v := ?_) rfl (by kernel_rfl) (by kernel_rfl) (by kernel_rfl) (fun _ _ _ h => h) (Or.inl ⟨by rfl, ?_⟩) (by assumption) ?_
        rotate_left
        · (intro w hSw; (try dsimp only at hSw); go_simp <;> try with_reducible rfl)
        try simp only [Act.put, List.setIfInBounds_toArray, List.set_cons_zero, List.set_cons_succ]
        refine wpAnyH_take (i := 4) (oi := { dst := some 19, op := Go.Op.move (Go.Operand.tmp 18), type := 4, pos := "l13_sell.go:68", after := #[{ on := 3, ground := Go.Ground.data }, { on := 2, ground := Go.Ground.chain }], guard := none }) (v := ?_) rfl (by kernel_rfl) (by kernel_rfl) (by kernel_rfl) (fun _ _ _ h => h) (Or.inl ⟨by rfl, ?_⟩) (by assumption) ?_
        rotate_left
        · (intro w hSw; (try dsimp only at hSw); go_simp <;> try with_reducible rfl)
        try simp only [Act.put, List.setIfInBounds_toArray, List.set_cons_zero, List.set_cons_succ]
        refine wpAnyH_take (i := 5) (oi := { dst := some 20, op := Go.Op.move (Go.Operand.tmp 3), type := 3, pos := "l13_sell.go:68", after := #[{ on := 4, ground := Go.Ground.guard }], guard := some (4, false) }) (v := undef) rfl (by kernel_rfl) (by kernel_rfl) (by kernel_rfl) (fun _ _ _ h => h) (Or.inr ⟨by rfl, rfl⟩) (by assumption) ?_
        try simp only [Act.put, List.setIfInBounds_toArray, List.set_cons_zero, List.set_cons_succ]
        refine wpAnyH_take (i := 6) (oi := { dst := some 21, op := Go.Op.binOp Go.BinOp.gtr 3 (Go.Operand.tmp 20) (Go.Operand.const (Go.Value.int Go.IntKind.i64 0)) 3, type := 4, pos := "l13_sell.go:68", after := #[{ on := 5, ground := Go.Ground.data }, { on := 4, ground := Go.Ground.guard }], guard := some (4, false) }) (v := undef) rfl (by kernel_rfl) (by kernel_rfl) (by kernel_rfl) (fun _ _ _ h => h) (Or.inr ⟨by rfl, rfl⟩) (by assumption) ?_
        try simp only [Act.put, List.setIfInBounds_toArray, List.set_cons_zero, List.set_cons_succ]
        refine wpAnyH_take (i := 7) (oi := { dst := some 22, op := Go.Op.move (Go.Operand.tmp 21), type := 4, pos := "l13_sell.go:68", after := #[{ on := 6, ground := Go.Ground.data }, { on := 4, ground := Go.Ground.chain }, { on := 4, ground := Go.Ground.guard }], guard := some (4, false) }) (v := undef) rfl (by kernel_rfl) (by kernel_rfl) (by kernel_rfl) (fun _ _ _ h => h) (Or.inr ⟨by rfl, rfl⟩) (by assumption) ?_
        try simp only [Act.put, List.setIfInBounds_toArray, List.set_cons_zero, List.set_cons_succ]
        refine wpAnyH_take (i := 8) (oi := { dst := some 23, op := Go.Op.load 112 (Go.Operand.tmp 4), type := 112, pos := "l13_sell.go:68", after := #[{ on := 7, ground := Go.Ground.guard }], guard := some (7, true) }) (v := undef) rfl (by kernel_rfl) (by kernel_rfl) (by kernel_rfl) (fun _ _ _ h => h) (Or.inr ⟨by rfl, rfl⟩) (by assumption) ?_
        try simp only [Act.put, List.setIfInBounds_toArray, List.set_cons_zero, List.set_cons_succ]
        refine wpAnyH_take (i := 9) (oi := { dst := some 24, op := Go.Op.makeInterface 112 (Go.Operand.tmp 23), type := 20, pos := "l13_sell.go:68", after := #[{ on := 8, ground := Go.Ground.data }, { on := 7, ground := Go.Ground.guard }], guard := some (7, true) }) (v := undef) rfl (by kernel_rfl) (by kernel_rfl) (by kernel_rfl) (fun _ _ _ h => h) (Or.inr ⟨by rfl, rfl⟩) (by assumption) ?_
        try simp only [Act.put, List.setIfInBounds_toArray, List.set_cons_zero, List.set_cons_succ]
        refine wpAnyH_take (i := 10) (oi := { dst := some 25, op := Go.Op.call { callee := Go.Callee.invoke (Go.Operand.tmp 24) "loop.example/g00040/impl.height", args := #[], argTypes := #[] }, type := 3, pos := "l13_sell.go:68", after := #[{ on := 9, ground := Go.Ground.data }, { on := 7, ground := Go.Ground.chain }, { on := 7, ground := Go.Ground.guard }], guard := some (7, true) }) (v := undef) rfl (by kernel_rfl) (by kernel_rfl) (by kernel_rfl) (fun _ _ _ h => h) (Or.inr ⟨by rfl, rfl⟩) (by assumption) ?_
        try simp only [Act.put, List.setIfInBounds_toArray, List.set_cons_zero, List.set_cons_succ]
        refine wpAnyH_take (i := 11) (oi := { dst := some 26, op := Go.Op.move (Go.Operand.tmp 0), type := 54, pos := "l13_sell.go:68", after := #[{ on := 7, ground := Go.Ground.guard }], guard := some (7, true) }) (v := undef) rfl (by kernel_rfl) (by kernel_rfl) (by kernel_rfl) (fun _ _ _ h => h) (Or.inr ⟨by rfl, rfl⟩) (by assumption) ?_
        try simp only [Act.put, List.setIfInBounds_toArray, List.set_cons_zero, List.set_cons_succ]
        refine wpAnyH_take (i := 12) (oi := { dst := some 27, op := Go.Op.move (Go.Operand.tmp 3), type := 3, pos := "l13_sell.go:68", after := #[{ on := 7, ground := Go.Ground.guard }], guard := some (7, true) }) (v := undef) rfl (by kernel_rfl) (by kernel_rfl) (by kernel_rfl) (fun _ _ _ h => h) (Or.inr ⟨by rfl, rfl⟩) (by assumption) ?_
        try simp only [Act.put, List.setIfInBounds_toArray, List.set_cons_zero, List.set_cons_succ]
        refine wpAnyH_take (i := 13) (oi := { dst := some 28, op := Go.Op.binOp Go.BinOp.sub 3 (Go.Operand.tmp 27) (Go.Operand.const (Go.Value.int Go.IntKind.i64 1)) 3, type := 3, pos := "l13_sell.go:68", after := #[{ on := 12, ground := Go.Ground.data }, { on := 7, ground := Go.Ground.guard }], guard := some (7, true) }) (v := undef) rfl (by kernel_rfl) (by kernel_rfl) (by kernel_rfl) (fun _ _ _ h => h) (Or.inr ⟨by rfl, rfl⟩) (by assumption) ?_
        try simp only [Act.put, List.setIfInBounds_toArray, List.set_cons_zero, List.set_cons_succ]
        refine wpAnyH_take (i := 14) (oi := { dst := some 29, op := Go.Op.indexAddr 54 (Go.Operand.tmp 26) (Go.Operand.tmp 28), type := 0, pos := "l13_sell.go:68", after := #[{ on := 11, ground := Go.Ground.data }, { on := 13, ground := Go.Ground.data }, { on := 7, ground := Go.Ground.guard }], guard := some (7, true) }) (v := undef) rfl (by kernel_rfl) (by kernel_rfl) (by kernel_rfl) (fun _ _ _ h => h) (Or.inr ⟨by rfl, rfl⟩) (by assumption) ?_
        try simp only [Act.put, List.setIfInBounds_toArray, List.set_cons_zero, List.set_cons_succ]
        refine wpAnyH_take (i := 15) (oi := { dst := some 30, op := Go.Op.load 112 (Go.Operand.tmp 29), type := 112, pos := "l13_sell.go:68", after := #[{ on := 14, ground := Go.Ground.data }, { on := 7, ground := Go.Ground.guard }], guard := some (7, true) }) (v := undef) rfl (by kernel_rfl) (by kernel_rfl) (by kernel_rfl) (fun _ _ _ h => h) (Or.inr ⟨by rfl, rfl⟩) (by assumption) ?_
        try simp only [Act.put, List.setIfInBounds_toArray, List.set_cons_zero, List.set_cons_succ]
        refine wpAnyH_take (i := 16) (oi := { dst := some 31, op := Go.Op.makeInterface 112 (Go.Operand.tmp 30), type := 20, pos := "l13_sell.go:68", after := #[{ on := 15, ground := Go.Ground.data }, { on := 7, ground := Go.Ground.guard }], guard := some (7, true) }) (v := undef) rfl (by kernel_rfl) (by kernel_rfl) (by kernel_rfl) (fun _ _ _ h => h) (Or.inr ⟨by rfl, rfl⟩) (by assumption) ?_
        try simp only [Act.put, List.setIfInBounds_toArray, List.set_cons_zero, List.set_cons_succ]
        refine wpAnyH_take (i := 17) (oi := { dst := some 32, op := Go.Op.call { callee := Go.Callee.invoke (Go.Operand.tmp 31) "loop.example/g00040/impl.height", args := #[], argTypes := #[] }, type := 3, pos := "l13_sell.go:68", after := #[{ on := 16, ground := Go.Ground.data }, { on := 10, ground := Go.Ground.chain }, { on := 7, ground := Go.Ground.guard }], guard := some (7, true) }) (v := undef) rfl (by kernel_rfl) (by kernel_rfl) (by kernel_rfl) (fun _ _ _ h => h) (Or.inr ⟨by rfl, rfl⟩) (by assumption) ?_
        try simp only [Act.put, List.setIfInBounds_toArray, List.set_cons_zero, List.set_cons_succ]
        refine wpAnyH_take (i := 18) (oi := { dst := some 33, op := Go.Op.binOp Go.BinOp.leq 3 (Go.Operand.tmp 25) (Go.Operand.tmp 32) 3, type := 4, pos := "l13_sell.go:68", after := #[{ on := 10, ground := Go.Ground.data }, { on := 17, ground := Go.Ground.data }, { on := 7, ground := Go.Ground.guard }], guard := some (7, true) }) (v := undef) rfl (by kernel_rfl) (by kernel_rfl) (by kernel_rfl) (fun _ _ _ h => h) (Or.inr ⟨by rfl, rfl⟩) (by assumption) ?_
        try simp only [Act.put, List.setIfInBounds_toArray, List.set_cons_zero, List.set_cons_succ]
        refine wpAnyH_take (i := 19) (oi := { dst := some 34, op := Go.Op.pick (Go.Operand.tmp 22) (Go.Operand.tmp 33) (Go.Operand.const (Go.Value.bool false)), type := 4, pos := "l13_sell.go:68", after := #[{ on := 7, ground := Go.Ground.data }, { on := 18, ground := Go.Ground.data }, { on := 4, ground := Go.Ground.guard }], guard := some (4, false) }) (v := undef) rfl (by kernel_rfl) (by kernel_rfl) (by kernel_rfl) (fun _ _ _ h => h) (Or.inr ⟨by rfl, rfl⟩) (by assumption) ?_
        try simp only [Act.put, List.setIfInBounds_toArray, List.set_cons_zero, List.set_cons_succ]
        refine wpAnyH_take (i := 20) (oi := { dst := some 35, op := Go.Op.pick (Go.Operand.tmp 19) (Go.Operand.const (Go.Value.bool true)) (Go.Operand.tmp 34), type := 4, pos := "l13_sell.go:68", after := #[{ on := 4, ground := Go.Ground.data }, { on := 19, ground := Go.Ground.data }], guard := none }) (v := ?_) rfl (by kernel_rfl) (by kernel_rfl) (by kernel_rfl) (fun _ _ _ h => h) (Or.inl ⟨by rfl, ?_⟩) (by assumption) ?_
        rotate_left
        · (intro w hSw; (try dsimp only at hSw); go_simp <;> try with_reducible rfl)
        try simp only [Act.put, List.setIfInBounds_toArray, List.set_cons_zero, List.set_cons_succ]
        refine wpAnyH_done (by kernel_rfl) ?_ _
        refine NoPanic.normal ?_
        clear hHeld
        have HB2 : Hid (Below w.heap.size w _) := hid (Q2.2.2)
        go_wp2
        go_returns
        exact ⟨ret_bool HV.out.symm, HB2.out⟩
      by_cases h0 : k = 0
      · have HG : Hid (∀ j, j < k + 1 → rlOk z j = true) := hid (rl_step HH.out.1 (by subst h0; exact rl_0 HX.out hq))
        have hz1 : decide (0 < k) = false := by simp [h0]
        have hz2 : decide ((0 : Int) < (k : Int)) = false := by simp [h0]
        clear h0
        refine wp_region_noPanic ?_
        refine wp_region_held_drew (S := fun w' => (w'.cell? ⟨wo.heap.size, 0, none⟩ = some (.int .i64 from_)) ∧ (w'.cell? ⟨wo.heap.size, 1, none⟩ = some (.int .i64 rate)) ∧ Below w.heap.size w w') (by kernel_rfl) (by exact ⟨c0, c1, hBd⟩) (fun hHeld => ?_)
        refine wpAnyH_take (i := 0) (oi := { dst := some 15, op := Go.Op.load 112 (Go.Operand.tmp 4), type := 112, pos := "l13_sell.go:68", after := #[], guard := none }) (v := ?_) rfl (by kernel_rfl) (by kernel_rfl) (by kernel_rfl) (fun _ _ _ h => h) (Or.inl ⟨by rfl, ?_⟩) (by assumption) ?_
        rotate_left
        · (intro w hSw; (try dsimp only at hSw); go_simp <;> try with_reducible rfl)
        try simp only [Act.put, List.setIfInBounds_toArray, List.set_cons_zero, List.set_cons_succ]
        refine wpAnyH_take (i := 1) (oi := { dst := some 16, op := Go.Op.makeInterface 112 (Go.Operand.tmp 15), type := 20, pos := "l13_sell.go:68", after := #[{ on := 0, ground := Go.Ground.data }], guard := none }) (v := ?_) rfl (by kernel_rfl) (by kernel_rfl) (by kernel_rfl) (fun _ _ _ h => h) (Or.inl ⟨by rfl, ?_⟩) (by assumption) ?_
        rotate_left
        · (intro w hSw; (try dsimp only at hSw); go_simp <;> try with_reducible rfl)
        try simp only [Act.put, List.setIfInBounds_toArray, List.set_cons_zero, List.set_cons_succ]
        refine wpAnyH_ready (rs := [2]) (by kernel_rfl) (by simp) ?_
        refine AllReadyH.cons (o := { dst := some 17, op := Go.Op.call { callee := Go.Callee.invoke (Go.Operand.tmp 16) "loop.example/g00040/impl.isRight", args := #[], argTypes := #[] }, type := 4, pos := "l13_sell.go:68", after := #[{ on := 1, ground := Go.Ground.data }], guard := none }) rfl (fun K hK => ?_) (AllReadyH.nil)
        go_simp
        refine (rlRight_eq from_ rate true _ hq).mono ?_
        rintro e w2 ⟨rfl, b2⟩
        have Q2 : (w2.cell? ⟨wo.heap.size, 0, none⟩ = some (.int .i64 from_)) ∧ (w2.cell? ⟨wo.heap.size, 1, none⟩ = some (.int .i64 rate)) ∧ Below w.heap.size w w2 := ⟨keep_cell b2 hHeld.1, keep_cell b2 hHeld.2.1, bel_on hHeld.2.2 b2⟩
        clear b2
        first | refine hK.out _ _ (by exact Q2) (fun hHeld => ?_) | (go_wp2_with fail; refine hK.out _ _ (by exact Q2) (fun hHeld => ?_))
        clear hK K
        try simp only [Act.put, List.setIfInBounds_toArray, List.set_cons_zero, List.set_cons_succ]
        refine wpAnyH_take (i := 3) (oi := { dst := some 18, op := Go.Op.unOp Go.UnOp.not 4 (Go.Operand.tmp 17), type := 4, pos := "l13_sell.go:68", after := #[{ on := 2, ground := Go.Ground.data }], guard := none }) (v := ?_) rfl (by kernel_rfl) (by kernel_rfl) (by kernel_rfl) (fun _ _ _ h => h) (Or.inl ⟨by rfl, ?_⟩) (by assumption) ?_
        rotate_left
        · (intro w hSw; (try dsimp only at hSw); go_simp <;> try with_reducible rfl)
        try simp only [Act.put, List.setIfInBounds_toArray, List.set_cons_zero, List.set_cons_succ]
        refine wpAnyH_take (i := 4) (oi := { dst := some 19, op := Go.Op.move (Go.Operand.tmp 18), type := 4, pos := "l13_sell.go:68", after := #[{ on := 3, ground := Go.Ground.data }, { on := 2, ground := Go.Ground.chain }], guard := none }) (v := ?_) rfl (by kernel_rfl) (by kernel_rfl) (by kernel_rfl) (fun _ _ _ h => h) (Or.inl ⟨by rfl, ?_⟩) (by assumption) ?_
        rotate_left
        · (intro w hSw; (try dsimp only at hSw); go_simp <;> try with_reducible rfl)
        try simp only [Act.put, List.setIfInBounds_toArray, List.set_cons_zero, List.set_cons_succ]
        refine wpAnyH_take (i := 5) (oi := { dst := some 20, op := Go.Op.move (Go.Operand.tmp 3), type := 3, pos := "l13_sell.go:68", after := #[{ on := 4, ground := Go.Ground.guard }], guard := some (4, false) }) (v := ?_) rfl (by kernel_rfl) (by kernel_rfl) (by kernel_rfl) (fun _ _ _ h => h) (Or.inl ⟨by rfl, ?_⟩) (by assumption) ?_
        rotate_left
        · (intro w hSw; (try dsimp only at hSw); go_simp <;> try with_reducible rfl)
        try simp only [Act.put, List.setIfInBounds_toArray, List.set_cons_zero, List.set_cons_succ]
        refine wpAnyH_take (i := 6) (oi := { dst := some 21, op := Go.Op.binOp Go.BinOp.gtr 3 (Go.Operand.tmp 20) (Go.Operand.const (Go.Value.int Go.IntKind.i64 0)) 3, type := 4, pos := "l13_sell.go:68", after := #[{ on := 5, ground := Go.Ground.data }, { on := 4, ground := Go.Ground.guard }], guard := some (4, false) }) (v := ?_) rfl (by kernel_rfl) (by kernel_rfl) (by kernel_rfl) (fun _ _ _ h => h) (Or.inl ⟨by rfl, ?_⟩) (by assumption) ?_
        rotate_left
        · (intro w hSw; (try dsimp only at hSw); go_simp <;> try with_reducible rfl)
        try simp only [Act.put, List.setIfInBounds_toArray, List.set_cons_zero, List.set_cons_succ]
        refine wpAnyH_take (i := 7) (oi := { dst := some 22, op := Go.Op.move (Go.Operand.tmp 21), type := 4, pos := "l13_sell.go:68", after := #[{ on := 6, ground := Go.Ground.data }, { on := 4, ground := Go.Ground.chain }, { on := 4, ground := Go.Ground.guard }], guard := some (4, false) }) (v := ?_) rfl (by kernel_rfl) (by kernel_rfl) (by kernel_rfl) (fun _ _ _ h => h) (Or.inl ⟨by rfl, ?_⟩) (by assumption) ?_
        rotate_left
        · (intro w hSw; (try dsimp only at hSw); go_simp <;> try with_reducible rfl)
        try simp only [Act.put, List.setIfInBounds_toArray, List.set_cons_zero, List.set_cons_succ]
        refine wpAnyH_take (i := 8) (oi := { dst := some 23, op := Go.Op.load 112 (Go.Operand.tmp 4), type := 112, pos := "l13_sell.go:68", after := #[{ on := 7, ground := Go.Ground.guard }], guard := some (7, true) }) (v := undef) rfl (by kernel_rfl) (by kernel_rfl) (by kernel_rfl) (fun _ _ _ h => h) (Or.inr ⟨by rfl, rfl⟩) (by assumption) ?_
        try simp only [Act.put, List.setIfInBounds_toArray, List.set_cons_zero, List.set_cons_succ]
        refine wpAnyH_take (i := 9) (oi := { dst := some 24, op := Go.Op.makeInterface 112 (Go.Operand.tmp 23), type := 20, pos := "l13_sell.go:68", after := #[{ on := 8, ground := Go.Ground.data }, { on := 7, ground := Go.Ground.guard }], guard := some (7, true) }) (v := undef) rfl (by kernel_rfl) (by kernel_rfl) (by kernel_rfl) (fun _ _ _ h => h) (Or.inr ⟨by rfl, rfl⟩) (by assumption) ?_
        try simp only [Act.put, List.setIfInBounds_toArray, List.set_cons_zero, List.set_cons_succ]
        refine wpAnyH_take (i := 10) (oi := { dst := some 25, op := Go.Op.call { callee := Go.Callee.invoke (Go.Operand.tmp 24) "loop.example/g00040/impl.height", args := #[], argTypes := #[] }, type := 3, pos := "l13_sell.go:68", after := #[{ on := 9, ground := Go.Ground.data }, { on := 7, ground := Go.Ground.chain }, { on := 7, ground := Go.Ground.guard }], guard := some (7, true) }) (v := undef) rfl (by kernel_rfl) (by kernel_rfl) (by kernel_rfl) (fun _ _ _ h => h) (Or.inr ⟨by rfl, rfl⟩) (by assumption) ?_
        try simp only [Act.put, List.setIfInBounds_toArray, List.set_cons_zero, List.set_cons_succ]
        refine wpAnyH_take (i := 11) (oi := { dst := some 26, op := Go.Op.move (Go.Operand.tmp 0), type := 54, pos := "l13_sell.go:68", after := #[{ on := 7, ground := Go.Ground.guard }], guard := some (7, true) }) (v := undef) rfl (by kernel_rfl) (by kernel_rfl) (by kernel_rfl) (fun _ _ _ h => h) (Or.inr ⟨by rfl, rfl⟩) (by assumption) ?_
        try simp only [Act.put, List.setIfInBounds_toArray, List.set_cons_zero, List.set_cons_succ]
        refine wpAnyH_take (i := 12) (oi := { dst := some 27, op := Go.Op.move (Go.Operand.tmp 3), type := 3, pos := "l13_sell.go:68", after := #[{ on := 7, ground := Go.Ground.guard }], guard := some (7, true) }) (v := undef) rfl (by kernel_rfl) (by kernel_rfl) (by kernel_rfl) (fun _ _ _ h => h) (Or.inr ⟨by rfl, rfl⟩) (by assumption) ?_
        try simp only [Act.put, List.setIfInBounds_toArray, List.set_cons_zero, List.set_cons_succ]
        refine wpAnyH_take (i := 13) (oi := { dst := some 28, op := Go.Op.binOp Go.BinOp.sub 3 (Go.Operand.tmp 27) (Go.Operand.const (Go.Value.int Go.IntKind.i64 1)) 3, type := 3, pos := "l13_sell.go:68", after := #[{ on := 12, ground := Go.Ground.data }, { on := 7, ground := Go.Ground.guard }], guard := some (7, true) }) (v := undef) rfl (by kernel_rfl) (by kernel_rfl) (by kernel_rfl) (fun _ _ _ h => h) (Or.inr ⟨by rfl, rfl⟩) (by assumption) ?_
        try simp only [Act.put, List.setIfInBounds_toArray, List.set_cons_zero, List.set_cons_succ]
        refine wpAnyH_take (i := 14) (oi := { dst := some 29, op := Go.Op.indexAddr 54 (Go.Operand.tmp 26) (Go.Operand.tmp 28), type := 0, pos := "l13_sell.go:68", after := #[{ on := 11, ground := Go.Ground.data }, { on := 13, ground := Go.Ground.data }, { on := 7, ground := Go.Ground.guard }], guard := some (7, true) }) (v := undef) rfl (by kernel_rfl) (by kernel_rfl) (by kernel_rfl) (fun _ _ _ h => h) (Or.inr ⟨by rfl, rfl⟩) (by assumption) ?_
        try simp only [Act.put, List.setIfInBounds_toArray, List.set_cons_zero, List.set_cons_succ]
        refine wpAnyH_take (i := 15) (oi := { dst := some 30, op := Go.Op.load 112 (Go.Operand.tmp 29), type := 112, pos := "l13_sell.go:68", after := #[{ on := 14, ground := Go.Ground.data }, { on := 7, ground := Go.Ground.guard }], guard := some (7, true) }) (v := undef) rfl (by kernel_rfl) (by kernel_rfl) (by kernel_rfl) (fun _ _ _ h => h) (Or.inr ⟨by rfl, rfl⟩) (by assumption) ?_
        try simp only [Act.put, List.setIfInBounds_toArray, List.set_cons_zero, List.set_cons_succ]
        refine wpAnyH_take (i := 16) (oi := { dst := some 31, op := Go.Op.makeInterface 112 (Go.Operand.tmp 30), type := 20, pos := "l13_sell.go:68", after := #[{ on := 15, ground := Go.Ground.data }, { on := 7, ground := Go.Ground.guard }], guard := some (7, true) }) (v := undef) rfl (by kernel_rfl) (by kernel_rfl) (by kernel_rfl) (fun _ _ _ h => h) (Or.inr ⟨by rfl, rfl⟩) (by assumption) ?_
        try simp only [Act.put, List.setIfInBounds_toArray, List.set_cons_zero, List.set_cons_succ]
        refine wpAnyH_take (i := 17) (oi := { dst := some 32, op := Go.Op.call { callee := Go.Callee.invoke (Go.Operand.tmp 31) "loop.example/g00040/impl.height", args := #[], argTypes := #[] }, type := 3, pos := "l13_sell.go:68", after := #[{ on := 16, ground := Go.Ground.data }, { on := 10, ground := Go.Ground.chain }, { on := 7, ground := Go.Ground.guard }], guard := some (7, true) }) (v := undef) rfl (by kernel_rfl) (by kernel_rfl) (by kernel_rfl) (fun _ _ _ h => h) (Or.inr ⟨by rfl, rfl⟩) (by assumption) ?_
        try simp only [Act.put, List.setIfInBounds_toArray, List.set_cons_zero, List.set_cons_succ]
        refine wpAnyH_take (i := 18) (oi := { dst := some 33, op := Go.Op.binOp Go.BinOp.leq 3 (Go.Operand.tmp 25) (Go.Operand.tmp 32) 3, type := 4, pos := "l13_sell.go:68", after := #[{ on := 10, ground := Go.Ground.data }, { on := 17, ground := Go.Ground.data }, { on := 7, ground := Go.Ground.guard }], guard := some (7, true) }) (v := undef) rfl (by kernel_rfl) (by kernel_rfl) (by kernel_rfl) (fun _ _ _ h => h) (Or.inr ⟨by rfl, rfl⟩) (by assumption) ?_
        try simp only [Act.put, List.setIfInBounds_toArray, List.set_cons_zero, List.set_cons_succ]
        refine wpAnyH_take (i := 19) (oi := { dst := some 34, op := Go.Op.pick (Go.Operand.tmp 22) (Go.Operand.tmp 33) (Go.Operand.const (Go.Value.bool false)), type := 4, pos := "l13_sell.go:68", after := #[{ on := 7, ground := Go.Ground.data }, { on := 18, ground := Go.Ground.data }, { on := 4, ground := Go.Ground.guard }], guard := some (4, false) }) (v := ?_) rfl (by kernel_rfl) (by kernel_rfl) (by kernel_rfl) (fun _ _ _ h => h) (Or.inl ⟨by rfl, ?_⟩) (by assumption) ?_
        rotate_left
        · (intro w hSw; (try dsimp only at hSw); go_simp <;> try with_reducible rfl)
        try simp only [Act.put, List.setIfInBounds_toArray, List.set_cons_zero, List.set_cons_succ]
        refine wpAnyH_take (i := 20) (oi := { dst := some 35, op := Go.Op.pick (Go.Operand.tmp 19) (Go.Operand.const (Go.Value.bool true)) (Go.Operand.tmp 34), type := 4, pos := "l13_sell.go:68", after := #[{ on := 4, ground := Go.Ground.data }, { on := 19, ground := Go.Ground.data }], guard := none }) (v := ?_) rfl (by kernel_rfl) (by kernel_rfl) (by kernel_rfl) (fun _ _ _ h => h) (Or.inl ⟨by rfl, ?_⟩) (by assumption) ?_
        rotate_left
        · (intro w hSw; (try dsimp only at hSw); go_simp <;> try with_reducible rfl)
        try simp only [Act.put, List.setIfInBounds_toArray, List.set_cons_zero, List.set_cons_succ]
        refine wpAnyH_done (by kernel_rfl) ?_ _
        refine NoPanic.normal ?_
        clear hHeld
        have HB2 : Hid (Below w.heap.size w _) := hid (Q2.2.2)
        go_wp2
        go_roundw
        case rel => exact ⟨k + 1, by omega, by go_num, HG.out, HB2.out⟩
        case measure => simp [intOf]; omega
      obtain ⟨m, hm⟩ : ∃ m, k = m + 1 := ⟨k - 1, by omega⟩
      have HM : Hid (k = m + 1) := hm
      have hwm : IntKind.i64.wrap ((k : Int) - 1) = (m : Int) := by rw [show (k : Int) - 1 = (m : Int) by omega]; exact IntWalk.i64_in _ ⟨by omega, by omega⟩
      have hz1 : decide (0 < k) = true := by simp; omega
      have hz2 : decide ((0 : Int) < (k : Int)) = true := by simp; omega
      have hmn : (m : Int) < (n : Int) := by omega
      have hm0 : (0 : Int) ≤ (m : Int) := by omega
      have D := (HR.out.below hBd).cell (j := m) (by omega)
      obtain ⟨y, hy⟩ : ∃ y, z m = y := ⟨_, rfl⟩
      rw [hy] at D
      have HY : Hid (z m = y) := hy
      obtain ⟨y0, y1⟩ := y
      obtain ⟨d0, d1⟩ := D
      simp only at d0 d1
      clear hy hm h0
      have hnbheight : ∀ w, (nilAhead 265 112 (.agg #[.int .i64 y0, .int .i64 y1]) "loop.example/g00040/impl.height").run Try.prog w = .ok (some false) w := fun w => by kernel_rfl
      have hmbheight : ∀ w, (method 265 112 (.agg #[.int .i64 y0, .int .i64 y1]) "loop.example/g00040/impl.height").run Try.prog w = .ok (150, .agg #[.int .i64 y0, .int .i64 y1]) w := fun w => by kernel_rfl
      by_cases hfg : from_ ≤ y0
      · have HV : Hid (rlB n z = false) := hid (rlB_bad hlt (rl_o HX.out HM.out (by rw [HY.out]; exact hfg)))
        have hd : decide (from_ ≤ y0) = true := decide_eq_true hfg
        refine wp_region_noPanic ?_
        refine wp_region_held_drew (S := fun w' => (w'.cell? ⟨wo.heap.size, 0, none⟩ = some (.int .i64 from_)) ∧ (w'.cell? ⟨wo.heap.size, 1, none⟩ = some (.int .i64 rate)) ∧ (w'.cell? ⟨kb, off + m * 2, none⟩ = some (.int .i64 y0)) ∧ (w'.cell? ⟨kb, off + m * 2 + 1, none⟩ = some (.int .i64 y1)) ∧ Below w.heap.size w w') (by kernel_rfl) (by exact ⟨c0, c1, d0, d1, hBd⟩) (fun hHeld => ?_)
        refine wpAnyH_take (i := 0) (oi := { dst := some 15, op := Go.Op.load 112 (Go.Operand.tmp 4), type := 112, pos := "l13_sell.go:68", after := #[], guard := none }) (v := ?_) rfl (by kernel_rfl) (by kernel_rfl) (by kernel_rfl) (fun _ _ _ h => h) (Or.inl ⟨by rfl, ?_⟩) (by assumption) ?_
        rotate_left
        · (intro w hSw; (try dsimp only at hSw); go_simp <;> try with_reducible rfl)
        try simp only [Act.put, List.setIfInBounds_toArray, List.set_cons_zero, List.set_cons_succ]
        refine wpAnyH_take (i := 1) (oi := { dst := some 16, op := Go.Op.makeInterface 112 (Go.Operand.tmp 15), type := 20, pos := "l13_sell.go:68", after := #[{ on := 0, ground := Go.Ground.data }], guard := none }) (v := ?_) rfl (by kernel_rfl) (by kernel_rfl) (by kernel_rfl) (fun _ _ _ h => h) (Or.inl ⟨by rfl, ?_⟩) (by assumption) ?_
        rotate_left
        · (intro w hSw; (try dsimp only at hSw); go_simp <;> try with_reducible rfl)
        try simp only [Act.put, List.setIfInBounds_toArray, List.set_cons_zero, List.set_cons_succ]
        refine wpAnyH_ready (rs := [2]) (by kernel_rfl) (by simp) ?_
        refine AllReadyH.cons (o := { dst := some 17, op := Go.Op.call { callee := Go.Callee.invoke (Go.Operand.tmp 16) "loop.example/g00040/impl.isRight", args := #[], argTypes := #[] }, type := 4, pos := "l13_sell.go:68", after := #[{ on := 1, ground := Go.Ground.data }], guard := none }) rfl (fun K hK => ?_) (AllReadyH.nil)
        go_simp
        refine (rlRight_eq from_ rate true _ hq).mono ?_
        rintro e w2 ⟨rfl, b2⟩
        have Q2 : (w2.cell? ⟨wo.heap.size, 0, none⟩ = some (.int .i64 from_)) ∧ (w2.cell? ⟨wo.heap.size, 1, none⟩ = some (.int .i64 rate)) ∧ (w2.cell? ⟨kb, off + m * 2, none⟩ = some (.int .i64 y0)) ∧ (w2.cell? ⟨kb, off + m * 2 + 1, none⟩ = some (.int .i64 y1)) ∧ Below w.heap.size w w2 := ⟨keep_cell b2 hHeld.1, keep_cell b2 hHeld.2.1, keep_cell b2 hHeld.2.2.1, keep_cell b2 hHeld.2.2.2.1, bel_on hHeld.2.2.2.2 b2⟩
        clear b2
        first | refine hK.out _ _ (by exact Q2) (fun hHeld => ?_) | (go_wp2_with fail; refine hK.out _ _ (by exact Q2) (fun hHeld => ?_))
        clear hK K
        try simp only [Act.put, List.setIfInBounds_toArray, List.set_cons_zero, List.set_cons_succ]
        refine wpAnyH_take (i := 3) (oi := { dst := some 18, op := Go.Op.unOp Go.UnOp.not 4 (Go.Operand.tmp 17), type := 4, pos := "l13_sell.go:68", after := #[{ on := 2, ground := Go.Ground.data }], guard := none }) (v := ?_) rfl (by kernel_rfl) (by kernel_rfl) (by kernel_rfl) (fun _ _ _ h => h) (Or.inl ⟨by rfl, ?_⟩) (by assumption) ?_
        rotate_left
        · (intro w hSw; (try dsimp only at hSw); go_simp <;> try with_reducible rfl)
        try simp only [Act.put, List.setIfInBounds_toArray, List.set_cons_zero, List.set_cons_succ]
        refine wpAnyH_take (i := 4) (oi := { dst := some 19, op := Go.Op.move (Go.Operand.tmp 18), type := 4, pos := "l13_sell.go:68", after := #[{ on := 3, ground := Go.Ground.data }, { on := 2, ground := Go.Ground.chain }], guard := none }) (v := ?_) rfl (by kernel_rfl) (by kernel_rfl) (by kernel_rfl) (fun _ _ _ h => h) (Or.inl ⟨by rfl, ?_⟩) (by assumption) ?_
        rotate_left
        · (intro w hSw; (try dsimp only at hSw); go_simp <;> try with_reducible rfl)
        try simp only [Act.put, List.setIfInBounds_toArray, List.set_cons_zero, List.set_cons_succ]
        refine wpAnyH_take (i := 5) (oi := { dst := some 20, op := Go.Op.move (Go.Operand.tmp 3), type := 3, pos := "l13_sell.go:68", after := #[{ on := 4, ground := Go.Ground.guard }], guard := some (4, false) }) (v := ?_) rfl (by kernel_rfl) (by kernel_rfl) (by kernel_rfl) (fun _ _ _ h => h) (Or.inl ⟨by rfl, ?_⟩) (by assumption) ?_
        rotate_left
        · (intro w hSw; (try dsimp only at hSw); go_simp <;> try with_reducible rfl)
        try simp only [Act.put, List.setIfInBounds_toArray, List.set_cons_zero, List.set_cons_succ]
        refine wpAnyH_take (i := 6) (oi := { dst := some 21, op := Go.Op.binOp Go.BinOp.gtr 3 (Go.Operand.tmp 20) (Go.Operand.const (Go.Value.int Go.IntKind.i64 0)) 3, type := 4, pos := "l13_sell.go:68", after := #[{ on := 5, ground := Go.Ground.data }, { on := 4, ground := Go.Ground.guard }], guard := some (4, false) }) (v := ?_) rfl (by kernel_rfl) (by kernel_rfl) (by kernel_rfl) (fun _ _ _ h => h) (Or.inl ⟨by rfl, ?_⟩) (by assumption) ?_
        rotate_left
        · (intro w hSw; (try dsimp only at hSw); go_simp <;> try with_reducible rfl)
        try simp only [Act.put, List.setIfInBounds_toArray, List.set_cons_zero, List.set_cons_succ]
        refine wpAnyH_take (i := 7) (oi := { dst := some 22, op := Go.Op.move (Go.Operand.tmp 21), type := 4, pos := "l13_sell.go:68", after := #[{ on := 6, ground := Go.Ground.data }, { on := 4, ground := Go.Ground.chain }, { on := 4, ground := Go.Ground.guard }], guard := some (4, false) }) (v := ?_) rfl (by kernel_rfl) (by kernel_rfl) (by kernel_rfl) (fun _ _ _ h => h) (Or.inl ⟨by rfl, ?_⟩) (by assumption) ?_
        rotate_left
        · (intro w hSw; (try dsimp only at hSw); go_simp <;> try with_reducible rfl)
        try simp only [Act.put, List.setIfInBounds_toArray, List.set_cons_zero, List.set_cons_succ]
        refine wpAnyH_take (i := 8) (oi := { dst := some 23, op := Go.Op.load 112 (Go.Operand.tmp 4), type := 112, pos := "l13_sell.go:68", after := #[{ on := 7, ground := Go.Ground.guard }], guard := some (7, true) }) (v := ?_) rfl (by kernel_rfl) (by kernel_rfl) (by kernel_rfl) (fun _ _ _ h => h) (Or.inl ⟨by rfl, ?_⟩) (by assumption) ?_
        rotate_left
        · (intro w hSw; (try dsimp only at hSw); go_simp <;> try with_reducible rfl)
        try simp only [Act.put, List.setIfInBounds_toArray, List.set_cons_zero, List.set_cons_succ]
        refine wpAnyH_take (i := 9) (oi := { dst := some 24, op := Go.Op.makeInterface 112 (Go.Operand.tmp 23), type := 20, pos := "l13_sell.go:68", after := #[{ on := 8, ground := Go.Ground.data }, { on := 7, ground := Go.Ground.guard }], guard := some (7, true) }) (v := ?_) rfl (by kernel_rfl) (by kernel_rfl) (by kernel_rfl) (fun _ _ _ h => h) (Or.inl ⟨by rfl, ?_⟩) (by assumption) ?_
        rotate_left
        · (intro w hSw; (try dsimp only at hSw); go_simp <;> try with_reducible rfl)
        try simp only [Act.put, List.setIfInBounds_toArray, List.set_cons_zero, List.set_cons_succ]
        refine wpAnyH_take (i := 11) (oi := { dst := some 26, op := Go.Op.move (Go.Operand.tmp 0), type := 54, pos := "l13_sell.go:68", after := #[{ on := 7, ground := Go.Ground.guard }], guard := some (7, true) }) (v := ?_) rfl (by kernel_rfl) (by kernel_rfl) (by kernel_rfl) (fun _ _ _ h => h) (Or.inl ⟨by rfl, ?_⟩) (by assumption) ?_
        rotate_left
        · (intro w hSw; (try dsimp only at hSw); go_simp <;> try with_reducible rfl)
        try simp only [Act.put, List.setIfInBounds_toArray, List.set_cons_zero, List.set_cons_succ]
        refine wpAnyH_take (i := 12) (oi := { dst := some 27, op := Go.Op.move (Go.Operand.tmp 3), type := 3, pos := "l13_sell.go:68", after := #[{ on := 7, ground := Go.Ground.guard }], guard := some (7, true) }) (v := ?_) rfl (by kernel_rfl) (by kernel_rfl) (by kernel_rfl) (fun _ _ _ h => h) (Or.inl ⟨by rfl, ?_⟩) (by assumption) ?_
        rotate_left
        · (intro w hSw; (try dsimp only at hSw); go_simp <;> try with_reducible rfl)
        try simp only [Act.put, List.setIfInBounds_toArray, List.set_cons_zero, List.set_cons_succ]
        refine wpAnyH_take (i := 13) (oi := { dst := some 28, op := Go.Op.binOp Go.BinOp.sub 3 (Go.Operand.tmp 27) (Go.Operand.const (Go.Value.int Go.IntKind.i64 1)) 3, type := 3, pos := "l13_sell.go:68", after := #[{ on := 12, ground := Go.Ground.data }, { on := 7, ground := Go.Ground.guard }], guard := some (7, true) }) (v := ?_) rfl (by kernel_rfl) (by kernel_rfl) (by kernel_rfl) (fun _ _ _ h => h) (Or.inl ⟨by rfl, ?_⟩) (by assumption) ?_
        rotate_left
        · (intro w hSw; (try dsimp only at hSw); go_simp <;> try with_reducible rfl)
        try simp only [Act.put, List.setIfInBounds_toArray, List.set_cons_zero, List.set_cons_succ]
        refine wpAnyH_take (i := 14) (oi := { dst := some 29, op := Go.Op.indexAddr 54 (Go.Operand.tmp 26) (Go.Operand.tmp 28), type := 0, pos := "l13_sell.go:68", after := #[{ on := 11, ground := Go.Ground.data }, { on := 13, ground := Go.Ground.data }, { on := 7, ground := Go.Ground.guard }], guard := some (7, true) }) (v := ?_) rfl (by kernel_rfl) (by kernel_rfl) (by kernel_rfl) (fun _ _ _ h => h) (Or.inl ⟨by rfl, ?_⟩) (by assumption) ?_
        rotate_left
        · (intro w hSw; (try dsimp only at hSw); go_simp <;> try with_reducible rfl)
        try simp only [Act.put, List.setIfInBounds_toArray, List.set_cons_zero, List.set_cons_succ]
        refine wpAnyH_take (i := 15) (oi := { dst := some 30, op := Go.Op.load 112 (Go.Operand.tmp 29), type := 112, pos := "l13_sell.go:68", after := #[{ on := 14, ground := Go.Ground.data }, { on := 7, ground := Go.Ground.guard }], guard := some (7, true) }) (v := ?_) rfl (by kernel_rfl) (by kernel_rfl) (by kernel_rfl) (fun _ _ _ h => h) (Or.inl ⟨by rfl, ?_⟩) (by assumption) ?_
        rotate_left
        · (intro w hSw; (try dsimp only at hSw); go_simp <;> try with_reducible rfl)
        try simp only [Act.put, List.setIfInBounds_toArray, List.set_cons_zero, List.set_cons_succ]
        refine wpAnyH_take (i := 16) (oi := { dst := some 31, op := Go.Op.makeInterface 112 (Go.Operand.tmp 30), type := 20, pos := "l13_sell.go:68", after := #[{ on := 15, ground := Go.Ground.data }, { on := 7, ground := Go.Ground.guard }], guard := some (7, true) }) (v := ?_) rfl (by kernel_rfl) (by kernel_rfl) (by kernel_rfl) (fun _ _ _ h => h) (Or.inl ⟨by rfl, ?_⟩) (by assumption) ?_
        rotate_left
        · (intro w hSw; (try dsimp only at hSw); go_simp <;> try with_reducible rfl)
        try simp only [Act.put, List.setIfInBounds_toArray, List.set_cons_zero, List.set_cons_succ]
        refine wpAnyH_ready (rs := [10]) (by kernel_rfl) (by simp) ?_
        refine AllReadyH.cons (o := { dst := some 25, op := Go.Op.call { callee := Go.Callee.invoke (Go.Operand.tmp 24) "loop.example/g00040/impl.height", args := #[], argTypes := #[] }, type := 3, pos := "l13_sell.go:68", after := #[{ on := 9, ground := Go.Ground.data }, { on := 7, ground := Go.Ground.chain }, { on := 7, ground := Go.Ground.guard }], guard := some (7, true) }) rfl (fun K hK => ?_) (AllReadyH.nil)
        go_simp
        refine (rlHeight_any from_ rate _).mono ?_
        rintro e w3 ⟨rfl, b3⟩
        have Q3 : (w3.cell? ⟨wo.heap.size, 0, none⟩ = some (.int .i64 from_)) ∧ (w3.cell? ⟨wo.heap.size, 1, none⟩ = some (.int .i64 rate)) ∧ (w3.cell? ⟨kb, off + m * 2, none⟩ = some (.int .i64 y0)) ∧ (w3.cell? ⟨kb, off + m * 2 + 1, none⟩ = some (.int .i64 y1)) ∧ Below w.heap.size w w3 := ⟨keep_cell b3 hHeld.1, keep_cell b3 hHeld.2.1, keep_cell b3 hHeld.2.2.1, keep_cell b3 hHeld.2.2.2.1, bel_on hHeld.2.2.2.2 b3⟩
        clear b3
        first | refine hK.out _ _ (by exact Q3) (fun hHeld => ?_) | (go_wp2_with fail; refine hK.out _ _ (by exact Q3) (fun hHeld => ?_))
        clear hK K
        try simp only [Act.put, List.setIfInBounds_toArray, List.set_cons_zero, List.set_cons_succ]
        refine wpAnyH_ready (rs := [17]) (by kernel_rfl) (by simp) ?_
        refine AllReadyH.cons (o := { dst := some 32, op := Go.Op.call { callee := Go.Callee.invoke (Go.Operand.tmp 31) "loop.example/g00040/impl.height", args := #[], argTypes := #[] }, type := 3, pos := "l13_sell.go:68", after := #[{ on := 16, ground := Go.Ground.data }, { on := 10, ground := Go.Ground.chain }, { on := 7, ground := Go.Ground.guard }], guard := some (7, true) }) rfl (fun K hK => ?_) (AllReadyH.nil)
        go_simp
        refine (rlHeight_any y0 y1 _).mono ?_
        rintro e w4 ⟨rfl, b4⟩
        have Q4 : (w4.cell? ⟨wo.heap.size, 0, none⟩ = some (.int .i64 from_)) ∧ (w4.cell? ⟨wo.heap.size, 1, none⟩ = some (.int .i64 rate)) ∧ (w4.cell? ⟨kb, off + m * 2, none⟩ = some (.int .i64 y0)) ∧ (w4.cell? ⟨kb, off + m * 2 + 1, none⟩ = some (.int .i64 y1)) ∧ Below w.heap.size w w4 := ⟨keep_cell b4 hHeld.1, keep_cell b4 hHeld.2.1, keep_cell b4 hHeld.2.2.1, keep_cell b4 hHeld.2.2.2.1, bel_on hHeld.2.2.2.2 b4⟩
        clear b4
        first | refine hK.out _ _ (by exact Q4) (fun hHeld => ?_) | (go_wp2_with fail; refine hK.out _ _ (by exact Q4) (fun hHeld => ?_))
        clear hK K
        try simp only [Act.put, List.setIfInBounds_toArray, List.set_cons_zero, List.set_cons_succ]
        refine wpAnyH_take (i := 18) (oi := { dst := some 33, op := Go.Op.binOp Go.BinOp.leq 3 (Go.Operand.tmp 25) (Go.Operand.tmp 32) 3, type := 4, pos := "l13_sell.go:68", after := #[{ on := 10, ground := Go.Ground.data }, { on := 17, ground := Go.Ground.data }, { on := 7, ground := Go.Ground.guard }], guard := some (7, true) }) (v := ?_) rfl (by kernel_rfl) (by kernel_rfl) (by kernel_rfl) (fun _ _ _ h => h) (Or.inl ⟨by rfl, ?_⟩) (by assumption) ?_
        rotate_left
        · (intro w hSw; (try dsimp only at hSw); go_simp <;> try with_reducible rfl)
        try simp only [Act.put, List.setIfInBounds_toArray, List.set_cons_zero, List.set_cons_succ]
        refine wpAnyH_take (i := 19) (oi := { dst := some 34, op := Go.Op.pick (Go.Operand.tmp 22) (Go.Operand.tmp 33) (Go.Operand.const (Go.Value.bool false)), type := 4, pos := "l13_sell.go:68", after := #[{ on := 7, ground := Go.Ground.data }, { on := 18, ground := Go.Ground.data }, { on := 4, ground := Go.Ground.guard }], guard := some (4, false) }) (v := ?_) rfl (by kernel_rfl) (by kernel_rfl) (by kernel_rfl) (fun _ _ _ h => h) (Or.inl ⟨by rfl, ?_⟩) (by assumption) ?_
        rotate_left
        · (intro w hSw; (try dsimp only at hSw); go_simp <;> try with_reducible rfl)
        try simp only [Act.put, List.setIfInBounds_toArray, List.set_cons_zero, List.set_cons_succ]
        refine wpAnyH_take (i := 20) (oi := { dst := some 35, op := Go.Op.pick (Go.Operand.tmp 19) (Go.Operand.const (Go.Value.bool true)) (Go.Operand.tmp 34), type := 4, pos := "l13_sell.go:68", after := #[{ on := 4, ground := Go.Ground.data }, { on := 19, ground := Go.Ground.data }], guard := none }) (v := ?_) rfl (by kernel_rfl) (by kernel_rfl) (by kernel_rfl) (fun _ _ _ h => h) (Or.inl ⟨by rfl, ?_⟩) (by assumption) ?_
        rotate_left
        · (intro w hSw; (try dsimp only at hSw); go_simp <;> try with_reducible rfl)
        try simp only [Act.put, List.setIfInBounds_toArray, List.set_cons_zero, List.set_cons_succ]
        refine wpAnyH_done (by kernel_rfl) ?_ _
        refine NoPanic.normal ?_
        clear hHeld
        have HB2 : Hid (Below w.heap.size w _) := hid (Q4.2.2.2.2)
        go_wp2
        go_returns
        exact ⟨ret_bool HV.out.symm, HB2.out⟩
      · have HG : Hid (∀ j, j < k + 1 → rlOk z j = true) := hid (rl_step HH.out.1 (rl_1 HX.out HM.out hq (by rw [HY.out]; simp only; omega)))
        have hd : decide (from_ ≤ y0) = false := decide_eq_false hfg
        clear hfg
        refine wp_region_noPanic ?_
        refine wp_region_held_drew (S := fun w' => (w'.cell? ⟨wo.heap.size, 0, none⟩ = some (.int .i64 from_)) ∧ (w'.cell? ⟨wo.heap.size, 1, none⟩ = some (.int .i64 rate)) ∧ (w'.cell? ⟨kb, off + m * 2, none⟩ = some (.int .i64 y0)) ∧ (w'.cell? ⟨kb, off + m * 2 + 1, none⟩ = some (.int .i64 y1)) ∧ Below w.heap.size w w') (by kernel_rfl) (by exact ⟨c0, c1, d0, d1, hBd⟩) (fun hHeld => ?_)
        refine wpAnyH_take (i := 0) (oi := { dst := some 15, op := Go.Op.load 112 (Go.Operand.tmp 4), type := 112, pos := "l13_sell.go:68", after := #[], guard := none }) (v := ?_) rfl (by kernel_rfl) (by kernel_rfl) (by kernel_rfl) (fun _ _ _ h => h) (Or.inl ⟨by rfl, ?_⟩) (by assumption) ?_
        rotate_left
        · (intro w hSw; (try dsimp only at hSw); go_simp <;> try with_reducible rfl)
        try simp only [Act.put, List.setIfInBounds_toArray, List.set_cons_zero, List.set_cons_succ]
        refine wpAnyH_take (i := 1) (oi := { dst := some 16, op := Go.Op.makeInterface 112 (Go.Operand.tmp 15), type := 20, pos := "l13_sell.go:68", after := #[{ on := 0, ground := Go.Ground.data }], guard := none }) (v := ?_) rfl (by kernel_rfl) (by kernel_rfl) (by kernel_rfl) (fun _ _ _ h => h) (Or.inl ⟨by rfl, ?_⟩) (by assumption) ?_
        rotate_left
        · (intro w hSw; (try dsimp only at hSw); go_simp <;> try with_reducible rfl)
        try simp only [Act.put, List.setIfInBounds_toArray, List.set_cons_zero, List.set_cons_succ]
        refine wpAnyH_ready (rs := [2]) (by kernel_rfl) (by simp) ?_
        refine AllReadyH.cons (o := { dst := some 17, op := Go.Op.call { callee := Go.Callee.invoke (Go.Operand.tmp 16) "loop.example/g00040/impl.isRight", args := #[], argTypes := #[] }, type := 4, pos := "l13_sell.go:68", after := #[{ on := 1, ground := Go.Ground.data }], guard := none }) rfl (fun K hK => ?_) (AllReadyH.nil)
        go_simp
        refine (rlRight_eq from_ rate true _ hq).mono ?_
        rintro e w2 ⟨rfl, b2⟩
        have Q2 : (w2.cell? ⟨wo.heap.size, 0, none⟩ = some (.int .i64 from_)) ∧ (w2.cell? ⟨wo.heap.size, 1, none⟩ = some (.int .i64 rate)) ∧ (w2.cell? ⟨kb, off + m * 2, none⟩ = some (.int .i64 y0)) ∧ (w2.cell? ⟨kb, off + m * 2 + 1, none⟩ = some (.int .i64 y1)) ∧ Below w.heap.size w w2 := ⟨keep_cell b2 hHeld.1, keep_cell b2 hHeld.2.1, keep_cell b2 hHeld.2.2.1, keep_cell b2 hHeld.2.2.2.1, bel_on hHeld.2.2.2.2 b2⟩
        clear b2
        first | refine hK.out _ _ (by exact Q2) (fun hHeld => ?_) | (go_wp2_with fail; refine hK.out _ _ (by exact Q2) (fun hHeld => ?_))
        clear hK K
        try simp only [Act.put, List.setIfInBounds_toArray, List.set_cons_zero, List.set_cons_succ]
        refine wpAnyH_take (i := 3) (oi := { dst := some 18, op := Go.Op.unOp Go.UnOp.not 4 (Go.Operand.tmp 17), type := 4, pos := "l13_sell.go:68", after := #[{ on := 2, ground := Go.Ground.data }], guard := none }) (v := ?_) rfl (by kernel_rfl) (by kernel_rfl) (by kernel_rfl) (fun _ _ _ h => h) (Or.inl ⟨by rfl, ?_⟩) (by assumption) ?_
        rotate_left
        · (intro w hSw; (try dsimp only at hSw); go_simp <;> try with_reducible rfl)
        try simp only [Act.put, List.setIfInBounds_toArray, List.set_cons_zero, List.set_cons_succ]
        refine wpAnyH_take (i := 4) (oi := { dst := some 19, op := Go.Op.move (Go.Operand.tmp 18), type := 4, pos := "l13_sell.go:68", after := #[{ on := 3, ground := Go.Ground.data }, { on := 2, ground := Go.Ground.chain }], guard := none }) (v := ?_) rfl (by kernel_rfl) (by kernel_rfl) (by kernel_rfl) (fun _ _ _ h => h) (Or.inl ⟨by rfl, ?_⟩) (by assumption) ?_
        rotate_left
        · (intro w hSw; (try dsimp only at hSw); go_simp <;> try with_reducible rfl)
        try simp only [Act.put, List.setIfInBounds_toArray, List.set_cons_zero, List.set_cons_succ]
        refine wpAnyH_take (i := 5) (oi := { dst := some 20, op := Go.Op.move (Go.Operand.tmp 3), type := 3, pos := "l13_sell.go:68", after := #[{ on := 4, ground := Go.Ground.guard }], guard := some (4, false) }) (v := ?_) rfl (by kernel_rfl) (by kernel_rfl) (by kernel_rfl) (fun _ _ _ h => h) (Or.inl ⟨by rfl, ?_⟩) (by assumption) ?_
        rotate_left
        · (intro w hSw; (try dsimp only at hSw); go_simp <;> try with_reducible rfl)
        try simp only [Act.put, List.setIfInBounds_toArray, List.set_cons_zero, List.set_cons_succ]
        refine wpAnyH_take (i := 6) (oi := { dst := some 21, op := Go.Op.binOp Go.BinOp.gtr 3 (Go.Operand.tmp 20) (Go.Operand.const (Go.Value.int Go.IntKind.i64 0)) 3, type := 4, pos := "l13_sell.go:68", after := #[{ on := 5, ground := Go.Ground.data }, { on := 4, ground := Go.Ground.guard }], guard := some (4, false) }) (v := ?_) rfl (by kernel_rfl) (by kernel_rfl) (by kernel_rfl) (fun _ _ _ h => h) (Or.inl ⟨by rfl, ?_⟩) (by assumption) ?_
        rotate_left
        · (intro w hSw; (try dsimp only at hSw); go_simp <;> try with_reducible rfl)
        try simp only [Act.put, List.setIfInBounds_toArray, List.set_cons_zero, List.set_cons_succ]
        refine wpAnyH_take (i := 7) (oi := { dst := some 22, op := Go.Op.move (Go.Operand.tmp 21), type := 4, pos := "l13_sell.go:68", after := #[{ on := 6, ground := Go.Ground.data }, { on := 4, ground := Go.Ground.chain }, { on := 4, ground := Go.Ground.guard }], guard := some (4, false) }) (v := ?_) rfl (by kernel_rfl) (by kernel_rfl) (by kernel_rfl) (fun _ _ _ h => h) (Or.inl ⟨by rfl, ?_⟩) (by assumption) ?_
        rotate_left
        · (intro w hSw; (try dsimp only at hSw); go_simp <;> try with_reducible rfl)
        try simp only [Act.put, List.setIfInBounds_toArray, List.set_cons_zero, List.set_cons_succ]
        refine wpAnyH_take (i := 8) (oi := { dst := some 23, op := Go.Op.load 112 (Go.Operand.tmp 4), type := 112, pos := "l13_sell.go:68", after := #[{ on := 7, ground := Go.Ground.guard }], guard := some (7, true) }) (v := ?_) rfl (by kernel_rfl) (by kernel_rfl) (by kernel_rfl) (fun _ _ _ h => h) (Or.inl ⟨by rfl, ?_⟩) (by assumption) ?_
        rotate_left
        · (intro w hSw; (try dsimp only at hSw); go_simp <;> try with_reducible rfl)
        try simp only [Act.put, List.setIfInBounds_toArray, List.set_cons_zero, List.set_cons_succ]
        refine wpAnyH_take (i := 9) (oi := { dst := some 24, op := Go.Op.makeInterface 112 (Go.Operand.tmp 23), type := 20, pos := "l13_sell.go:68", after := #[{ on := 8, ground := Go.Ground.data }, { on := 7, ground := Go.Ground.guard }], guard := some (7, true) }) (v := ?_) rfl (by kernel_rfl) (by kernel_rfl) (by kernel_rfl) (fun _ _ _ h => h) (Or.inl ⟨by rfl, ?_⟩) (by assumption) ?_
        rotate_left
        · (intro w hSw; (try dsimp only at hSw); go_simp <;> try with_reducible rfl)
        try simp only [Act.put, List.setIfInBounds_toArray, List.set_cons_zero, List.set_cons_succ]
        refine wpAnyH_take (i := 11) (oi := { dst := some 26, op := Go.Op.move (Go.Operand.tmp 0), type := 54, pos := "l13_sell.go:68", after := #[{ on := 7, ground := Go.Ground.guard }], guard := some (7, true) }) (v := ?_) rfl (by kernel_rfl) (by kernel_rfl) (by kernel_rfl) (fun _ _ _ h => h) (Or.inl ⟨by rfl, ?_⟩) (by assumption) ?_
        rotate_left
        · (intro w hSw; (try dsimp only at hSw); go_simp <;> try with_reducible rfl)
        try simp only [Act.put, List.setIfInBounds_toArray, List.set_cons_zero, List.set_cons_succ]
        refine wpAnyH_take (i := 12) (oi := { dst := some 27, op := Go.Op.move (Go.Operand.tmp 3), type := 3, pos := "l13_sell.go:68", after := #[{ on := 7, ground := Go.Ground.guard }], guard := some (7, true) }) (v := ?_) rfl (by kernel_rfl) (by kernel_rfl) (by kernel_rfl) (fun _ _ _ h => h) (Or.inl ⟨by rfl, ?_⟩) (by assumption) ?_
        rotate_left
        · (intro w hSw; (try dsimp only at hSw); go_simp <;> try with_reducible rfl)
        try simp only [Act.put, List.setIfInBounds_toArray, List.set_cons_zero, List.set_cons_succ]
        refine wpAnyH_take (i := 13) (oi := { dst := some 28, op := Go.Op.binOp Go.BinOp.sub 3 (Go.Operand.tmp 27) (Go.Operand.const (Go.Value.int Go.IntKind.i64 1)) 3, type := 3, pos := "l13_sell.go:68", after := #[{ on := 12, ground := Go.Ground.data }, { on := 7, ground := Go.Ground.guard }], guard := some (7, true) }) (v := ?_) rfl (by kernel_rfl) (by kernel_rfl) (by kernel_rfl) (fun _ _ _ h => h) (Or.inl ⟨by rfl, ?_⟩) (by assumption) ?_
        rotate_left
        · (intro w hSw; (try dsimp only at hSw); go_simp <;> try with_reducible rfl)
        try simp only [Act.put, List.setIfInBounds_toArray, List.set_cons_zero, List.set_cons_succ]
        refine wpAnyH_take (i := 14) (oi := { dst := some 29, op := Go.Op.indexAddr 54 (Go.Operand.tmp 26) (Go.Operand.tmp 28), type := 0, pos := "l13_sell.go:68", after := #[{ on := 11, ground := Go.Ground.data }, { on := 13, ground := Go.Ground.data }, { on := 7, ground := Go.Ground.guard }], guard := some (7, true) }) (v := ?_) rfl (by kernel_rfl) (by kernel_rfl) (by kernel_rfl) (fun _ _ _ h => h) (Or.inl ⟨by rfl, ?_⟩) (by assumption) ?_
        rotate_left
        · (intro w hSw; (try dsimp only at hSw); go_simp <;> try with_reducible rfl)
        try simp only [Act.put, List.setIfInBounds_toArray, List.set_cons_zero, List.set_cons_succ]
        refine wpAnyH_take (i := 15) (oi := { dst := some 30, op := Go.Op.load 112 (Go.Operand.tmp 29), type := 112, pos := "l13_sell.go:68", after := #[{ on := 14, ground := Go.Ground.data }, { on := 7, ground := Go.Ground.guard }], guard := some (7, true) }) (v := ?_) rfl (by kernel_rfl) (by kernel_rfl) (by kernel_rfl) (fun _ _ _ h => h) (Or.inl ⟨by rfl, ?_⟩) (by assumption) ?_
        rotate_left
        · (intro w hSw; (try dsimp only at hSw); go_simp <;> try with_reducible rfl)
        try simp only [Act.put, List.setIfInBounds_toArray, List.set_cons_zero, List.set_cons_succ]
        refine wpAnyH_take (i := 16) (oi := { dst := some 31, op := Go.Op.makeInterface 112 (Go.Operand.tmp 30), type := 20, pos := "l13_sell.go:68", after := #[{ on := 15, ground := Go.Ground.data }, { on := 7, ground := Go.Ground.guard }], guard := some (7, true) }) (v := ?_) rfl (by kernel_rfl) (by kernel_rfl) (by kernel_rfl) (fun _ _ _ h => h) (Or.inl ⟨by rfl, ?_⟩) (by assumption) ?_
        rotate_left
        · (intro w hSw; (try dsimp only at hSw); go_simp <;> try with_reducible rfl)
        try simp only [Act.put, List.setIfInBounds_toArray, List.set_cons_zero, List.set_cons_succ]
        refine wpAnyH_ready (rs := [10]) (by kernel_rfl) (by simp) ?_
        refine AllReadyH.cons (o := { dst := some 25, op := Go.Op.call { callee := Go.Callee.invoke (Go.Operand.tmp 24) "loop.example/g00040/impl.height", args := #[], argTypes := #[] }, type := 3, pos := "l13_sell.go:68", after := #[{ on := 9, ground := Go.Ground.data }, { on := 7, ground := Go.Ground.chain }, { on := 7, ground := Go.Ground.guard }], guard := some (7, true) }) rfl (fun K hK => ?_) (AllReadyH.nil)
        go_simp
        refine (rlHeight_any from_ rate _).mono ?_
        rintro e w3 ⟨rfl, b3⟩
        have Q3 : (w3.cell? ⟨wo.heap.size, 0, none⟩ = some (.int .i64 from_)) ∧ (w3.cell? ⟨wo.heap.size, 1, none⟩ = some (.int .i64 rate)) ∧ (w3.cell? ⟨kb, off + m * 2, none⟩ = some (.int .i64 y0)) ∧ (w3.cell? ⟨kb, off + m * 2 + 1, none⟩ = some (.int .i64 y1)) ∧ Below w.heap.size w w3 := ⟨keep_cell b3 hHeld.1, keep_cell b3 hHeld.2.1, keep_cell b3 hHeld.2.2.1, keep_cell b3 hHeld.2.2.2.1, bel_on hHeld.2.2.2.2 b3⟩
        clear b3
        first | refine hK.out _ _ (by exact Q3) (fun hHeld => ?_) | (go_wp2_with fail; refine hK.out _ _ (by exact Q3) (fun hHeld => ?_))
        clear hK K
        try simp only [Act.put, List.setIfInBounds_toArray, List.set_cons_zero, List.set_cons_succ]
        refine wpAnyH_ready (rs := [17]) (by kernel_rfl) (by simp) ?_
        refine AllReadyH.cons (o := { dst := some 32, op := Go.Op.call { callee := Go.Callee.invoke (Go.Operand.tmp 31) "loop.example/g00040/impl.height", args := #[], argTypes := #[] }, type := 3, pos := "l13_sell.go:68", after := #[{ on := 16, ground := Go.Ground.data }, { on := 10, ground := Go.Ground.chain }, { on := 7, ground := Go.Ground.guard }], guard := some (7, true) }) rfl (fun K hK => ?_) (AllReadyH.nil)
        go_simp
        refine (rlHeight_any y0 y1 _).mono ?_
        rintro e w4 ⟨rfl, b4⟩
        have Q4 : (w4.cell? ⟨wo.heap.size, 0, none⟩ = some (.int .i64 from_)) ∧ (w4.cell? ⟨wo.heap.size, 1, none⟩ = some (.int .i64 rate)) ∧ (w4.cell? ⟨kb, off + m * 2, none⟩ = some (.int .i64 y0)) ∧ (w4.cell? ⟨kb, off + m * 2 + 1, none⟩ = some (.int .i64 y1)) ∧ Below w.heap.size w w4 := ⟨keep_cell b4 hHeld.1, keep_cell b4 hHeld.2.1, keep_cell b4 hHeld.2.2.1, keep_cell b4 hHeld.2.2.2.1, bel_on hHeld.2.2.2.2 b4⟩
        clear b4
        first | refine hK.out _ _ (by exact Q4) (fun hHeld => ?_) | (go_wp2_with fail; refine hK.out _ _ (by exact Q4) (fun hHeld => ?_))
        clear hK K
        try simp only [Act.put, List.setIfInBounds_toArray, List.set_cons_zero, List.set_cons_succ]
        refine wpAnyH_take (i := 18) (oi := { dst := some 33, op := Go.Op.binOp Go.BinOp.leq 3 (Go.Operand.tmp 25) (Go.Operand.tmp 32) 3, type := 4, pos := "l13_sell.go:68", after := #[{ on := 10, ground := Go.Ground.data }, { on := 17, ground := Go.Ground.data }, { on := 7, ground := Go.Ground.guard }], guard := some (7, true) }) (v := ?_) rfl (by kernel_rfl) (by kernel_rfl) (by kernel_rfl) (fun _ _ _ h => h) (Or.inl ⟨by rfl, ?_⟩) (by assumption) ?_
        rotate_left
        · (intro w hSw; (try dsimp only at hSw); go_simp <;> try with_reducible rfl)
        try simp only [Act.put, List.setIfInBounds_toArray, List.set_cons_zero, List.set_cons_succ]
        refine wpAnyH_take (i := 19) (oi := { dst := some 34, op := Go.Op.pick (Go.Operand.tmp 22) (Go.Operand.tmp 33) (Go.Operand.const (Go.Value.bool false)), type := 4, pos := "l13_sell.go:68", after := #[{ on := 7, ground := Go.Ground.data }, { on := 18, ground := Go.Ground.data }, { on := 4, ground := Go.Ground.guard }], guard := some (4, false) }) (v := ?_) rfl (by kernel_rfl) (by kernel_rfl) (by kernel_rfl) (fun _ _ _ h => h) (Or.inl ⟨by rfl, ?_⟩) (by assumption) ?_
        rotate_left
        · (intro w hSw; (try dsimp only at hSw); go_simp <;> try with_reducible rfl)
        try simp only [Act.put, List.setIfInBounds_toArray, List.set_cons_zero, List.set_cons_succ]
        refine wpAnyH_take (i := 20) (oi := { dst := some 35, op := Go.Op.pick (Go.Operand.tmp 19) (Go.Operand.const (Go.Value.bool true)) (Go.Operand.tmp 34), type := 4, pos := "l13_sell.go:68", after := #[{ on := 4, ground := Go.Ground.data }, { on := 19, ground := Go.Ground.data }], guard := none }) (v := ?_) rfl (by kernel_rfl) (by kernel_rfl) (by kernel_rfl) (fun _ _ _ h => h) (Or.inl ⟨by rfl, ?_⟩) (by assumption) ?_
        rotate_left
        · (intro w hSw; (try dsimp only at hSw); go_simp <;> try with_reducible rfl)
        try simp only [Act.put, List.setIfInBounds_toArray, List.set_cons_zero, List.set_cons_succ]
        refine wpAnyH_done (by kernel_rfl) ?_ _
        refine NoPanic.normal ?_
        clear hHeld
        have HB2 : Hid (Below w.heap.size w _) := hid (Q4.2.2.2.2)
        go_wp2
        go_roundw
        case rel => exact ⟨k + 1, by omega, by go_num, HG.out, HB2.out⟩
        case measure => simp [intOf]; omega
    · obtain rfl : k = n := by omega
      have lkk : ¬ (k : Int) < (k : Int) := by omega
      have HV : Hid (rlB k z = true) := hid (rlB_t ⟨by omega, HH.out.1⟩)
      go_wp2
      go_returns
      exact ⟨ret_bool HV.out.symm, HH.out.2⟩
end Go.Proofs.Ytlhgmdmbjpaakaa
