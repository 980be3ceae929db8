/- The line of an account, in the program and in the model: both write the bytes of 'lineL'. -/
import Derived.Test.YtkplhiahfebmlaaDoorSl
import Derived.Test.YtkplhiahfebmlaaDoorLs
import Derived.WalkSpells
namespace Go.Proofs.YtkplhiahfebmlaaDoor
open Go.ChangeShapes Go.WideShapes Go.ChangeAt Go.RowKit
set_option linter.unusedVariables false
set_option linter.unusedSimpArgs false

def str (l : List UInt8) : ByteArray := ⟨l.toArray⟩
theorem str_size (l : List UInt8) : (str l).size = l.length := by simp [str, ByteArray.size]
theorem str_append (a b : List UInt8) : str a ++ str b = str (a ++ b) := by
  apply ByteArray.ext
  simp [str]
theorem str_of (s : ByteArray) : str s.data.toList = s := by
  apply ByteArray.ext
  simp [str]
theorem ret_str {a b : ByteArray} (h : a = b) : Ending.returned (.string a) = .returned (.string b) := by rw [h]

def letterL (k : Int) : List UInt8 := if k = 1 then [65] else if k = 2 then [76] else if k = 3 then [69] else if k = 4 then [73] else [88]
theorem letterL_len (k : Int) : (letterL k).length = 1 := by unfold letterL; (repeat' (first | rfl | split))
def lineL (d : Nat) (code : ByteArray) (k : Int) : List UInt8 := List.replicate (2 * d) 32 ++ code.data.toList ++ [32] ++ letterL k ++ [10]
theorem lineL_len (d : Nat) (code : ByteArray) (k : Int) : (lineL d code k).length = 2 * d + code.size + 3 := by
  simp [lineL, letterL_len]; rfl

theorem blanks_rep (d : Nat) : Lib.repeatL [32, 32] d = List.replicate (2 * d) (32 : UInt8) := by
  induction d with
  | zero => rfl
  | succ k ih =>
    rw [Lib.repeatL, ih, show 2 * (k + 1) = 2 * k + 1 + 1 by omega, List.replicate_succ, List.replicate_succ]; rfl

theorem repeat_any (d : Nat) (w : World) (hd : d ≤ 20) : Calls Tryd.prog 76 #[.string ⟨#[32, 32]⟩, .int .i64 (d : Int)] w fun e w' => e = .returned (.string (str (List.replicate (2 * d) 32))) ∧ Below w.heap.size w w' := by
  have := Tryd.strings_Repeat ⟨#[32, 32]⟩ d w (by omega) (by show 2 * d ≤ _; omega)
  rw [show (⟨#[32, 32]⟩ : ByteArray).data.toList = [32, 32] from rfl, blanks_rep] at this
  exact this

theorem line_str {d : Nat} {code L : ByteArray} {k : Int} (hL : L = str (letterL k)) : str (List.replicate (2 * d) 32) ++ code ++ ⟨#[32]⟩ ++ L ++ ⟨#[10]⟩ = str (lineL d code k) := by
  subst hL
  rw [show (⟨#[32]⟩ : ByteArray) = str [32] from rfl, show (⟨#[10]⟩ : ByteArray) = str [10] from rfl]
  conv => lhs; rw [← str_of code]
  rw [str_append, str_append, str_append, str_append]
  rfl

set_option maxRecDepth 20000 in
set_option maxHeartbeats 4000000 in
theorem line_any (nb : Nat) (code : ByteArray) (k : Int) (d : Nat) (w : World) (n0 : w.cell? ⟨nb, 0, none⟩ = some (.string code)) (n2 : w.cell? ⟨nb, 2, none⟩ = some (.int .i64 k)) (n4 : w.cell? ⟨nb, 4, none⟩ = some (.int .i64 (d : Int))) (hk : 1 ≤ k ∧ k ≤ 5) (hd : d ≤ 20) (hc : code.size ≤ 20) :
    Calls Tryd.prog 60 #[.pointer (some ⟨nb, 0, none⟩)] w fun e w' => e = .returned (.string (str (lineL d code k))) ∧ Below w.heap.size w w' := by
  have HRP : Hid (∀ w : World, Calls Tryd.prog 76 #[.string ⟨#[32, 32]⟩, .int .i64 (d : Int)] w fun e w' => e = .returned (.string (str (List.replicate (2 * d) 32))) ∧ Below w.heap.size w w') := fun w => repeat_any d w hd
  obtain ⟨X, hX⟩ : ∃ X, str (List.replicate (2 * d) 32) = X := ⟨_, rfl⟩
  have hXs : X.size ≤ 40 := by rw [← hX, str_size]; simp; omega
  rw [hX] at HRP
  have HX : Hid (str (List.replicate (2 * d) 32) = X) := hX
  have f1 : (9223372036854775807 < X.size + code.size) = False := eq_false (by omega)
  have f2 : (9223372036854775807 < X.size + code.size + 1) = False := eq_false (by omega)
  have f3 : (9223372036854775807 < X.size + code.size + 1 + 1) = False := eq_false (by omega)
  have f4 : (9223372036854775807 < X.size + code.size + 1 + 1 + 1) = False := eq_false (by omega)
  have s1 : (⟨#[32]⟩ : ByteArray).size = 1 := rfl
  have s2 : (⟨#[10]⟩ : ByteArray).size = 1 := rfl
  have s3 : (⟨#[65]⟩ : ByteArray).size = 1 := rfl
  have s4 : (⟨#[76]⟩ : ByteArray).size = 1 := rfl
  clear hX
  rcases (by omega : k = 1 ∨ k = 2 ∨ k = 3 ∨ k = 4 ∨ k = 5) with rfl | rfl | rfl | rfl | rfl
  all_goals
    go_enter Tryd.func60, Tryd.ntmps60
    go_wp2
    go_quiet (fail)
    go_wp2
    refine wp_region_noPanic ?_
    refine wp_region_held_drew (S := fun w' => w'.cell? ⟨nb, 4, none⟩ = some (.int .i64 (d : Int)) ∧ w'.cell? ⟨nb, 0, none⟩ = some (.string code)) (by kernel_rfl) ?_ (fun hHeld => ?_)
    · exact ⟨n4, n0⟩
    refine wpAnyH_take (i := 0) (oi := { dst := some 18, op := Go.Op.move (Go.Operand.tmp 0), type := 60, pos := "l04_accounts.go:202", after := #[], guard := none }) (v := ?_) rfl (by kernel_rfl) (by kernel_rfl) (by kernel_rfl) (fun _ _ _ h => h) (Or.inl ⟨by rfl, ?_⟩) (by assumption) ?_
    rotate_left
    · (intro w hSw; (try dsimp only at hSw); go_simp <;> try with_reducible rfl)
    try simp only [Act.put, List.setIfInBounds_toArray, List.set_cons_zero, List.set_cons_succ]
    refine wpAnyH_take (i := 1) (oi := { dst := some 19, op := Go.Op.nilCheck (Go.Operand.tmp 18), type := 0, pos := "l04_accounts.go:202", after := #[{ on := 0, ground := Go.Ground.data }], guard := none }) (v := ?_) rfl (by kernel_rfl) (by kernel_rfl) (by kernel_rfl) (fun _ _ _ h => h) (Or.inl ⟨by rfl, ?_⟩) (by assumption) ?_
    rotate_left
    · (intro w hSw; (try dsimp only at hSw); go_simp <;> try with_reducible rfl)
    try simp only [Act.put, List.setIfInBounds_toArray, List.set_cons_zero, List.set_cons_succ]
    refine wpAnyH_take (i := 2) (oi := { dst := some 20, op := Go.Op.fieldAddr 68 (Go.Operand.tmp 19) 2, type := 0, pos := "l04_accounts.go:202", after := #[{ on := 1, ground := Go.Ground.data }], guard := none }) (v := ?_) rfl (by kernel_rfl) (by kernel_rfl) (by kernel_rfl) (fun _ _ _ h => h) (Or.inl ⟨by rfl, ?_⟩) (by assumption) ?_
    rotate_left
    · (intro w hSw; (try dsimp only at hSw); go_simp <;> try with_reducible rfl)
    try simp only [Act.put, List.setIfInBounds_toArray, List.set_cons_zero, List.set_cons_succ]
    refine wpAnyH_take (i := 3) (oi := { dst := some 21, op := Go.Op.load 3 (Go.Operand.tmp 20), type := 3, pos := "l04_accounts.go:202", after := #[{ on := 2, ground := Go.Ground.data }], guard := none }) (v := ?_) rfl (by kernel_rfl) (by kernel_rfl) (by kernel_rfl) (fun _ _ _ h => h) (Or.inl ⟨by rfl, ?_⟩) (by assumption) ?_
    rotate_left
    · (intro w hSw; (try dsimp only at hSw); go_simp <;> try with_reducible rfl)
    try simp only [Act.put, List.setIfInBounds_toArray, List.set_cons_zero, List.set_cons_succ]
    refine wpAnyH_take (i := 5) (oi := { dst := some 23, op := Go.Op.move (Go.Operand.tmp 0), type := 60, pos := "l04_accounts.go:202", after := #[], guard := none }) (v := ?_) rfl (by kernel_rfl) (by kernel_rfl) (by kernel_rfl) (fun _ _ _ h => h) (Or.inl ⟨by rfl, ?_⟩) (by assumption) ?_
    rotate_left
    · (intro w hSw; (try dsimp only at hSw); go_simp <;> try with_reducible rfl)
    try simp only [Act.put, List.setIfInBounds_toArray, List.set_cons_zero, List.set_cons_succ]
    refine wpAnyH_take (i := 6) (oi := { dst := some 24, op := Go.Op.nilCheck (Go.Operand.tmp 23), type := 0, pos := "l04_accounts.go:202", after := #[{ on := 5, ground := Go.Ground.data }], guard := none }) (v := ?_) rfl (by kernel_rfl) (by kernel_rfl) (by kernel_rfl) (fun _ _ _ h => h) (Or.inl ⟨by rfl, ?_⟩) (by assumption) ?_
    rotate_left
    · (intro w hSw; (try dsimp only at hSw); go_simp <;> try with_reducible rfl)
    try simp only [Act.put, List.setIfInBounds_toArray, List.set_cons_zero, List.set_cons_succ]
    refine wpAnyH_take (i := 7) (oi := { dst := some 25, op := Go.Op.fieldAddr 68 (Go.Operand.tmp 24) 0, type := 0, pos := "l04_accounts.go:202", after := #[{ on := 6, ground := Go.Ground.data }], guard := none }) (v := ?_) rfl (by kernel_rfl) (by kernel_rfl) (by kernel_rfl) (fun _ _ _ h => h) (Or.inl ⟨by rfl, ?_⟩) (by assumption) ?_
    rotate_left
    · (intro w hSw; (try dsimp only at hSw); go_simp <;> try with_reducible rfl)
    try simp only [Act.put, List.setIfInBounds_toArray, List.set_cons_zero, List.set_cons_succ]
    refine wpAnyH_take (i := 8) (oi := { dst := some 26, op := Go.Op.fieldAddr 30 (Go.Operand.tmp 25) 0, type := 0, pos := "l04_accounts.go:202", after := #[{ on := 7, ground := Go.Ground.data }], guard := none }) (v := ?_) rfl (by kernel_rfl) (by kernel_rfl) (by kernel_rfl) (fun _ _ _ h => h) (Or.inl ⟨by rfl, ?_⟩) (by assumption) ?_
    rotate_left
    · (intro w hSw; (try dsimp only at hSw); go_simp <;> try with_reducible rfl)
    try simp only [Act.put, List.setIfInBounds_toArray, List.set_cons_zero, List.set_cons_succ]
    refine wpAnyH_take (i := 9) (oi := { dst := some 27, op := Go.Op.load 9 (Go.Operand.tmp 26), type := 9, pos := "l04_accounts.go:202", after := #[{ on := 8, ground := Go.Ground.data }], guard := none }) (v := ?_) rfl (by kernel_rfl) (by kernel_rfl) (by kernel_rfl) (fun _ _ _ h => h) (Or.inl ⟨by rfl, ?_⟩) (by assumption) ?_
    rotate_left
    · (intro w hSw; (try dsimp only at hSw); go_simp <;> try with_reducible rfl)
    try simp only [Act.put, List.setIfInBounds_toArray, List.set_cons_zero, List.set_cons_succ]
    refine wpAnyH_take (i := 12) (oi := { dst := some 30, op := Go.Op.move (Go.Operand.tmp 3), type := 9, pos := "l04_accounts.go:202", after := #[], guard := none }) (v := ?_) rfl (by kernel_rfl) (by kernel_rfl) (by kernel_rfl) (fun _ _ _ h => h) (Or.inl ⟨by rfl, ?_⟩) (by assumption) ?_
    rotate_left
    · (intro w hSw; (try dsimp only at hSw); go_simp <;> try with_reducible rfl)
    try simp only [Act.put, List.setIfInBounds_toArray, List.set_cons_zero, List.set_cons_succ]
    refine wpAnyH_ready (rs := [4]) (by kernel_rfl) (by simp) ?_
    refine AllReadyH.cons (o := { dst := some 22, op := Go.Op.call { callee := Go.Callee.value (Go.Operand.func 76), args := #[Go.Operand.const (Go.Value.string { data := #[32, 32] }), Go.Operand.tmp 21], argTypes := #[9, 3] }, type := 9, pos := "l04_accounts.go:202", after := #[{ on := 3, ground := Go.Ground.data }], guard := none }) rfl (fun K hK => ?_) AllReadyH.nil
    go_simp
    (go_at_call 76; refine (HRP.out _).mono ?_; rintro e w3 ⟨rfl, b3⟩; have q4 : w3.cell? ⟨nb, 4, none⟩ = some (.int .i64 (d : Int)) := keep_cell b3 n4; have q0 : w3.cell? ⟨nb, 0, none⟩ = some (.string code) := keep_cell b3 n0)
    first | refine hK.out _ _ ⟨q4, q0⟩ (fun hHeld => ?_) | (go_wp2_with fail; refine hK.out _ _ ⟨q4, q0⟩ (fun hHeld => ?_))
    clear hK K
    try simp only [Act.put, List.setIfInBounds_toArray, List.set_cons_zero, List.set_cons_succ]
    refine wpAnyH_take (i := 10) (oi := { dst := some 28, op := Go.Op.binOp Go.BinOp.add 9 (Go.Operand.tmp 22) (Go.Operand.tmp 27) 9, type := 9, pos := "l04_accounts.go:202", after := #[{ on := 4, ground := Go.Ground.data }, { on := 9, ground := Go.Ground.data }], guard := none }) (v := ?_) rfl (by kernel_rfl) (by kernel_rfl) (by kernel_rfl) (fun _ _ _ h => h) (Or.inl ⟨by rfl, ?_⟩) (by assumption) ?_
    rotate_left
    · (intro w hSw; (try dsimp only at hSw); go_simp <;> try with_reducible rfl)
    try simp only [Act.put, List.setIfInBounds_toArray, List.set_cons_zero, List.set_cons_succ]
    refine wpAnyH_take (i := 11) (oi := { dst := some 29, op := Go.Op.binOp Go.BinOp.add 9 (Go.Operand.tmp 28) (Go.Operand.const (Go.Value.string { data := #[32] })) 9, type := 9, pos := "l04_accounts.go:202", after := #[{ on := 10, ground := Go.Ground.data }], guard := none }) (v := ?_) rfl (by kernel_rfl) (by kernel_rfl) (by kernel_rfl) (fun _ _ _ h => h) (Or.inl ⟨by rfl, ?_⟩) (by assumption) ?_
    rotate_left
    · (intro w hSw; (try dsimp only at hSw); go_simp <;> try with_reducible rfl)
    try simp only [Act.put, List.setIfInBounds_toArray, List.set_cons_zero, List.set_cons_succ]
    refine wpAnyH_take (i := 13) (oi := { dst := some 31, op := Go.Op.binOp Go.BinOp.add 9 (Go.Operand.tmp 29) (Go.Operand.tmp 30) 9, type := 9, pos := "l04_accounts.go:202", after := #[{ on := 11, ground := Go.Ground.data }, { on := 12, ground := Go.Ground.data }], guard := none }) (v := ?_) rfl (by kernel_rfl) (by kernel_rfl) (by kernel_rfl) (fun _ _ _ h => h) (Or.inl ⟨by rfl, ?_⟩) (by assumption) ?_
    rotate_left
    · (intro w hSw; (try dsimp only at hSw); go_simp <;> try with_reducible rfl)
    try simp only [Act.put, List.setIfInBounds_toArray, List.set_cons_zero, List.set_cons_succ]
    refine wpAnyH_take (i := 14) (oi := { dst := some 32, op := Go.Op.binOp Go.BinOp.add 9 (Go.Operand.tmp 31) (Go.Operand.const (Go.Value.string { data := #[10] })) 9, type := 9, pos := "l04_accounts.go:202", after := #[{ on := 13, ground := Go.Ground.data }], guard := none }) (v := ?_) rfl (by kernel_rfl) (by kernel_rfl) (by kernel_rfl) (fun _ _ _ h => h) (Or.inl ⟨by rfl, ?_⟩) (by assumption) ?_
    rotate_left
    · (intro w hSw; (try dsimp only at hSw); go_simp <;> try with_reducible rfl)
    try simp only [Act.put, List.setIfInBounds_toArray, List.set_cons_zero, List.set_cons_succ]
    refine wpAnyH_take (i := 15) (oi := { dst := some 2, op := Go.Op.assign (Go.Operand.tmp 32), type := 9, pos := "l04_accounts.go:202", after := #[{ on := 14, ground := Go.Ground.data }, { on := 4, ground := Go.Ground.chain }, { on := 0, ground := Go.Ground.phase }, { on := 1, ground := Go.Ground.phase }, { on := 2, ground := Go.Ground.phase }, { on := 3, ground := Go.Ground.phase }, { on := 4, ground := Go.Ground.phase }, { on := 5, ground := Go.Ground.phase }, { on := 6, ground := Go.Ground.phase }, { on := 7, ground := Go.Ground.phase }, { on := 8, ground := Go.Ground.phase }, { on := 9, ground := Go.Ground.phase }, { on := 10, ground := Go.Ground.phase }, { on := 11, ground := Go.Ground.phase }, { on := 12, ground := Go.Ground.phase }, { on := 13, ground := Go.Ground.phase }, { on := 14, ground := Go.Ground.phase }], guard := none }) (v := ?_) rfl (by kernel_rfl) (by kernel_rfl) (by kernel_rfl) (fun _ _ _ h => h) (Or.inl ⟨by rfl, ?_⟩) (by assumption) ?_
    rotate_left
    · (intro w hSw; (try dsimp only at hSw); go_simp <;> try with_reducible rfl)
    try simp only [Act.put, List.setIfInBounds_toArray, List.set_cons_zero, List.set_cons_succ]
    refine wpAnyH_done (by kernel_rfl) ?_ _
    refine NoPanic.normal ?_
    go_wp2
    go_returns
    exact ⟨ret_str (by rw [← HX.out]; exact line_str rfl), ⟨b3.os, b3.tape, b3.output, b3.size, b3.block⟩⟩

set_option maxRecDepth 20000 in
set_option maxHeartbeats 4000000 in
theorem l4Line_any (code : ByteArray) (p k : Int) (d : Nat) (w : World) (hk : 1 ≤ k ∧ k ≤ 5) (hd : d ≤ 20) (hc : code.size ≤ 20) :
    Calls Tryd.prog 58 #[.agg #[.string code, .int .i64 p, .int .i64 k], .int .i64 (d : Int)] w fun e w' => e = .returned (.string (str (lineL d code k))) ∧ Below w.heap.size w w' := by
  have C1 := CB.new (w := w) #[.string code, .int .i64 p, .int .i64 k] 30
  have b0 : (w.alloc (.cells #[.string code, .int .i64 p, .int .i64 k] 30 (0, 0))).cell? ⟨w.heap.size, 0, none⟩ = some (.string code) := (C1.cell 0).trans rfl
  have b2 : (w.alloc (.cells #[.string code, .int .i64 p, .int .i64 k] 30 (0, 0))).cell? ⟨w.heap.size, 2, none⟩ = some (.int .i64 k) := (C1.cell 2).trans rfl
  have HB : Hid (Below w.heap.size w (w.alloc (.cells #[.string code, .int .i64 p, .int .i64 k] 30 (0, 0)))) := (Below.refl _ _).alloc (Nat.le_refl _) _
  clear C1
  go_enter Tryd.func58, Tryd.ntmps58
  go_wp2
  generalize hW : w.alloc (.cells #[.string code, .int .i64 p, .int .i64 k] 30 (0, 0)) = W at b0 b2 HB ⊢
  clear hW
  go_loop [1, 5] (fun u v => ∃ (i j : Nat), i + j = d ∧ u = .int .i64 (j : Int) ∧ v = .string (str (List.replicate (2 * i) 32))) (fun u v => (intOf u).toNat)
  case atStart => exact ⟨0, d, by omega, rfl, rfl⟩
  case round =>
    obtain ⟨i, j, hij, rfl, rfl⟩ := hrel
    obtain ⟨X, hX⟩ : ∃ X, str (List.replicate (2 * i) 32) = X := ⟨_, rfl⟩
    have hXs : X.size ≤ 40 := by rw [← hX, str_size]; simp; omega
    have s0 : (⟨#[32, 32]⟩ : ByteArray).size = 2 := rfl
    by_cases hj : 0 < j
    · obtain ⟨j', rfl⟩ : ∃ j', j = j' + 1 := ⟨j - 1, by omega⟩
      have f1 : (9223372036854775807 < X.size + 2) = False := eq_false (by omega)
      have hj2 : (0 : Int) < ((j' + 1 : Nat) : Int) := by omega
      have HS : Hid (X ++ ⟨#[32, 32]⟩ = str (List.replicate (2 * (i + 1)) 32)) := by
        show X ++ ⟨#[32, 32]⟩ = _
        rw [← hX, show (⟨#[32, 32]⟩ : ByteArray) = str [32, 32] from rfl, str_append]
        congr 1
        show List.replicate (2 * i) (32 : UInt8) ++ List.replicate 2 32 = _
        rw [List.replicate_append_replicate, show 2 * i + 2 = 2 * (i + 1) by omega]
      rw [hX]
      clear hX
      go_wp2
      go_round
      case rel => exact ⟨i + 1, j', by omega, by go_num, by rw [HS.out]⟩
      case measure => simp [intOf]
    · obtain rfl : j = 0 := by omega
      obtain rfl : i = d := by omega
      rw [hX]
      have HX : Hid (str (List.replicate (2 * i) 32) = X) := hX
      have f1 : (9223372036854775807 < X.size + code.size) = False := eq_false (by omega)
      have f2 : (9223372036854775807 < X.size + code.size + 1) = False := eq_false (by omega)
      have f3 : (9223372036854775807 < X.size + code.size + 1 + 1) = False := eq_false (by omega)
      have f4 : (9223372036854775807 < X.size + code.size + 1 + 1 + 1) = False := eq_false (by omega)
      have s1 : (⟨#[32]⟩ : ByteArray).size = 1 := rfl
      have s2 : (⟨#[10]⟩ : ByteArray).size = 1 := rfl
      clear hX
      rcases (by omega : k = 1 ∨ k = 2 ∨ k = 3 ∨ k = 4 ∨ k = 5) with rfl | rfl | rfl | rfl | rfl
      all_goals
        go_wp2
        go_quiet (fail)
        go_wp2
        go_returns
        exact ⟨ret_str (by rw [← HX.out]; exact line_str rfl), bd_N HB.out _⟩

end Go.Proofs.YtkplhiahfebmlaaDoor
