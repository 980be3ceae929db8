/- A step's line: the program's. -/
import Derived.Test.YtdhpadcihlmhiaaDoorUk
namespace Go.Proofs.YtdhpadcihlmhiaaDoor
open Go.ChangeShapes Go.WideShapes Go.ChangeAt Go.RowKit
set_option linter.unusedVariables false
set_option linter.unusedSimpArgs false

set_option maxRecDepth 20000 in
set_option maxHeartbeats 4000000 in
theorem line_any (over : Int) (ra : Option Addr) (rn rc : Nat) (rz : Nat → ByteArray) (w : World) (hp : StpP ⟨over, rn, rz⟩) (hcap : rn ≤ rc) (hr : STR w ra rn rz) (hT : TP w) :
    Calls Tryd.prog 67 #[.agg #[.int .i64 over, .slice ra rn rc]] w fun e w' => e = .returned (.string (stepT ⟨over, rn, rz⟩)) ∧ Below w.heap.size w w' := by
  have HBA : Hid (Below w.heap.size w (w.alloc (.cells #[.int .i64 over, .slice ra rn rc] 46 (0, 0)))) := (Below.refl _ _).alloc (Nat.le_refl _) _
  have HSM : Hid (∀ w' : World, Below w.heap.size w w' → Calls Tryd.prog 109 #[.int .i64 over, .int .i64 2] w' fun e w'' => e = .returned (.string (amT over)) ∧ Below w'.heap.size w' w'') := fun w' b => Mny.implShow_any over 2 w' (hT.below b)
  have HJN : Hid (∀ w' : World, Below w.heap.size w w' → Calls Tryd.prog 110 #[.slice ra rn rc, .string ⟨#[44, 32]⟩] w' fun e w'' => e = .returned (.string (jonT nilT rz rn)) ∧ Below w'.heap.size w' w'') := fun w' b => join_any ra rn rc rz w' hp.2.2.1 (by have := hp.2.2.2.1; dsimp only at this; omega) hcap (fun j hj => name_size (hp.2.2.2.2 j hj).1) (hr.below b)
  have asz := amT_size hp.1 hp.2.1
  have jsz := jonT_size (n := rn) (z := rz) nilT_size (fun j hj => name_size (hp.2.2.2.2 j hj).1) rn (Nat.le_refl _)
  have h8 : rn ≤ 8 := hp.2.2.2.1
  have HE : Hid (((((⟨#[111, 118, 101, 114, 32]⟩ : ByteArray) ++ amT over) ++ ⟨#[58, 32]⟩) ++ jonT nilT rz rn) ++ ⟨#[10]⟩ = stepT ⟨over, rn, rz⟩) := hid (by unfold stepT; rw [jon_base (begT (amT over)) rz rn]; rfl)
  have X : CB (w.alloc (.cells #[.int .i64 over, .slice ra rn rc] 46 (0, 0))) w.heap.size #[.int .i64 over, .slice ra rn rc] 46 := CB.new _ _
  have x0 := (X.cell 0).trans rfl
  have x1 := (X.cell 1).trans rfl
  have hB1 : Below w.heap.size w (w.alloc (.cells #[.int .i64 over, .slice ra rn rc] 46 (0, 0))) := HBA.out
  have hB2 : Below w.heap.size w (w.alloc (.cells #[.int .i64 over, .slice ra rn rc] 46 (0, 0))).drew := HBA.out.drew
  clear X hp hr hT
  obtain ⟨AM, hAM⟩ : ∃ x, amT over = x := ⟨_, rfl⟩
  rw [hAM] at asz HSM HE
  obtain ⟨J, hJ⟩ : ∃ x, jonT nilT rz rn = x := ⟨_, rfl⟩
  rw [hJ] at jsz HJN HE
  clear hAM hJ
  have e1 : (⟨#[111, 118, 101, 114, 32]⟩ : ByteArray).size = 5 := rfl
  have e2 : (⟨#[58, 32]⟩ : ByteArray).size = 2 := rfl
  have e3 : (⟨#[10]⟩ : ByteArray).size = 1 := rfl
  have z1 : ¬ 9223372036854775807 < (⟨#[111, 118, 101, 114, 32]⟩ : ByteArray).size + AM.size := by omega
  have z2 : ¬ 9223372036854775807 < ((⟨#[111, 118, 101, 114, 32]⟩ : ByteArray) ++ AM).size + (⟨#[58, 32]⟩ : ByteArray).size := by rw [ByteArray.size_append]; omega
  have z3 : ¬ 9223372036854775807 < (((⟨#[111, 118, 101, 114, 32]⟩ : ByteArray) ++ AM) ++ ⟨#[58, 32]⟩).size + J.size := by rw [ByteArray.size_append, ByteArray.size_append]; omega
  have z4 : ¬ 9223372036854775807 < ((((⟨#[111, 118, 101, 114, 32]⟩ : ByteArray) ++ AM) ++ ⟨#[58, 32]⟩) ++ J).size + (⟨#[10]⟩ : ByteArray).size := by rw [ByteArray.size_append, ByteArray.size_append, ByteArray.size_append]; omega
  have y1 : ¬ 9223372036854775807 < 5 + AM.size := by omega
  have y2 : ¬ 9223372036854775807 < 5 + AM.size + 2 := by omega
  have y2b : ¬ 9223372036854775807 < ((⟨#[111, 118, 101, 114, 32]⟩ : ByteArray) ++ AM).size + 2 := z2
  have y3 : ¬ 9223372036854775807 < 5 + AM.size + 2 + J.size := by omega
  have y4 : ¬ 9223372036854775807 < 5 + AM.size + 2 + J.size + 1 := by omega
  have y4b : ¬ 9223372036854775807 < ((((⟨#[111, 118, 101, 114, 32]⟩ : ByteArray) ++ AM) ++ ⟨#[58, 32]⟩) ++ J).size + 1 := z4
  clear e1 e2 e3
  go_enter Tryd.func67, Tryd.ntmps67
  go_wp2
  refine wp_region_noPanic ?_
  refine wp_region_held_drew (S := fun w' => w'.cell? ⟨w.heap.size, 0, none⟩ = some (.int .i64 over) ∧ w'.cell? ⟨w.heap.size, 1, none⟩ = some (.slice ra rn rc) ∧ Below w.heap.size w w') (by kernel_rfl) ?_ (fun hHeld => ?_)
  · (try dsimp only); refine ⟨?_, ?_, ?_⟩ <;> first | assumption | (simp [*, World.cell?_alloc_some]; done)
  refine wpAnyH_take (i := 0) (oi := { dst := some 3, op := Go.Op.fieldAddr 46 (Go.Operand.tmp 1) 0, type := 0, pos := "l11_papers.go:230", after := #[], guard := none }) (v := ?_) rfl (by kernel_rfl) (by kernel_rfl) (by kernel_rfl) (fun _ _ _ h => h) (Or.inl ⟨by rfl, ?_⟩) (by assumption) ?_
  rotate_left
  · (intro w hSw; (try dsimp only at hSw); go_simp <;> try with_reducible rfl)
  try simp only [Act.put, List.setIfInBounds_toArray, List.set_cons_zero, List.set_cons_succ]
  refine wpAnyH_take (i := 1) (oi := { dst := some 4, op := Go.Op.load 3 (Go.Operand.tmp 3), type := 3, pos := "l11_papers.go:230", after := #[{ on := 0, ground := Go.Ground.data }], guard := none }) (v := ?_) rfl (by kernel_rfl) (by kernel_rfl) (by kernel_rfl) (fun _ _ _ h => h) (Or.inl ⟨by rfl, ?_⟩) (by assumption) ?_
  rotate_left
  · (intro w hSw; (try dsimp only at hSw); go_simp <;> try with_reducible rfl)
  try simp only [Act.put, List.setIfInBounds_toArray, List.set_cons_zero, List.set_cons_succ]
  refine wpAnyH_take (i := 5) (oi := { dst := some 8, op := Go.Op.fieldAddr 46 (Go.Operand.tmp 1) 1, type := 0, pos := "l11_papers.go:230", after := #[], guard := none }) (v := ?_) rfl (by kernel_rfl) (by kernel_rfl) (by kernel_rfl) (fun _ _ _ h => h) (Or.inl ⟨by rfl, ?_⟩) (by assumption) ?_
  rotate_left
  · (intro w hSw; (try dsimp only at hSw); go_simp <;> try with_reducible rfl)
  try simp only [Act.put, List.setIfInBounds_toArray, List.set_cons_zero, List.set_cons_succ]
  refine wpAnyH_take (i := 6) (oi := { dst := some 9, op := Go.Op.load 44 (Go.Operand.tmp 8), type := 44, pos := "l11_papers.go:230", after := #[{ on := 5, ground := Go.Ground.data }], guard := none }) (v := ?_) rfl (by kernel_rfl) (by kernel_rfl) (by kernel_rfl) (fun _ _ _ h => h) (Or.inl ⟨by rfl, ?_⟩) (by assumption) ?_
  rotate_left
  · (intro w hSw; (try dsimp only at hSw); go_simp <;> try with_reducible rfl)
  try simp only [Act.put, List.setIfInBounds_toArray, List.set_cons_zero, List.set_cons_succ]
  refine wpAnyH_ready (rs := [2]) (by kernel_rfl) (by simp) ?_
  refine AllReadyH.cons (o := { dst := some 5, op := Go.Op.call { callee := Go.Callee.value (Go.Operand.func 109), args := #[Go.Operand.tmp 4, Go.Operand.const (Go.Value.int Go.IntKind.i64 2)], argTypes := #[3, 3] }, type := 9, pos := "l11_papers.go:230", after := #[{ on := 1, ground := Go.Ground.data }], guard := none }) rfl (fun K hK => ?_) AllReadyH.nil
  go_simp
  (go_at_call 109; refine (HSM.out _ (by assumption)).mono ?_; rintro e w2 ⟨rfl, b2⟩; have q1_0 : w2.cell? ⟨w.heap.size, 0, none⟩ = some (.int .i64 over) := keep_cell b2 (by simp [*]); have q1_1 : w2.cell? ⟨w.heap.size, 1, none⟩ = some (.slice ra rn rc) := keep_cell b2 (by simp [*]); have p2 : Below w.heap.size w w2 := bel_on (by assumption) b2; clear b2)
  first | refine hK.out _ _ ?_ (fun hHeld => ?_) | (go_wp2_with fail; refine hK.out _ _ ?_ (fun hHeld => ?_))
  · (try dsimp only); refine ⟨?_, ?_, ?_⟩ <;> first | assumption | (simp [*, World.cell?_alloc_some]; done)
  clear hK K
  try simp only [Act.put, List.setIfInBounds_toArray, List.set_cons_zero, List.set_cons_succ]
  refine wpAnyH_take (i := 3) (oi := { dst := some 6, op := Go.Op.binOp Go.BinOp.add 9 (Go.Operand.const (Go.Value.string { data := #[111, 118, 101, 114, 32] })) (Go.Operand.tmp 5) 9, type := 9, pos := "l11_papers.go:230", after := #[{ on := 2, ground := Go.Ground.data }], guard := none }) (v := ?_) rfl (by kernel_rfl) (by kernel_rfl) (by kernel_rfl) (fun _ _ _ h => h) (Or.inl ⟨by rfl, ?_⟩) (by assumption) ?_
  rotate_left
  · (intro w hSw; (try dsimp only at hSw); go_simp <;> try with_reducible rfl)
  try simp only [Act.put, List.setIfInBounds_toArray, List.set_cons_zero, List.set_cons_succ]
  refine wpAnyH_take (i := 4) (oi := { dst := some 7, op := Go.Op.binOp Go.BinOp.add 9 (Go.Operand.tmp 6) (Go.Operand.const (Go.Value.string { data := #[58, 32] })) 9, type := 9, pos := "l11_papers.go:230", after := #[{ on := 3, ground := Go.Ground.data }], guard := none }) (v := ?_) rfl (by kernel_rfl) (by kernel_rfl) (by kernel_rfl) (fun _ _ _ h => h) (Or.inl ⟨by rfl, ?_⟩) (by assumption) ?_
  rotate_left
  · (intro w hSw; (try dsimp only at hSw); go_simp <;> try with_reducible rfl)
  try simp only [Act.put, List.setIfInBounds_toArray, List.set_cons_zero, List.set_cons_succ]
  refine wpAnyH_ready (rs := [7]) (by kernel_rfl) (by simp) ?_
  refine AllReadyH.cons (o := { dst := some 10, op := Go.Op.call { callee := Go.Callee.value (Go.Operand.func 110), args := #[Go.Operand.tmp 9, Go.Operand.const (Go.Value.string { data := #[44, 32] })], argTypes := #[44, 9] }, type := 9, pos := "l11_papers.go:230", after := #[{ on := 6, ground := Go.Ground.data }, { on := 2, ground := Go.Ground.chain }], guard := none }) rfl (fun K hK => ?_) AllReadyH.nil
  go_simp
  (go_at_call 110; refine (HJN.out _ (by assumption)).mono ?_; rintro e w3 ⟨rfl, b3⟩; have q2_0 : w3.cell? ⟨w.heap.size, 0, none⟩ = some (.int .i64 over) := keep_cell b3 (by simp [*]); have q2_1 : w3.cell? ⟨w.heap.size, 1, none⟩ = some (.slice ra rn rc) := keep_cell b3 (by simp [*]); have p3 : Below w.heap.size w w3 := bel_on p2 b3; clear b3)
  first | refine hK.out _ _ ?_ (fun hHeld => ?_) | (go_wp2_with fail; refine hK.out _ _ ?_ (fun hHeld => ?_))
  · (try dsimp only); refine ⟨?_, ?_, ?_⟩ <;> first | assumption | (simp [*, World.cell?_alloc_some]; done)
  clear hK K
  try simp only [Act.put, List.setIfInBounds_toArray, List.set_cons_zero, List.set_cons_succ]
  refine wpAnyH_take (i := 8) (oi := { dst := some 11, op := Go.Op.binOp Go.BinOp.add 9 (Go.Operand.tmp 7) (Go.Operand.tmp 10) 9, type := 9, pos := "l11_papers.go:230", after := #[{ on := 4, ground := Go.Ground.data }, { on := 7, ground := Go.Ground.data }], guard := none }) (v := ?_) rfl (by kernel_rfl) (by kernel_rfl) (by kernel_rfl) (fun _ _ _ h => h) (Or.inl ⟨by rfl, ?_⟩) (by assumption) ?_
  rotate_left
  · (intro w hSw; (try dsimp only at hSw); go_simp <;> try with_reducible rfl)
  try simp only [Act.put, List.setIfInBounds_toArray, List.set_cons_zero, List.set_cons_succ]
  refine wpAnyH_take (i := 9) (oi := { dst := some 12, op := Go.Op.binOp Go.BinOp.add 9 (Go.Operand.tmp 11) (Go.Operand.const (Go.Value.string { data := #[10] })) 9, type := 9, pos := "l11_papers.go:230", after := #[{ on := 8, ground := Go.Ground.data }], guard := none }) (v := ?_) rfl (by kernel_rfl) (by kernel_rfl) (by kernel_rfl) (fun _ _ _ h => h) (Or.inl ⟨by rfl, ?_⟩) (by assumption) ?_
  rotate_left
  · (intro w hSw; (try dsimp only at hSw); go_simp <;> try with_reducible rfl)
  try simp only [Act.put, List.setIfInBounds_toArray, List.set_cons_zero, List.set_cons_succ]
  refine wpAnyH_ready (rs := [10]) (by kernel_rfl) (by simp) ?_
  refine AllReadyH.cons (o := { dst := some 2, op := Go.Op.assign (Go.Operand.tmp 12), type := 9, pos := "l11_papers.go:230", after := #[{ on := 9, ground := Go.Ground.data }, { on := 7, ground := Go.Ground.chain }, { on := 0, ground := Go.Ground.phase }, { on := 1, ground := Go.Ground.phase }, { on := 2, ground := Go.Ground.phase }, { on := 3, ground := Go.Ground.phase }, { on := 4, ground := Go.Ground.phase }, { on := 5, ground := Go.Ground.phase }, { on := 6, ground := Go.Ground.phase }, { on := 7, ground := Go.Ground.phase }, { on := 8, ground := Go.Ground.phase }, { on := 9, ground := Go.Ground.phase }], guard := none }) rfl (fun K hK => ?_) AllReadyH.nil
  go_simp
  skip
  first | refine hK.out _ _ ?_ (fun hHeld => ?_) | (go_wp2_with fail; refine hK.out _ _ ?_ (fun hHeld => ?_))
  · (try dsimp only); refine ⟨?_, ?_, ?_⟩ <;> first | assumption | (simp [*, World.cell?_alloc_some]; done)
  clear hK K
  try simp only [Act.put, List.setIfInBounds_toArray, List.set_cons_zero, List.set_cons_succ]
  refine wpAnyH_done (by kernel_rfl) ?_ _
  refine NoPanic.normal ?_
  go_wp2
  go_returns
  exact ⟨ret_t HE.out, p3⟩
end Go.Proofs.YtdhpadcihlmhiaaDoor
