/- What the program's register refuses: it tells 'refV'. -/
import Derived.Test.YtdhpadcihlmhiaaDoorSe
namespace Go.Proofs.YtdhpadcihlmhiaaDoor
open Go.ChangeShapes Go.WideShapes Go.ChangeAt Go.RowKit
open Go.Lib (decDigits)
set_option linter.unusedVariables false
set_option linter.unusedSimpArgs false

theorem isPlace_eq {x n : Int} {v : Bool} {w : World} (h : plB x n = v) : Calls Tryd.prog 59 #[.int .i64 x, .int .i64 n] w fun e w' => e = .returned (.bool v) ∧ w' = w := h ▸ isPlace_any x n w
theorem isDay_eq {x : Int} {v : Bool} {w : World} (h : inB x 0 40000 = v) : Calls Tryd.prog 101 #[.int .i64 x] w fun e w' => e = .returned (.bool v) ∧ w' = w := h ▸ isDay_any x w

set_option maxRecDepth 20000 in
set_option maxHeartbeats 8000000 in
theorem refusal_any (b mb : Nat) (sa : Option Addr) (ns cap k : Nat) (c : Nat → S2) (p : Nat → P4) (s day : Int) (w : World) (H : NowAt w b mb sa ns cap k p) (hr : SRw w sa ns c) (hk : (k : Int) ≤ 400) (hns : (ns : Int) ≤ 1048576) (hwf : (Lit.int .i64 s).wf = true) (hT : TP w) :
    Calls Tryd.prog 55 #[.pointer (some ⟨b, 0, none⟩), .int .i64 s, .int .i64 day] w fun e w' => e = .returned (.int .i64 (refV ns c k p s day)) ∧ Below w.heap.size w w' := by
  have HM : Hid (MP Tryd.prog 3 z2 w mb k (fun s => endV (cntP p s k) (lstP p s k))) := H.map
  have n0 : w.cell? ⟨b, 0, none⟩ = some (.slice sa ns cap) := (H.blk.cell 0).trans rfl
  have n1 : w.cell? ⟨b, 1, none⟩ = some (.int .i64 (k : Int)) := (H.blk.cell 1).trans rfl
  have n2 : w.cell? ⟨b, 2, none⟩ = some (.map (some mb)) := (H.blk.cell 2).trans rfl
  have hcn : (cntP p s k : Int) ≤ 1000 := by have := cntP_le p s k; omega
  have HRV : Hid (refV ns c k p s day = refN ns c k (cntP p s k) (lstP p s k) s day) := rfl
  have HF : Hid ((fun s => endV (cntP p s k) (lstP p s k)) s = .agg #[.int .i64 (cntP p s k : Int), .int .i64 (lstP p s k)]) := rfl
  rw [HRV.out]
  clear HRV
  obtain ⟨cn, hcn0⟩ : ∃ x, cntP p s k = x := ⟨_, rfl⟩
  obtain ⟨lt, hlt0⟩ : ∃ x, lstP p s k = x := ⟨_, rfl⟩
  rw [hcn0, hlt0]
  rw [hcn0] at hcn
  replace HF : Hid ((fun s => endV (cntP p s k) (lstP p s k)) s = .agg #[.int .i64 (cn : Int), .int .i64 lt]) := by have := HF.out; rw [hcn0, hlt0] at this; exact this
  clear hcn0 hlt0
  have HR : Hid (SRw w sa ns c) := hr
  have HT : Hid (TP w) := hT
  have HK := hid H
  have hA0 : Below w.heap.size w (w.alloc (.cells #[.int .i64 (cn : Int), .int .i64 lt] 137 (0, 0))) := (Below.refl _ _).alloc (Nat.le_refl _) _
  have m0 := keep_cell hA0 n0
  have m1 := keep_cell hA0 n1
  have m2 := keep_cell hA0 n2
  clear hA0
  clear H hr hT
  cases hp : plB s (ns : Int)
  · have HPL : Hid (plB s (ns : Int) = false) := hp
    have HV : Hid (refN ns c k cn lt s day = 2) := refN_two (of_decide_eq_false hp)
    clear hp
    go_enter Tryd.func55, Tryd.ntmps55
    go_wp2_with (first | (at_lookup; refine wpList_lookup_mp _ rfl _ _ 132 rfl 3 137 key3 Tryd.underlying3 Tryd.underlying132 z2 (zeroEnd _) mb k (fun s => endV (cntP p s k) (lstP p s k)) rfl HM.out s rfl hwf (.agg #[.int .i64 (cn : Int), .int .i64 lt]) HF.out ?_) | (go_at_call 59; refine (isPlace_eq HPL.out).mono ?_; rintro e w1 ⟨rfl, ew⟩; replace ew := ew.symm; subst ew))
    go_returns
    exact ⟨ret_i HV.out.symm, by go_grown⟩
  have HPL : Hid (plB s (ns : Int) = true) := hp
  have hs : 0 ≤ s ∧ s < (ns : Int) := of_decide_eq_true hp
  clear hp
  cases hd : inB day 0 40000
  · have HDY : Hid (inB day 0 40000 = false) := hd
    have HV : Hid (refN ns c k cn lt s day = 3) := refN_three hs (.inl (inB_f hd))
    clear hd
    go_enter Tryd.func55, Tryd.ntmps55
    go_wp2_with (first | (at_lookup; refine wpList_lookup_mp _ rfl _ _ 132 rfl 3 137 key3 Tryd.underlying3 Tryd.underlying132 z2 (zeroEnd _) mb k (fun s => endV (cntP p s k) (lstP p s k)) rfl HM.out s rfl hwf (.agg #[.int .i64 (cn : Int), .int .i64 lt]) HF.out ?_) | (go_at_call 59; refine (isPlace_eq HPL.out).mono ?_; rintro e w1 ⟨rfl, ew⟩; replace ew := ew.symm; subst ew) | (go_at_call 101; refine (isDay_eq HDY.out).mono ?_; rintro e w1 ⟨rfl, ew⟩; replace ew := ew.symm; subst ew))
    go_returns
    exact ⟨ret_i HV.out.symm, by go_grown⟩
  have HDY : Hid (inB day 0 40000 = true) := hd
  have hd2 := inB_t hd
  clear hd
  by_cases hl : day < lt
  · have HV : Hid (refN ns c k cn lt s day = 3) := refN_three hs (.inr hl)
    go_enter Tryd.func55, Tryd.ntmps55
    go_wp2_with (first | (at_lookup; refine wpList_lookup_mp _ rfl _ _ 132 rfl 3 137 key3 Tryd.underlying3 Tryd.underlying132 z2 (zeroEnd _) mb k (fun s => endV (cntP p s k) (lstP p s k)) rfl HM.out s rfl hwf (.agg #[.int .i64 (cn : Int), .int .i64 lt]) HF.out ?_) | (go_at_call 59; refine (isPlace_eq HPL.out).mono ?_; rintro e w1 ⟨rfl, ew⟩; replace ew := ew.symm; subst ew) | (go_at_call 101; refine (isDay_eq HDY.out).mono ?_; rintro e w1 ⟨rfl, ew⟩; replace ew := ew.symm; subst ew))
    go_returns
    exact ⟨ret_i HV.out.symm, by go_grown⟩
  have hl2 : lt ≤ day := by omega
  obtain ⟨i, rfl⟩ : ∃ i : Nat, s = (i : Int) := ⟨s.toNat, by omega⟩
  have hin : i < ns := by omega
  have hin2 : (i : Int) < (ns : Int) := by omega
  obtain ⟨kb, off, rfl, hkb⟩ := HR.out.addr (by omega)
  obtain ⟨c0, c1⟩ := HR.out.cell hin
  obtain ⟨r, hr⟩ : ∃ r, c i = r := ⟨_, rfl⟩
  have HX : Hid (c i = r) := hr
  rw [hr] at c0 c1
  obtain ⟨pr, wd⟩ := r
  simp only at c0 c1
  clear hr
  have hB0 : Below w.heap.size w (w.alloc (.cells #[.int .i64 (cn : Int), .int .i64 lt] 137 (0, 0))) := (Below.refl _ _).alloc (Nat.le_refl _) _
  have hB1 : Below w.heap.size w (w.alloc (.cells #[.int .i64 (cn : Int), .int .i64 lt] 137 (0, 0))).drew := hB0.drew
  by_cases hf : k = 400
  · have HV : Hid (refN ns c k cn lt (i : Int) day = 4) := refN_four hs hd2 hl2 (.inl hf)
    have hk4 : ((k : Int) == 400) = true := eq_t (by omega)
    go_enter Tryd.func55, Tryd.ntmps55
    go_wp2_with (first | (at_lookup; refine wpList_lookup_mp _ rfl _ _ 132 rfl 3 137 key3 Tryd.underlying3 Tryd.underlying132 z2 (zeroEnd _) mb k (fun s => endV (cntP p s k) (lstP p s k)) rfl HM.out (i : Int) rfl hwf (.agg #[.int .i64 (cn : Int), .int .i64 lt]) HF.out ?_) | (go_at_call 59; refine (isPlace_eq HPL.out).mono ?_; rintro e w1 ⟨rfl, ew⟩; replace ew := ew.symm; subst ew) | (go_at_call 101; refine (isDay_eq HDY.out).mono ?_; rintro e w1 ⟨rfl, ew⟩; replace ew := ew.symm; subst ew))
    refine wp_region_noPanic ?_
    refine wp_region_held_drew (S := fun w' => w'.cell? ⟨b, 0, none⟩ = some (.slice (some ⟨kb, off, none⟩) ns cap) ∧ w'.cell? ⟨b, 1, none⟩ = some (.int .i64 (k : Int)) ∧ w'.cell? ⟨b, 2, none⟩ = some (.map (some mb)) ∧ w'.cell? ⟨w.heap.size, 0, none⟩ = some (.int .i64 (cn : Int)) ∧ w'.cell? ⟨w.heap.size, 1, none⟩ = some (.int .i64 lt) ∧ w'.cell? ⟨kb, off + i * 2, none⟩ = some (.string pr) ∧ w'.cell? ⟨kb, off + i * 2 + 1, none⟩ = some (.int .i64 wd) ∧ Below w.heap.size w w') (by kernel_rfl) ?_ (fun hHeld => ?_)
    · (try dsimp only); refine ⟨?_, ?_, ?_, ?_, ?_, ?_, ?_, ?_⟩ <;> first | assumption | (simp [*, World.cell?_alloc_some]; done)
    refine wpAnyH_take (i := 0) (oi := { dst := some 34, op := Go.Op.move (Go.Operand.tmp 0), type := 79, pos := "l11_papers.go:123", after := #[], guard := none }) (v := ?_) rfl (by kernel_rfl) (by kernel_rfl) (by kernel_rfl) (fun _ _ _ h => h) (Or.inl ⟨by rfl, ?_⟩) (by assumption) ?_
    rotate_left
    · (intro w hSw; (try dsimp only at hSw); go_simp <;> try with_reducible rfl)
    try simp only [Act.put, List.setIfInBounds_toArray, List.set_cons_zero, List.set_cons_succ]
    refine wpAnyH_take (i := 1) (oi := { dst := some 35, op := Go.Op.nilCheck (Go.Operand.tmp 34), type := 0, pos := "l11_papers.go:123", after := #[{ on := 0, ground := Go.Ground.data }], guard := none }) (v := ?_) rfl (by kernel_rfl) (by kernel_rfl) (by kernel_rfl) (fun _ _ _ h => h) (Or.inl ⟨by rfl, ?_⟩) (by assumption) ?_
    rotate_left
    · (intro w hSw; (try dsimp only at hSw); go_simp <;> try with_reducible rfl)
    try simp only [Act.put, List.setIfInBounds_toArray, List.set_cons_zero, List.set_cons_succ]
    refine wpAnyH_take (i := 2) (oi := { dst := some 36, op := Go.Op.fieldAddr 134 (Go.Operand.tmp 35) 1, type := 0, pos := "l11_papers.go:123", after := #[{ on := 1, ground := Go.Ground.data }], guard := none }) (v := ?_) rfl (by kernel_rfl) (by kernel_rfl) (by kernel_rfl) (fun _ _ _ h => h) (Or.inl ⟨by rfl, ?_⟩) (by assumption) ?_
    rotate_left
    · (intro w hSw; (try dsimp only at hSw); go_simp <;> try with_reducible rfl)
    try simp only [Act.put, List.setIfInBounds_toArray, List.set_cons_zero, List.set_cons_succ]
    refine wpAnyH_take (i := 3) (oi := { dst := some 37, op := Go.Op.load 3 (Go.Operand.tmp 36), type := 3, pos := "l11_papers.go:123", after := #[{ on := 2, ground := Go.Ground.data }], guard := none }) (v := ?_) rfl (by kernel_rfl) (by kernel_rfl) (by kernel_rfl) (fun _ _ _ h => h) (Or.inl ⟨by rfl, ?_⟩) (by assumption) ?_
    rotate_left
    · (intro w hSw; (try dsimp only at hSw); go_simp <;> try with_reducible rfl)
    try simp only [Act.put, List.setIfInBounds_toArray, List.set_cons_zero, List.set_cons_succ]
    refine wpAnyH_take (i := 4) (oi := { dst := some 38, op := Go.Op.binOp Go.BinOp.eql 3 (Go.Operand.tmp 37) (Go.Operand.const (Go.Value.int Go.IntKind.i64 400)) 3, type := 4, pos := "l11_papers.go:123", after := #[{ on := 3, ground := Go.Ground.data }], guard := none }) (v := ?_) rfl (by kernel_rfl) (by kernel_rfl) (by kernel_rfl) (fun _ _ _ h => h) (Or.inl ⟨by rfl, ?_⟩) (by assumption) ?_
    rotate_left
    · (intro w hSw; (try dsimp only at hSw); go_simp <;> try with_reducible rfl)
    try simp only [Act.put, List.setIfInBounds_toArray, List.set_cons_zero, List.set_cons_succ]
    refine wpAnyH_take (i := 5) (oi := { dst := some 39, op := Go.Op.move (Go.Operand.tmp 38), type := 4, pos := "l11_papers.go:123", after := #[{ on := 4, ground := Go.Ground.data }], guard := none }) (v := ?_) rfl (by kernel_rfl) (by kernel_rfl) (by kernel_rfl) (fun _ _ _ h => h) (Or.inl ⟨by rfl, ?_⟩) (by assumption) ?_
    rotate_left
    · (intro w hSw; (try dsimp only at hSw); go_simp <;> try with_reducible rfl)
    try simp only [Act.put, List.setIfInBounds_toArray, List.set_cons_zero, List.set_cons_succ]
    refine wpAnyH_take (i := 6) (oi := { dst := some 40, op := Go.Op.move (Go.Operand.tmp 0), type := 79, pos := "l11_papers.go:123", after := #[{ on := 5, ground := Go.Ground.guard }], guard := some (5, false) }) (v := undef) rfl (by kernel_rfl) (by kernel_rfl) (by kernel_rfl) (fun _ _ _ h => h) (Or.inr ⟨by rfl, rfl⟩) (by assumption) ?_
    try simp only [Act.put, List.setIfInBounds_toArray, List.set_cons_zero, List.set_cons_succ]
    refine wpAnyH_take (i := 7) (oi := { dst := some 41, op := Go.Op.nilCheck (Go.Operand.tmp 40), type := 0, pos := "l11_papers.go:123", after := #[{ on := 6, ground := Go.Ground.data }, { on := 5, ground := Go.Ground.guard }], guard := some (5, false) }) (v := undef) rfl (by kernel_rfl) (by kernel_rfl) (by kernel_rfl) (fun _ _ _ h => h) (Or.inr ⟨by rfl, rfl⟩) (by assumption) ?_
    try simp only [Act.put, List.setIfInBounds_toArray, List.set_cons_zero, List.set_cons_succ]
    refine wpAnyH_take (i := 8) (oi := { dst := some 42, op := Go.Op.fieldAddr 134 (Go.Operand.tmp 41) 0, type := 0, pos := "l11_papers.go:123", after := #[{ on := 7, ground := Go.Ground.data }, { on := 5, ground := Go.Ground.guard }], guard := some (5, false) }) (v := undef) rfl (by kernel_rfl) (by kernel_rfl) (by kernel_rfl) (fun _ _ _ h => h) (Or.inr ⟨by rfl, rfl⟩) (by assumption) ?_
    try simp only [Act.put, List.setIfInBounds_toArray, List.set_cons_zero, List.set_cons_succ]
    refine wpAnyH_take (i := 9) (oi := { dst := some 43, op := Go.Op.load 24 (Go.Operand.tmp 42), type := 24, pos := "l11_papers.go:123", after := #[{ on := 8, ground := Go.Ground.data }, { on := 5, ground := Go.Ground.guard }], guard := some (5, false) }) (v := undef) rfl (by kernel_rfl) (by kernel_rfl) (by kernel_rfl) (fun _ _ _ h => h) (Or.inr ⟨by rfl, rfl⟩) (by assumption) ?_
    try simp only [Act.put, List.setIfInBounds_toArray, List.set_cons_zero, List.set_cons_succ]
    refine wpAnyH_take (i := 10) (oi := { dst := some 44, op := Go.Op.move (Go.Operand.tmp 1), type := 3, pos := "l11_papers.go:123", after := #[{ on := 5, ground := Go.Ground.guard }], guard := some (5, false) }) (v := undef) rfl (by kernel_rfl) (by kernel_rfl) (by kernel_rfl) (fun _ _ _ h => h) (Or.inr ⟨by rfl, rfl⟩) (by assumption) ?_
    try simp only [Act.put, List.setIfInBounds_toArray, List.set_cons_zero, List.set_cons_succ]
    refine wpAnyH_take (i := 11) (oi := { dst := some 45, op := Go.Op.indexAddr 24 (Go.Operand.tmp 43) (Go.Operand.tmp 44), type := 0, pos := "l11_papers.go:123", after := #[{ on := 9, ground := Go.Ground.data }, { on := 10, ground := Go.Ground.data }, { on := 5, ground := Go.Ground.guard }], guard := some (5, false) }) (v := undef) rfl (by kernel_rfl) (by kernel_rfl) (by kernel_rfl) (fun _ _ _ h => h) (Or.inr ⟨by rfl, rfl⟩) (by assumption) ?_
    try simp only [Act.put, List.setIfInBounds_toArray, List.set_cons_zero, List.set_cons_succ]
    refine wpAnyH_take (i := 12) (oi := { dst := some 46, op := Go.Op.load 75 (Go.Operand.tmp 45), type := 75, pos := "l11_papers.go:123", after := #[{ on := 11, ground := Go.Ground.data }, { on := 5, ground := Go.Ground.guard }], guard := some (5, false) }) (v := undef) rfl (by kernel_rfl) (by kernel_rfl) (by kernel_rfl) (fun _ _ _ h => h) (Or.inr ⟨by rfl, rfl⟩) (by assumption) ?_
    try simp only [Act.put, List.setIfInBounds_toArray, List.set_cons_zero, List.set_cons_succ]
    refine wpAnyH_take (i := 13) (oi := { dst := some 47, op := Go.Op.load 137 (Go.Operand.tmp 7), type := 137, pos := "l11_papers.go:123", after := #[{ on := 5, ground := Go.Ground.guard }], guard := some (5, false) }) (v := undef) rfl (by kernel_rfl) (by kernel_rfl) (by kernel_rfl) (fun _ _ _ h => h) (Or.inr ⟨by rfl, rfl⟩) (by assumption) ?_
    try simp only [Act.put, List.setIfInBounds_toArray, List.set_cons_zero, List.set_cons_succ]
    refine wpAnyH_take (i := 14) (oi := { dst := some 48, op := Go.Op.call { callee := Go.Callee.value (Go.Operand.func 100), args := #[Go.Operand.tmp 47], argTypes := #[137] }, type := 3, pos := "l11_papers.go:123", after := #[{ on := 13, ground := Go.Ground.data }, { on := 5, ground := Go.Ground.chain }, { on := 5, ground := Go.Ground.guard }], guard := some (5, false) }) (v := undef) rfl (by kernel_rfl) (by kernel_rfl) (by kernel_rfl) (fun _ _ _ h => h) (Or.inr ⟨by rfl, rfl⟩) (by assumption) ?_
    try simp only [Act.put, List.setIfInBounds_toArray, List.set_cons_zero, List.set_cons_succ]
    refine wpAnyH_take (i := 15) (oi := { dst := some 49, op := Go.Op.call { callee := Go.Callee.value (Go.Operand.func 102), args := #[Go.Operand.tmp 46, Go.Operand.tmp 48], argTypes := #[75, 3] }, type := 4, pos := "l11_papers.go:123", after := #[{ on := 12, ground := Go.Ground.data }, { on := 14, ground := Go.Ground.data }, { on := 14, ground := Go.Ground.chain }, { on := 5, ground := Go.Ground.guard }], guard := some (5, false) }) (v := undef) rfl (by kernel_rfl) (by kernel_rfl) (by kernel_rfl) (fun _ _ _ h => h) (Or.inr ⟨by rfl, rfl⟩) (by assumption) ?_
    try simp only [Act.put, List.setIfInBounds_toArray, List.set_cons_zero, List.set_cons_succ]
    refine wpAnyH_take (i := 16) (oi := { dst := some 50, op := Go.Op.unOp Go.UnOp.not 4 (Go.Operand.tmp 49), type := 4, pos := "l11_papers.go:123", after := #[{ on := 15, ground := Go.Ground.data }, { on := 5, ground := Go.Ground.guard }], guard := some (5, false) }) (v := undef) rfl (by kernel_rfl) (by kernel_rfl) (by kernel_rfl) (fun _ _ _ h => h) (Or.inr ⟨by rfl, rfl⟩) (by assumption) ?_
    try simp only [Act.put, List.setIfInBounds_toArray, List.set_cons_zero, List.set_cons_succ]
    refine wpAnyH_take (i := 17) (oi := { dst := some 51, op := Go.Op.pick (Go.Operand.tmp 39) (Go.Operand.const (Go.Value.bool true)) (Go.Operand.tmp 50), type := 4, pos := "l11_papers.go:123", after := #[{ on := 5, ground := Go.Ground.data }, { on := 16, ground := Go.Ground.data }], guard := none }) (v := ?_) rfl (by kernel_rfl) (by kernel_rfl) (by kernel_rfl) (fun _ _ _ h => h) (Or.inl ⟨by rfl, ?_⟩) (by assumption) ?_
    rotate_left
    · (intro w hSw; (try dsimp only at hSw); go_simp <;> try with_reducible rfl)
    try simp only [Act.put, List.setIfInBounds_toArray, List.set_cons_zero, List.set_cons_succ]
    refine wpAnyH_ready (rs := [18]) (by kernel_rfl) (by simp) ?_
    refine AllReadyH.cons (o := { dst := some 33, op := Go.Op.assign (Go.Operand.tmp 51), type := 4, pos := "l11_papers.go:123", after := #[{ on := 17, ground := Go.Ground.data }, { on := 15, ground := Go.Ground.chain }], guard := none }) rfl (fun K hK => ?_) AllReadyH.nil
    go_simp
    skip
    first | refine hK.out _ _ ?_ (fun hHeld => ?_) | (go_wp2_with fail; refine hK.out _ _ ?_ (fun hHeld => ?_))
    · (try dsimp only); refine ⟨?_, ?_, ?_, ?_, ?_, ?_, ?_, ?_⟩ <;> first | assumption | (simp [*, World.cell?_alloc_some]; done)
    clear hK K
    try simp only [Act.put, List.setIfInBounds_toArray, List.set_cons_zero, List.set_cons_succ]
    refine wpAnyH_done (by kernel_rfl) ?_ _
    refine NoPanic.normal ?_
    go_wp2
    go_returns
    exact ⟨ret_i HV.out.symm, by assumption⟩
  have hk4 : ((k : Int) == 400) = false := eq_f (by omega)
  cases hv : decide (dg (cn + 1) ≤ wd)
  · have HV : Hid (decide (dg (cn + 1) ≤ wd) = false) := hv
    have HE : Hid (refN ns c k cn lt (i : Int) day = 4) := refN_four hs hd2 hl2 (.inr (by have := of_decide_eq_false hv; simp only [Int.toNat_natCast]; rw [HX.out]; dsimp only; omega))
    clear hv
    go_enter Tryd.func55, Tryd.ntmps55
    go_wp2_with (first | (at_lookup; refine wpList_lookup_mp _ rfl _ _ 132 rfl 3 137 key3 Tryd.underlying3 Tryd.underlying132 z2 (zeroEnd _) mb k (fun s => endV (cntP p s k) (lstP p s k)) rfl HM.out (i : Int) rfl hwf (.agg #[.int .i64 (cn : Int), .int .i64 lt]) HF.out ?_) | (go_at_call 59; refine (isPlace_eq HPL.out).mono ?_; rintro e w1 ⟨rfl, ew⟩; replace ew := ew.symm; subst ew) | (go_at_call 101; refine (isDay_eq HDY.out).mono ?_; rintro e w1 ⟨rfl, ew⟩; replace ew := ew.symm; subst ew))
    refine wp_region_noPanic ?_
    refine wp_region_held_drew (S := fun w' => w'.cell? ⟨b, 0, none⟩ = some (.slice (some ⟨kb, off, none⟩) ns cap) ∧ w'.cell? ⟨b, 1, none⟩ = some (.int .i64 (k : Int)) ∧ w'.cell? ⟨b, 2, none⟩ = some (.map (some mb)) ∧ w'.cell? ⟨w.heap.size, 0, none⟩ = some (.int .i64 (cn : Int)) ∧ w'.cell? ⟨w.heap.size, 1, none⟩ = some (.int .i64 lt) ∧ w'.cell? ⟨kb, off + i * 2, none⟩ = some (.string pr) ∧ w'.cell? ⟨kb, off + i * 2 + 1, none⟩ = some (.int .i64 wd) ∧ Below w.heap.size w w') (by kernel_rfl) ?_ (fun hHeld => ?_)
    · (try dsimp only); refine ⟨?_, ?_, ?_, ?_, ?_, ?_, ?_, ?_⟩ <;> first | assumption | (simp [*, World.cell?_alloc_some]; done)
    refine wpAnyH_take (i := 0) (oi := { dst := some 34, op := Go.Op.move (Go.Operand.tmp 0), type := 79, pos := "l11_papers.go:123", after := #[], guard := none }) (v := ?_) rfl (by kernel_rfl) (by kernel_rfl) (by kernel_rfl) (fun _ _ _ h => h) (Or.inl ⟨by rfl, ?_⟩) (by assumption) ?_
    rotate_left
    · (intro w hSw; (try dsimp only at hSw); go_simp <;> try with_reducible rfl)
    try simp only [Act.put, List.setIfInBounds_toArray, List.set_cons_zero, List.set_cons_succ]
    refine wpAnyH_take (i := 1) (oi := { dst := some 35, op := Go.Op.nilCheck (Go.Operand.tmp 34), type := 0, pos := "l11_papers.go:123", after := #[{ on := 0, ground := Go.Ground.data }], guard := none }) (v := ?_) rfl (by kernel_rfl) (by kernel_rfl) (by kernel_rfl) (fun _ _ _ h => h) (Or.inl ⟨by rfl, ?_⟩) (by assumption) ?_
    rotate_left
    · (intro w hSw; (try dsimp only at hSw); go_simp <;> try with_reducible rfl)
    try simp only [Act.put, List.setIfInBounds_toArray, List.set_cons_zero, List.set_cons_succ]
    refine wpAnyH_take (i := 2) (oi := { dst := some 36, op := Go.Op.fieldAddr 134 (Go.Operand.tmp 35) 1, type := 0, pos := "l11_papers.go:123", after := #[{ on := 1, ground := Go.Ground.data }], guard := none }) (v := ?_) rfl (by kernel_rfl) (by kernel_rfl) (by kernel_rfl) (fun _ _ _ h => h) (Or.inl ⟨by rfl, ?_⟩) (by assumption) ?_
    rotate_left
    · (intro w hSw; (try dsimp only at hSw); go_simp <;> try with_reducible rfl)
    try simp only [Act.put, List.setIfInBounds_toArray, List.set_cons_zero, List.set_cons_succ]
    refine wpAnyH_take (i := 3) (oi := { dst := some 37, op := Go.Op.load 3 (Go.Operand.tmp 36), type := 3, pos := "l11_papers.go:123", after := #[{ on := 2, ground := Go.Ground.data }], guard := none }) (v := ?_) rfl (by kernel_rfl) (by kernel_rfl) (by kernel_rfl) (fun _ _ _ h => h) (Or.inl ⟨by rfl, ?_⟩) (by assumption) ?_
    rotate_left
    · (intro w hSw; (try dsimp only at hSw); go_simp <;> try with_reducible rfl)
    try simp only [Act.put, List.setIfInBounds_toArray, List.set_cons_zero, List.set_cons_succ]
    refine wpAnyH_take (i := 4) (oi := { dst := some 38, op := Go.Op.binOp Go.BinOp.eql 3 (Go.Operand.tmp 37) (Go.Operand.const (Go.Value.int Go.IntKind.i64 400)) 3, type := 4, pos := "l11_papers.go:123", after := #[{ on := 3, ground := Go.Ground.data }], guard := none }) (v := ?_) rfl (by kernel_rfl) (by kernel_rfl) (by kernel_rfl) (fun _ _ _ h => h) (Or.inl ⟨by rfl, ?_⟩) (by assumption) ?_
    rotate_left
    · (intro w hSw; (try dsimp only at hSw); go_simp <;> try with_reducible rfl)
    try simp only [Act.put, List.setIfInBounds_toArray, List.set_cons_zero, List.set_cons_succ]
    refine wpAnyH_take (i := 5) (oi := { dst := some 39, op := Go.Op.move (Go.Operand.tmp 38), type := 4, pos := "l11_papers.go:123", after := #[{ on := 4, ground := Go.Ground.data }], guard := none }) (v := ?_) rfl (by kernel_rfl) (by kernel_rfl) (by kernel_rfl) (fun _ _ _ h => h) (Or.inl ⟨by rfl, ?_⟩) (by assumption) ?_
    rotate_left
    · (intro w hSw; (try dsimp only at hSw); go_simp <;> try with_reducible rfl)
    try simp only [Act.put, List.setIfInBounds_toArray, List.set_cons_zero, List.set_cons_succ]
    refine wpAnyH_take (i := 6) (oi := { dst := some 40, op := Go.Op.move (Go.Operand.tmp 0), type := 79, pos := "l11_papers.go:123", after := #[{ on := 5, ground := Go.Ground.guard }], guard := some (5, false) }) (v := ?_) rfl (by kernel_rfl) (by kernel_rfl) (by kernel_rfl) (fun _ _ _ h => h) (Or.inl ⟨by rfl, ?_⟩) (by assumption) ?_
    rotate_left
    · (intro w hSw; (try dsimp only at hSw); go_simp <;> try with_reducible rfl)
    try simp only [Act.put, List.setIfInBounds_toArray, List.set_cons_zero, List.set_cons_succ]
    refine wpAnyH_take (i := 7) (oi := { dst := some 41, op := Go.Op.nilCheck (Go.Operand.tmp 40), type := 0, pos := "l11_papers.go:123", after := #[{ on := 6, ground := Go.Ground.data }, { on := 5, ground := Go.Ground.guard }], guard := some (5, false) }) (v := ?_) rfl (by kernel_rfl) (by kernel_rfl) (by kernel_rfl) (fun _ _ _ h => h) (Or.inl ⟨by rfl, ?_⟩) (by assumption) ?_
    rotate_left
    · (intro w hSw; (try dsimp only at hSw); go_simp <;> try with_reducible rfl)
    try simp only [Act.put, List.setIfInBounds_toArray, List.set_cons_zero, List.set_cons_succ]
    refine wpAnyH_take (i := 8) (oi := { dst := some 42, op := Go.Op.fieldAddr 134 (Go.Operand.tmp 41) 0, type := 0, pos := "l11_papers.go:123", after := #[{ on := 7, ground := Go.Ground.data }, { on := 5, ground := Go.Ground.guard }], guard := some (5, false) }) (v := ?_) rfl (by kernel_rfl) (by kernel_rfl) (by kernel_rfl) (fun _ _ _ h => h) (Or.inl ⟨by rfl, ?_⟩) (by assumption) ?_
    rotate_left
    · (intro w hSw; (try dsimp only at hSw); go_simp <;> try with_reducible rfl)
    try simp only [Act.put, List.setIfInBounds_toArray, List.set_cons_zero, List.set_cons_succ]
    refine wpAnyH_take (i := 9) (oi := { dst := some 43, op := Go.Op.load 24 (Go.Operand.tmp 42), type := 24, pos := "l11_papers.go:123", after := #[{ on := 8, ground := Go.Ground.data }, { on := 5, ground := Go.Ground.guard }], guard := some (5, false) }) (v := ?_) rfl (by kernel_rfl) (by kernel_rfl) (by kernel_rfl) (fun _ _ _ h => h) (Or.inl ⟨by rfl, ?_⟩) (by assumption) ?_
    rotate_left
    · (intro w hSw; (try dsimp only at hSw); go_simp <;> try with_reducible rfl)
    try simp only [Act.put, List.setIfInBounds_toArray, List.set_cons_zero, List.set_cons_succ]
    refine wpAnyH_take (i := 10) (oi := { dst := some 44, op := Go.Op.move (Go.Operand.tmp 1), type := 3, pos := "l11_papers.go:123", after := #[{ on := 5, ground := Go.Ground.guard }], guard := some (5, false) }) (v := ?_) rfl (by kernel_rfl) (by kernel_rfl) (by kernel_rfl) (fun _ _ _ h => h) (Or.inl ⟨by rfl, ?_⟩) (by assumption) ?_
    rotate_left
    · (intro w hSw; (try dsimp only at hSw); go_simp <;> try with_reducible rfl)
    try simp only [Act.put, List.setIfInBounds_toArray, List.set_cons_zero, List.set_cons_succ]
    refine wpAnyH_take (i := 11) (oi := { dst := some 45, op := Go.Op.indexAddr 24 (Go.Operand.tmp 43) (Go.Operand.tmp 44), type := 0, pos := "l11_papers.go:123", after := #[{ on := 9, ground := Go.Ground.data }, { on := 10, ground := Go.Ground.data }, { on := 5, ground := Go.Ground.guard }], guard := some (5, false) }) (v := ?_) rfl (by kernel_rfl) (by kernel_rfl) (by kernel_rfl) (fun _ _ _ h => h) (Or.inl ⟨by rfl, ?_⟩) (by assumption) ?_
    rotate_left
    · (intro w hSw; (try dsimp only at hSw); go_simp <;> try with_reducible rfl)
    try simp only [Act.put, List.setIfInBounds_toArray, List.set_cons_zero, List.set_cons_succ]
    refine wpAnyH_take (i := 12) (oi := { dst := some 46, op := Go.Op.load 75 (Go.Operand.tmp 45), type := 75, pos := "l11_papers.go:123", after := #[{ on := 11, ground := Go.Ground.data }, { on := 5, ground := Go.Ground.guard }], guard := some (5, false) }) (v := ?_) rfl (by kernel_rfl) (by kernel_rfl) (by kernel_rfl) (fun _ _ _ h => h) (Or.inl ⟨by rfl, ?_⟩) (by assumption) ?_
    rotate_left
    · (intro w hSw; (try dsimp only at hSw); go_simp <;> try with_reducible rfl)
    try simp only [Act.put, List.setIfInBounds_toArray, List.set_cons_zero, List.set_cons_succ]
    refine wpAnyH_take (i := 13) (oi := { dst := some 47, op := Go.Op.load 137 (Go.Operand.tmp 7), type := 137, pos := "l11_papers.go:123", after := #[{ on := 5, ground := Go.Ground.guard }], guard := some (5, false) }) (v := ?_) rfl (by kernel_rfl) (by kernel_rfl) (by kernel_rfl) (fun _ _ _ h => h) (Or.inl ⟨by rfl, ?_⟩) (by assumption) ?_
    rotate_left
    · (intro w hSw; (try dsimp only at hSw); go_simp <;> try with_reducible rfl)
    try simp only [Act.put, List.setIfInBounds_toArray, List.set_cons_zero, List.set_cons_succ]
    refine wpAnyH_ready (rs := [14]) (by kernel_rfl) (by simp) ?_
    refine AllReadyH.cons (o := { dst := some 48, op := Go.Op.call { callee := Go.Callee.value (Go.Operand.func 100), args := #[Go.Operand.tmp 47], argTypes := #[137] }, type := 3, pos := "l11_papers.go:123", after := #[{ on := 13, ground := Go.Ground.data }, { on := 5, ground := Go.Ground.chain }, { on := 5, ground := Go.Ground.guard }], guard := some (5, false) }) rfl (fun K hK => ?_) AllReadyH.nil
    go_simp
    (go_at_call 100; refine (next_any cn lt _ hcn).mono ?_; rintro e w2 ⟨rfl, b2⟩; have q1_0 : w2.cell? ⟨b, 0, none⟩ = some (.slice (some ⟨kb, off, none⟩) ns cap) := keep_cell b2 (by simp [*]); have q1_1 : w2.cell? ⟨b, 1, none⟩ = some (.int .i64 (k : Int)) := keep_cell b2 (by simp [*]); have q1_2 : w2.cell? ⟨b, 2, none⟩ = some (.map (some mb)) := keep_cell b2 (by simp [*]); have q1_3 : w2.cell? ⟨w.heap.size, 0, none⟩ = some (.int .i64 (cn : Int)) := keep_cell b2 (by simp [*]); have q1_4 : w2.cell? ⟨w.heap.size, 1, none⟩ = some (.int .i64 lt) := keep_cell b2 (by simp [*]); have q1_5 : w2.cell? ⟨kb, off + i * 2, none⟩ = some (.string pr) := keep_cell b2 (by simp [*]); have q1_6 : w2.cell? ⟨kb, off + i * 2 + 1, none⟩ = some (.int .i64 wd) := keep_cell b2 (by simp [*]); have p1 : Below w.heap.size w w2 := bel_on (by assumption) b2; clear b2)
    first | refine hK.out _ _ ?_ (fun hHeld => ?_) | (go_wp2_with fail; refine hK.out _ _ ?_ (fun hHeld => ?_))
    · (try dsimp only); refine ⟨?_, ?_, ?_, ?_, ?_, ?_, ?_, ?_⟩ <;> first | assumption | (simp [*, World.cell?_alloc_some]; done)
    clear hK K
    try simp only [Act.put, List.setIfInBounds_toArray, List.set_cons_zero, List.set_cons_succ]
    refine wpAnyH_ready (rs := [15]) (by kernel_rfl) (by simp) ?_
    refine AllReadyH.cons (o := { dst := some 49, op := Go.Op.call { callee := Go.Callee.value (Go.Operand.func 102), args := #[Go.Operand.tmp 46, Go.Operand.tmp 48], argTypes := #[75, 3] }, type := 4, pos := "l11_papers.go:123", after := #[{ on := 12, ground := Go.Ground.data }, { on := 14, ground := Go.Ground.data }, { on := 14, ground := Go.Ground.chain }, { on := 5, ground := Go.Ground.guard }], guard := some (5, false) }) rfl (fun K hK => ?_) AllReadyH.nil
    go_simp
    (go_at_call 102; refine (fits_any ⟨pr, wd⟩ (cn + 1) _ _ (by omega) (HT.out.below (by assumption)) HV.out).mono ?_; rintro e w3 ⟨rfl, b3⟩; have q2_0 : w3.cell? ⟨b, 0, none⟩ = some (.slice (some ⟨kb, off, none⟩) ns cap) := keep_cell b3 (by simp [*]); have q2_1 : w3.cell? ⟨b, 1, none⟩ = some (.int .i64 (k : Int)) := keep_cell b3 (by simp [*]); have q2_2 : w3.cell? ⟨b, 2, none⟩ = some (.map (some mb)) := keep_cell b3 (by simp [*]); have q2_3 : w3.cell? ⟨w.heap.size, 0, none⟩ = some (.int .i64 (cn : Int)) := keep_cell b3 (by simp [*]); have q2_4 : w3.cell? ⟨w.heap.size, 1, none⟩ = some (.int .i64 lt) := keep_cell b3 (by simp [*]); have q2_5 : w3.cell? ⟨kb, off + i * 2, none⟩ = some (.string pr) := keep_cell b3 (by simp [*]); have q2_6 : w3.cell? ⟨kb, off + i * 2 + 1, none⟩ = some (.int .i64 wd) := keep_cell b3 (by simp [*]); have p2 : Below w.heap.size w w3 := bel_on (by assumption) b3; clear b3)
    first | refine hK.out _ _ ?_ (fun hHeld => ?_) | (go_wp2_with fail; refine hK.out _ _ ?_ (fun hHeld => ?_))
    · (try dsimp only); refine ⟨?_, ?_, ?_, ?_, ?_, ?_, ?_, ?_⟩ <;> first | assumption | (simp [*, World.cell?_alloc_some]; done)
    clear hK K
    try simp only [Act.put, List.setIfInBounds_toArray, List.set_cons_zero, List.set_cons_succ]
    refine wpAnyH_take (i := 16) (oi := { dst := some 50, op := Go.Op.unOp Go.UnOp.not 4 (Go.Operand.tmp 49), type := 4, pos := "l11_papers.go:123", after := #[{ on := 15, ground := Go.Ground.data }, { on := 5, ground := Go.Ground.guard }], guard := some (5, false) }) (v := ?_) rfl (by kernel_rfl) (by kernel_rfl) (by kernel_rfl) (fun _ _ _ h => h) (Or.inl ⟨by rfl, ?_⟩) (by assumption) ?_
    rotate_left
    · (intro w hSw; (try dsimp only at hSw); go_simp <;> try with_reducible rfl)
    try simp only [Act.put, List.setIfInBounds_toArray, List.set_cons_zero, List.set_cons_succ]
    refine wpAnyH_take (i := 17) (oi := { dst := some 51, op := Go.Op.pick (Go.Operand.tmp 39) (Go.Operand.const (Go.Value.bool true)) (Go.Operand.tmp 50), type := 4, pos := "l11_papers.go:123", after := #[{ on := 5, ground := Go.Ground.data }, { on := 16, ground := Go.Ground.data }], guard := none }) (v := ?_) rfl (by kernel_rfl) (by kernel_rfl) (by kernel_rfl) (fun _ _ _ h => h) (Or.inl ⟨by rfl, ?_⟩) (by assumption) ?_
    rotate_left
    · (intro w hSw; (try dsimp only at hSw); go_simp <;> try with_reducible rfl)
    try simp only [Act.put, List.setIfInBounds_toArray, List.set_cons_zero, List.set_cons_succ]
    refine wpAnyH_ready (rs := [18]) (by kernel_rfl) (by simp) ?_
    refine AllReadyH.cons (o := { dst := some 33, op := Go.Op.assign (Go.Operand.tmp 51), type := 4, pos := "l11_papers.go:123", after := #[{ on := 17, ground := Go.Ground.data }, { on := 15, ground := Go.Ground.chain }], guard := none }) rfl (fun K hK => ?_) AllReadyH.nil
    go_simp
    skip
    first | refine hK.out _ _ ?_ (fun hHeld => ?_) | (go_wp2_with fail; refine hK.out _ _ ?_ (fun hHeld => ?_))
    · (try dsimp only); refine ⟨?_, ?_, ?_, ?_, ?_, ?_, ?_, ?_⟩ <;> first | assumption | (simp [*, World.cell?_alloc_some]; done)
    clear hK K
    try simp only [Act.put, List.setIfInBounds_toArray, List.set_cons_zero, List.set_cons_succ]
    refine wpAnyH_done (by kernel_rfl) ?_ _
    refine NoPanic.normal ?_
    go_wp2
    go_returns
    exact ⟨ret_i HE.out.symm, by assumption⟩
  · have HV : Hid (decide (dg (cn + 1) ≤ wd) = true) := hv
    have HE : Hid (refN ns c k cn lt (i : Int) day = 0) := refN_zero hs hd2 hl2 hf (by have := of_decide_eq_true hv; simp only [Int.toNat_natCast]; rw [HX.out]; dsimp only; omega)
    clear hv
    go_enter Tryd.func55, Tryd.ntmps55
    go_wp2_with (first | (at_lookup; refine wpList_lookup_mp _ rfl _ _ 132 rfl 3 137 key3 Tryd.underlying3 Tryd.underlying132 z2 (zeroEnd _) mb k (fun s => endV (cntP p s k) (lstP p s k)) rfl HM.out (i : Int) rfl hwf (.agg #[.int .i64 (cn : Int), .int .i64 lt]) HF.out ?_) | (go_at_call 59; refine (isPlace_eq HPL.out).mono ?_; rintro e w1 ⟨rfl, ew⟩; replace ew := ew.symm; subst ew) | (go_at_call 101; refine (isDay_eq HDY.out).mono ?_; rintro e w1 ⟨rfl, ew⟩; replace ew := ew.symm; subst ew))
    refine wp_region_noPanic ?_
    refine wp_region_held_drew (S := fun w' => w'.cell? ⟨b, 0, none⟩ = some (.slice (some ⟨kb, off, none⟩) ns cap) ∧ w'.cell? ⟨b, 1, none⟩ = some (.int .i64 (k : Int)) ∧ w'.cell? ⟨b, 2, none⟩ = some (.map (some mb)) ∧ w'.cell? ⟨w.heap.size, 0, none⟩ = some (.int .i64 (cn : Int)) ∧ w'.cell? ⟨w.heap.size, 1, none⟩ = some (.int .i64 lt) ∧ w'.cell? ⟨kb, off + i * 2, none⟩ = some (.string pr) ∧ w'.cell? ⟨kb, off + i * 2 + 1, none⟩ = some (.int .i64 wd) ∧ Below w.heap.size w w') (by kernel_rfl) ?_ (fun hHeld => ?_)
    · (try dsimp only); refine ⟨?_, ?_, ?_, ?_, ?_, ?_, ?_, ?_⟩ <;> first | assumption | (simp [*, World.cell?_alloc_some]; done)
    refine wpAnyH_take (i := 0) (oi := { dst := some 34, op := Go.Op.move (Go.Operand.tmp 0), type := 79, pos := "l11_papers.go:123", after := #[], guard := none }) (v := ?_) rfl (by kernel_rfl) (by kernel_rfl) (by kernel_rfl) (fun _ _ _ h => h) (Or.inl ⟨by rfl, ?_⟩) (by assumption) ?_
    rotate_left
    · (intro w hSw; (try dsimp only at hSw); go_simp <;> try with_reducible rfl)
    try simp only [Act.put, List.setIfInBounds_toArray, List.set_cons_zero, List.set_cons_succ]
    refine wpAnyH_take (i := 1) (oi := { dst := some 35, op := Go.Op.nilCheck (Go.Operand.tmp 34), type := 0, pos := "l11_papers.go:123", after := #[{ on := 0, ground := Go.Ground.data }], guard := none }) (v := ?_) rfl (by kernel_rfl) (by kernel_rfl) (by kernel_rfl) (fun _ _ _ h => h) (Or.inl ⟨by rfl, ?_⟩) (by assumption) ?_
    rotate_left
    · (intro w hSw; (try dsimp only at hSw); go_simp <;> try with_reducible rfl)
    try simp only [Act.put, List.setIfInBounds_toArray, List.set_cons_zero, List.set_cons_succ]
    refine wpAnyH_take (i := 2) (oi := { dst := some 36, op := Go.Op.fieldAddr 134 (Go.Operand.tmp 35) 1, type := 0, pos := "l11_papers.go:123", after := #[{ on := 1, ground := Go.Ground.data }], guard := none }) (v := ?_) rfl (by kernel_rfl) (by kernel_rfl) (by kernel_rfl) (fun _ _ _ h => h) (Or.inl ⟨by rfl, ?_⟩) (by assumption) ?_
    rotate_left
    · (intro w hSw; (try dsimp only at hSw); go_simp <;> try with_reducible rfl)
    try simp only [Act.put, List.setIfInBounds_toArray, List.set_cons_zero, List.set_cons_succ]
    refine wpAnyH_take (i := 3) (oi := { dst := some 37, op := Go.Op.load 3 (Go.Operand.tmp 36), type := 3, pos := "l11_papers.go:123", after := #[{ on := 2, ground := Go.Ground.data }], guard := none }) (v := ?_) rfl (by kernel_rfl) (by kernel_rfl) (by kernel_rfl) (fun _ _ _ h => h) (Or.inl ⟨by rfl, ?_⟩) (by assumption) ?_
    rotate_left
    · (intro w hSw; (try dsimp only at hSw); go_simp <;> try with_reducible rfl)
    try simp only [Act.put, List.setIfInBounds_toArray, List.set_cons_zero, List.set_cons_succ]
    refine wpAnyH_take (i := 4) (oi := { dst := some 38, op := Go.Op.binOp Go.BinOp.eql 3 (Go.Operand.tmp 37) (Go.Operand.const (Go.Value.int Go.IntKind.i64 400)) 3, type := 4, pos := "l11_papers.go:123", after := #[{ on := 3, ground := Go.Ground.data }], guard := none }) (v := ?_) rfl (by kernel_rfl) (by kernel_rfl) (by kernel_rfl) (fun _ _ _ h => h) (Or.inl ⟨by rfl, ?_⟩) (by assumption) ?_
    rotate_left
    · (intro w hSw; (try dsimp only at hSw); go_simp <;> try with_reducible rfl)
    try simp only [Act.put, List.setIfInBounds_toArray, List.set_cons_zero, List.set_cons_succ]
    refine wpAnyH_take (i := 5) (oi := { dst := some 39, op := Go.Op.move (Go.Operand.tmp 38), type := 4, pos := "l11_papers.go:123", after := #[{ on := 4, ground := Go.Ground.data }], guard := none }) (v := ?_) rfl (by kernel_rfl) (by kernel_rfl) (by kernel_rfl) (fun _ _ _ h => h) (Or.inl ⟨by rfl, ?_⟩) (by assumption) ?_
    rotate_left
    · (intro w hSw; (try dsimp only at hSw); go_simp <;> try with_reducible rfl)
    try simp only [Act.put, List.setIfInBounds_toArray, List.set_cons_zero, List.set_cons_succ]
    refine wpAnyH_take (i := 6) (oi := { dst := some 40, op := Go.Op.move (Go.Operand.tmp 0), type := 79, pos := "l11_papers.go:123", after := #[{ on := 5, ground := Go.Ground.guard }], guard := some (5, false) }) (v := ?_) rfl (by kernel_rfl) (by kernel_rfl) (by kernel_rfl) (fun _ _ _ h => h) (Or.inl ⟨by rfl, ?_⟩) (by assumption) ?_
    rotate_left
    · (intro w hSw; (try dsimp only at hSw); go_simp <;> try with_reducible rfl)
    try simp only [Act.put, List.setIfInBounds_toArray, List.set_cons_zero, List.set_cons_succ]
    refine wpAnyH_take (i := 7) (oi := { dst := some 41, op := Go.Op.nilCheck (Go.Operand.tmp 40), type := 0, pos := "l11_papers.go:123", after := #[{ on := 6, ground := Go.Ground.data }, { on := 5, ground := Go.Ground.guard }], guard := some (5, false) }) (v := ?_) rfl (by kernel_rfl) (by kernel_rfl) (by kernel_rfl) (fun _ _ _ h => h) (Or.inl ⟨by rfl, ?_⟩) (by assumption) ?_
    rotate_left
    · (intro w hSw; (try dsimp only at hSw); go_simp <;> try with_reducible rfl)
    try simp only [Act.put, List.setIfInBounds_toArray, List.set_cons_zero, List.set_cons_succ]
    refine wpAnyH_take (i := 8) (oi := { dst := some 42, op := Go.Op.fieldAddr 134 (Go.Operand.tmp 41) 0, type := 0, pos := "l11_papers.go:123", after := #[{ on := 7, ground := Go.Ground.data }, { on := 5, ground := Go.Ground.guard }], guard := some (5, false) }) (v := ?_) rfl (by kernel_rfl) (by kernel_rfl) (by kernel_rfl) (fun _ _ _ h => h) (Or.inl ⟨by rfl, ?_⟩) (by assumption) ?_
    rotate_left
    · (intro w hSw; (try dsimp only at hSw); go_simp <;> try with_reducible rfl)
    try simp only [Act.put, List.setIfInBounds_toArray, List.set_cons_zero, List.set_cons_succ]
    refine wpAnyH_take (i := 9) (oi := { dst := some 43, op := Go.Op.load 24 (Go.Operand.tmp 42), type := 24, pos := "l11_papers.go:123", after := #[{ on := 8, ground := Go.Ground.data }, { on := 5, ground := Go.Ground.guard }], guard := some (5, false) }) (v := ?_) rfl (by kernel_rfl) (by kernel_rfl) (by kernel_rfl) (fun _ _ _ h => h) (Or.inl ⟨by rfl, ?_⟩) (by assumption) ?_
    rotate_left
    · (intro w hSw; (try dsimp only at hSw); go_simp <;> try with_reducible rfl)
    try simp only [Act.put, List.setIfInBounds_toArray, List.set_cons_zero, List.set_cons_succ]
    refine wpAnyH_take (i := 10) (oi := { dst := some 44, op := Go.Op.move (Go.Operand.tmp 1), type := 3, pos := "l11_papers.go:123", after := #[{ on := 5, ground := Go.Ground.guard }], guard := some (5, false) }) (v := ?_) rfl (by kernel_rfl) (by kernel_rfl) (by kernel_rfl) (fun _ _ _ h => h) (Or.inl ⟨by rfl, ?_⟩) (by assumption) ?_
    rotate_left
    · (intro w hSw; (try dsimp only at hSw); go_simp <;> try with_reducible rfl)
    try simp only [Act.put, List.setIfInBounds_toArray, List.set_cons_zero, List.set_cons_succ]
    refine wpAnyH_take (i := 11) (oi := { dst := some 45, op := Go.Op.indexAddr 24 (Go.Operand.tmp 43) (Go.Operand.tmp 44), type := 0, pos := "l11_papers.go:123", after := #[{ on := 9, ground := Go.Ground.data }, { on := 10, ground := Go.Ground.data }, { on := 5, ground := Go.Ground.guard }], guard := some (5, false) }) (v := ?_) rfl (by kernel_rfl) (by kernel_rfl) (by kernel_rfl) (fun _ _ _ h => h) (Or.inl ⟨by rfl, ?_⟩) (by assumption) ?_
    rotate_left
    · (intro w hSw; (try dsimp only at hSw); go_simp <;> try with_reducible rfl)
    try simp only [Act.put, List.setIfInBounds_toArray, List.set_cons_zero, List.set_cons_succ]
    refine wpAnyH_take (i := 12) (oi := { dst := some 46, op := Go.Op.load 75 (Go.Operand.tmp 45), type := 75, pos := "l11_papers.go:123", after := #[{ on := 11, ground := Go.Ground.data }, { on := 5, ground := Go.Ground.guard }], guard := some (5, false) }) (v := ?_) rfl (by kernel_rfl) (by kernel_rfl) (by kernel_rfl) (fun _ _ _ h => h) (Or.inl ⟨by rfl, ?_⟩) (by assumption) ?_
    rotate_left
    · (intro w hSw; (try dsimp only at hSw); go_simp <;> try with_reducible rfl)
    try simp only [Act.put, List.setIfInBounds_toArray, List.set_cons_zero, List.set_cons_succ]
    refine wpAnyH_take (i := 13) (oi := { dst := some 47, op := Go.Op.load 137 (Go.Operand.tmp 7), type := 137, pos := "l11_papers.go:123", after := #[{ on := 5, ground := Go.Ground.guard }], guard := some (5, false) }) (v := ?_) rfl (by kernel_rfl) (by kernel_rfl) (by kernel_rfl) (fun _ _ _ h => h) (Or.inl ⟨by rfl, ?_⟩) (by assumption) ?_
    rotate_left
    · (intro w hSw; (try dsimp only at hSw); go_simp <;> try with_reducible rfl)
    try simp only [Act.put, List.setIfInBounds_toArray, List.set_cons_zero, List.set_cons_succ]
    refine wpAnyH_ready (rs := [14]) (by kernel_rfl) (by simp) ?_
    refine AllReadyH.cons (o := { dst := some 48, op := Go.Op.call { callee := Go.Callee.value (Go.Operand.func 100), args := #[Go.Operand.tmp 47], argTypes := #[137] }, type := 3, pos := "l11_papers.go:123", after := #[{ on := 13, ground := Go.Ground.data }, { on := 5, ground := Go.Ground.chain }, { on := 5, ground := Go.Ground.guard }], guard := some (5, false) }) rfl (fun K hK => ?_) AllReadyH.nil
    go_simp
    (go_at_call 100; refine (next_any cn lt _ hcn).mono ?_; rintro e w2 ⟨rfl, b2⟩; have q1_0 : w2.cell? ⟨b, 0, none⟩ = some (.slice (some ⟨kb, off, none⟩) ns cap) := keep_cell b2 (by simp [*]); have q1_1 : w2.cell? ⟨b, 1, none⟩ = some (.int .i64 (k : Int)) := keep_cell b2 (by simp [*]); have q1_2 : w2.cell? ⟨b, 2, none⟩ = some (.map (some mb)) := keep_cell b2 (by simp [*]); have q1_3 : w2.cell? ⟨w.heap.size, 0, none⟩ = some (.int .i64 (cn : Int)) := keep_cell b2 (by simp [*]); have q1_4 : w2.cell? ⟨w.heap.size, 1, none⟩ = some (.int .i64 lt) := keep_cell b2 (by simp [*]); have q1_5 : w2.cell? ⟨kb, off + i * 2, none⟩ = some (.string pr) := keep_cell b2 (by simp [*]); have q1_6 : w2.cell? ⟨kb, off + i * 2 + 1, none⟩ = some (.int .i64 wd) := keep_cell b2 (by simp [*]); have p1 : Below w.heap.size w w2 := bel_on (by assumption) b2; clear b2)
    first | refine hK.out _ _ ?_ (fun hHeld => ?_) | (go_wp2_with fail; refine hK.out _ _ ?_ (fun hHeld => ?_))
    · (try dsimp only); refine ⟨?_, ?_, ?_, ?_, ?_, ?_, ?_, ?_⟩ <;> first | assumption | (simp [*, World.cell?_alloc_some]; done)
    clear hK K
    try simp only [Act.put, List.setIfInBounds_toArray, List.set_cons_zero, List.set_cons_succ]
    refine wpAnyH_ready (rs := [15]) (by kernel_rfl) (by simp) ?_
    refine AllReadyH.cons (o := { dst := some 49, op := Go.Op.call { callee := Go.Callee.value (Go.Operand.func 102), args := #[Go.Operand.tmp 46, Go.Operand.tmp 48], argTypes := #[75, 3] }, type := 4, pos := "l11_papers.go:123", after := #[{ on := 12, ground := Go.Ground.data }, { on := 14, ground := Go.Ground.data }, { on := 14, ground := Go.Ground.chain }, { on := 5, ground := Go.Ground.guard }], guard := some (5, false) }) rfl (fun K hK => ?_) AllReadyH.nil
    go_simp
    (go_at_call 102; refine (fits_any ⟨pr, wd⟩ (cn + 1) _ _ (by omega) (HT.out.below (by assumption)) HV.out).mono ?_; rintro e w3 ⟨rfl, b3⟩; have q2_0 : w3.cell? ⟨b, 0, none⟩ = some (.slice (some ⟨kb, off, none⟩) ns cap) := keep_cell b3 (by simp [*]); have q2_1 : w3.cell? ⟨b, 1, none⟩ = some (.int .i64 (k : Int)) := keep_cell b3 (by simp [*]); have q2_2 : w3.cell? ⟨b, 2, none⟩ = some (.map (some mb)) := keep_cell b3 (by simp [*]); have q2_3 : w3.cell? ⟨w.heap.size, 0, none⟩ = some (.int .i64 (cn : Int)) := keep_cell b3 (by simp [*]); have q2_4 : w3.cell? ⟨w.heap.size, 1, none⟩ = some (.int .i64 lt) := keep_cell b3 (by simp [*]); have q2_5 : w3.cell? ⟨kb, off + i * 2, none⟩ = some (.string pr) := keep_cell b3 (by simp [*]); have q2_6 : w3.cell? ⟨kb, off + i * 2 + 1, none⟩ = some (.int .i64 wd) := keep_cell b3 (by simp [*]); have p2 : Below w.heap.size w w3 := bel_on (by assumption) b3; clear b3)
    first | refine hK.out _ _ ?_ (fun hHeld => ?_) | (go_wp2_with fail; refine hK.out _ _ ?_ (fun hHeld => ?_))
    · (try dsimp only); refine ⟨?_, ?_, ?_, ?_, ?_, ?_, ?_, ?_⟩ <;> first | assumption | (simp [*, World.cell?_alloc_some]; done)
    clear hK K
    try simp only [Act.put, List.setIfInBounds_toArray, List.set_cons_zero, List.set_cons_succ]
    refine wpAnyH_take (i := 16) (oi := { dst := some 50, op := Go.Op.unOp Go.UnOp.not 4 (Go.Operand.tmp 49), type := 4, pos := "l11_papers.go:123", after := #[{ on := 15, ground := Go.Ground.data }, { on := 5, ground := Go.Ground.guard }], guard := some (5, false) }) (v := ?_) rfl (by kernel_rfl) (by kernel_rfl) (by kernel_rfl) (fun _ _ _ h => h) (Or.inl ⟨by rfl, ?_⟩) (by assumption) ?_
    rotate_left
    · (intro w hSw; (try dsimp only at hSw); go_simp <;> try with_reducible rfl)
    try simp only [Act.put, List.setIfInBounds_toArray, List.set_cons_zero, List.set_cons_succ]
    refine wpAnyH_take (i := 17) (oi := { dst := some 51, op := Go.Op.pick (Go.Operand.tmp 39) (Go.Operand.const (Go.Value.bool true)) (Go.Operand.tmp 50), type := 4, pos := "l11_papers.go:123", after := #[{ on := 5, ground := Go.Ground.data }, { on := 16, ground := Go.Ground.data }], guard := none }) (v := ?_) rfl (by kernel_rfl) (by kernel_rfl) (by kernel_rfl) (fun _ _ _ h => h) (Or.inl ⟨by rfl, ?_⟩) (by assumption) ?_
    rotate_left
    · (intro w hSw; (try dsimp only at hSw); go_simp <;> try with_reducible rfl)
    try simp only [Act.put, List.setIfInBounds_toArray, List.set_cons_zero, List.set_cons_succ]
    refine wpAnyH_ready (rs := [18]) (by kernel_rfl) (by simp) ?_
    refine AllReadyH.cons (o := { dst := some 33, op := Go.Op.assign (Go.Operand.tmp 51), type := 4, pos := "l11_papers.go:123", after := #[{ on := 17, ground := Go.Ground.data }, { on := 15, ground := Go.Ground.chain }], guard := none }) rfl (fun K hK => ?_) AllReadyH.nil
    go_simp
    skip
    first | refine hK.out _ _ ?_ (fun hHeld => ?_) | (go_wp2_with fail; refine hK.out _ _ ?_ (fun hHeld => ?_))
    · (try dsimp only); refine ⟨?_, ?_, ?_, ?_, ?_, ?_, ?_, ?_⟩ <;> first | assumption | (simp [*, World.cell?_alloc_some]; done)
    clear hK K
    try simp only [Act.put, List.setIfInBounds_toArray, List.set_cons_zero, List.set_cons_succ]
    refine wpAnyH_done (by kernel_rfl) ?_ _
    refine NoPanic.normal ?_
    go_wp2
    go_returns
    exact ⟨ret_i HE.out.symm, by assumption⟩
end Go.Proofs.YtdhpadcihlmhiaaDoor
