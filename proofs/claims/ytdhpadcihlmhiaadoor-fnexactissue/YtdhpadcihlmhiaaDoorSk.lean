/- The text of a paper: of the program's series, and of its register. -/
import Derived.Test.YtdhpadcihlmhiaaDoorSj
namespace Go.Proofs.YtdhpadcihlmhiaaDoor
open Go.ChangeShapes Go.WideShapes Go.ChangeAt Go.RowKit
open Go.Lib (decDigits)
set_option linter.unusedVariables false
set_option linter.unusedSimpArgs false

def zT (j : Nat) : ByteArray := strB (List.replicate j 48)
theorem zT_size (j : Nat) : (zT j).size = j := by unfold zT; rw [strB_size, List.length_replicate]
/-- The text of the paper n of a series. -/
def ptxt (s : S2) (n : Nat) : ByteArray := ((s.pre ++ ⟨#[45]⟩) ++ zT (s.wid.toNat - (decDigits n).length)) ++ strB (decDigits n)
theorem rep_zT (n : Nat) : (⟨(Lib.repeatL (⟨#[48]⟩ : ByteArray).data.toList n).toArray⟩ : ByteArray) = zT n := by
  unfold zT strB
  congr 2
  induction n with
  | zero => simp [Lib.repeatL]
  | succ n ih =>
    have : (⟨#[48]⟩ : ByteArray).data.toList = [48] := rfl
    rw [this] at ih ⊢
    simp [Lib.repeatL, List.replicate_succ] at ih ⊢
    exact ih
theorem repeat_at {x : Int} {n : Nat} {w : World} (hx : x = (n : Int)) (h0 : 0 ≤ x) (h1 : x ≤ 100) :
    Calls Tryd.prog 127 #[.string ⟨#[48]⟩, .int .i64 x] w fun e w' => ∃ Z : ByteArray, e = .returned (.string Z) ∧ Z = zT n ∧ Z.size ≤ 100 ∧ Below w.heap.size w w' := by
  subst hx
  refine (Tryd.strings_Repeat ⟨#[48]⟩ n w (by omega) (by show 1 * n ≤ _; omega)).mono ?_
  rintro e w' ⟨rfl, hb⟩
  rw [rep_zT]
  exact ⟨_, rfl, rfl, by rw [zT_size]; omega, hb⟩
theorem dg_pos (n : Nat) : 1 ≤ dg n := by
  unfold dg
  by_cases h : n < 10
  · rw [dec_small h]; simp
  · rw [dec_big h]; simp; omega

set_option maxRecDepth 20000 in
set_option maxHeartbeats 4000000 in
theorem serText_any (r : S2) (m : Nat) (w : World) (hT : TP w) (hpz : r.pre.size ≤ 20) (hd1 : dg m ≤ r.wid) (hd2 : r.wid ≤ 8) (hm : m ≤ 1000) :
    Calls Tryd.prog 105 #[r.val, .int .i64 (m : Int)] w fun e w' => e = .returned (.string (ptxt r m)) ∧ Below w.heap.size w w' := by
  obtain ⟨pr, wd⟩ := r
  unfold S2.val
  dsimp only at hpz hd1 hd2
  have HT : Hid (TP w) := hT
  have hdp := dg_pos m
  have HBA : Hid (Below w.heap.size w (w.alloc (.cells #[.string pr, .int .i64 wd] 75 (0, 0)))) := (Below.refl _ _).alloc (Nat.le_refl _) _
  obtain ⟨A, hA⟩ : ∃ A, strB (decDigits m) = A := ⟨_, rfl⟩
  have hAs : (A.size : Int) = dg m := by rw [← hA, strB_size]; rfl
  have HA : Hid (strB (decDigits m) = A) := hA
  have HN : Hid (wd - (A.size : Int) = ((wd.toNat - (decDigits m).length : Nat) : Int)) := hid (by have e1 : (A.size : Int) = ((decDigits m).length : Int) := hAs; have e2 : ((decDigits m).length : Int) ≤ wd := hd1; rw [e1]; omega)
  have hz0 : 0 ≤ wd - (A.size : Int) := by omega
  have hz1 : wd - (A.size : Int) ≤ 100 := by omega
  have hAz : A.size ≤ 100 := by omega
  have s1 : ¬ 9223372036854775807 < pr.size + 1 := by omega
  have hwr : IntKind.i64.wrap (wd - (A.size : Int)) = wd - (A.size : Int) := IntWalk.i64_in _ ⟨by omega, by omega⟩
  have hwr2 : wrap64 (wd - (A.size : Int)) = wd - (A.size : Int) := IntWalk.wrap64_in _ ⟨by omega, by omega⟩
  have HNZ : Hid (wd - (A.size : Int) = ((wd.toNat - (decDigits m).length : Nat) : Int)) := HN.out
  have HQ : Hid (∀ Z, Z = zT (wd.toNat - (decDigits m).length) → ((pr ++ ⟨#[45]⟩) ++ Z) ++ A = ptxt ⟨pr, wd⟩ m) := fun Z hZ => by rw [hZ, ← HA.out]; rfl
  clear hT hA hAs hdp hd1 HN
  go_enter Tryd.func105, Tryd.ntmps105
  go_wp2_with (go_at_call 126; go_loud (refine (itoa_at (m := m) rfl (by omega) (HT.out.below HBA.out)).mono ?_; rintro e w1 ⟨rfl, b1⟩; rw [HA.out]; have X1 : CB w1 w.heap.size #[.string pr, .int .i64 wd] 75 := (CB.new _ _).below b1 (by simp); have k0 := (X1.cell 0).trans rfl; have k1 := (X1.cell 1).trans rfl; have HB1 : Hid (Below w.heap.size w w1) := bel_on HBA.out b1; have hB1 : Below w1.heap.size w1 w1 := Below.refl _ _; have hB1d : Below w1.heap.size w1 w1.drew := (Below.refl _ _).drew; clear b1 X1))
  refine wp_region_noPanic ?_
  refine wp_region_held_drew (S := fun w' => w'.cell? ⟨w.heap.size, 0, none⟩ = some (.string pr) ∧ w'.cell? ⟨w.heap.size, 1, none⟩ = some (.int .i64 wd) ∧ Below w1.heap.size w1 w') (by kernel_rfl) ?_ (fun hHeld => ?_)
  · (try dsimp only); refine ⟨?_, ?_, ?_⟩ <;> first | assumption | (simp [*, World.cell?_alloc_some]; done)
  refine wpAnyH_take (i := 0) (oi := { dst := some 8, op := Go.Op.fieldAddr 75 (Go.Operand.tmp 2) 0, type := 0, pos := "l11_papers.go:86", after := #[], guard := none }) (v := ?_) rfl (by kernel_rfl) (by kernel_rfl) (by kernel_rfl) (fun _ _ _ h => h) (Or.inl ⟨by rfl, ?_⟩) (by assumption) ?_
  rotate_left
  · (intro w hSw; (try dsimp only at hSw); go_simp <;> try with_reducible rfl)
  try simp only [Act.put, List.setIfInBounds_toArray, List.set_cons_zero, List.set_cons_succ]
  refine wpAnyH_take (i := 1) (oi := { dst := some 9, op := Go.Op.load 9 (Go.Operand.tmp 8), type := 9, pos := "l11_papers.go:86", after := #[{ on := 0, ground := Go.Ground.data }], guard := none }) (v := ?_) rfl (by kernel_rfl) (by kernel_rfl) (by kernel_rfl) (fun _ _ _ h => h) (Or.inl ⟨by rfl, ?_⟩) (by assumption) ?_
  rotate_left
  · (intro w hSw; (try dsimp only at hSw); go_simp <;> try with_reducible rfl)
  try simp only [Act.put, List.setIfInBounds_toArray, List.set_cons_zero, List.set_cons_succ]
  refine wpAnyH_take (i := 2) (oi := { dst := some 10, op := Go.Op.binOp Go.BinOp.add 9 (Go.Operand.tmp 9) (Go.Operand.const (Go.Value.string { data := #[45] })) 9, type := 9, pos := "l11_papers.go:86", after := #[{ on := 1, ground := Go.Ground.data }], guard := none }) (v := ?_) rfl (by kernel_rfl) (by kernel_rfl) (by kernel_rfl) (fun _ _ _ h => h) (Or.inl ⟨by rfl, ?_⟩) (by assumption) ?_
  rotate_left
  · (intro w hSw; (try dsimp only at hSw); go_simp <;> try with_reducible rfl)
  try simp only [Act.put, List.setIfInBounds_toArray, List.set_cons_zero, List.set_cons_succ]
  refine wpAnyH_take (i := 3) (oi := { dst := some 11, op := Go.Op.fieldAddr 75 (Go.Operand.tmp 2) 1, type := 0, pos := "l11_papers.go:86", after := #[], guard := none }) (v := ?_) rfl (by kernel_rfl) (by kernel_rfl) (by kernel_rfl) (fun _ _ _ h => h) (Or.inl ⟨by rfl, ?_⟩) (by assumption) ?_
  rotate_left
  · (intro w hSw; (try dsimp only at hSw); go_simp <;> try with_reducible rfl)
  try simp only [Act.put, List.setIfInBounds_toArray, List.set_cons_zero, List.set_cons_succ]
  refine wpAnyH_take (i := 4) (oi := { dst := some 12, op := Go.Op.load 3 (Go.Operand.tmp 11), type := 3, pos := "l11_papers.go:86", after := #[{ on := 3, ground := Go.Ground.data }], guard := none }) (v := ?_) rfl (by kernel_rfl) (by kernel_rfl) (by kernel_rfl) (fun _ _ _ h => h) (Or.inl ⟨by rfl, ?_⟩) (by assumption) ?_
  rotate_left
  · (intro w hSw; (try dsimp only at hSw); go_simp <;> try with_reducible rfl)
  try simp only [Act.put, List.setIfInBounds_toArray, List.set_cons_zero, List.set_cons_succ]
  refine wpAnyH_take (i := 5) (oi := { dst := some 13, op := Go.Op.move (Go.Operand.tmp 5), type := 9, pos := "l11_papers.go:86", after := #[], guard := none }) (v := ?_) rfl (by kernel_rfl) (by kernel_rfl) (by kernel_rfl) (fun _ _ _ h => h) (Or.inl ⟨by rfl, ?_⟩) (by assumption) ?_
  rotate_left
  · (intro w hSw; (try dsimp only at hSw); go_simp <;> try with_reducible rfl)
  try simp only [Act.put, List.setIfInBounds_toArray, List.set_cons_zero, List.set_cons_succ]
  refine wpAnyH_take (i := 6) (oi := { dst := some 14, op := Go.Op.call { callee := Go.Callee.builtin Go.Builtin.len, args := #[Go.Operand.tmp 13], argTypes := #[9] }, type := 3, pos := "l11_papers.go:86", after := #[{ on := 5, ground := Go.Ground.data }], guard := none }) (v := ?_) rfl (by kernel_rfl) (by kernel_rfl) (by kernel_rfl) (fun _ _ _ h => h) (Or.inl ⟨by rfl, ?_⟩) (by assumption) ?_
  rotate_left
  · (intro w hSw; (try dsimp only at hSw); go_simp <;> try with_reducible rfl)
  try simp only [Act.put, List.setIfInBounds_toArray, List.set_cons_zero, List.set_cons_succ]
  refine wpAnyH_take (i := 7) (oi := { dst := some 15, op := Go.Op.binOp Go.BinOp.sub 3 (Go.Operand.tmp 12) (Go.Operand.tmp 14) 3, type := 3, pos := "l11_papers.go:86", after := #[{ on := 4, ground := Go.Ground.data }, { on := 6, ground := Go.Ground.data }], guard := none }) (v := ?_) rfl (by kernel_rfl) (by kernel_rfl) (by kernel_rfl) (fun _ _ _ h => h) (Or.inl ⟨by rfl, ?_⟩) (by assumption) ?_
  rotate_left
  · (intro w hSw; (try dsimp only at hSw); go_simp <;> try with_reducible rfl)
  try simp only [Act.put, List.setIfInBounds_toArray, List.set_cons_zero, List.set_cons_succ]
  refine wpAnyH_take (i := 10) (oi := { dst := some 18, op := Go.Op.move (Go.Operand.tmp 5), type := 9, pos := "l11_papers.go:86", after := #[], guard := none }) (v := ?_) rfl (by kernel_rfl) (by kernel_rfl) (by kernel_rfl) (fun _ _ _ h => h) (Or.inl ⟨by rfl, ?_⟩) (by assumption) ?_
  rotate_left
  · (intro w hSw; (try dsimp only at hSw); go_simp <;> try with_reducible rfl)
  try simp only [Act.put, List.setIfInBounds_toArray, List.set_cons_zero, List.set_cons_succ]
  refine wpAnyH_ready (rs := [8]) (by kernel_rfl) (by simp) ?_
  refine AllReadyH.cons (o := { dst := some 16, op := Go.Op.call { callee := Go.Callee.value (Go.Operand.func 127), args := #[Go.Operand.const (Go.Value.string { data := #[48] }), Go.Operand.tmp 15], argTypes := #[9, 3] }, type := 9, pos := "l11_papers.go:86", after := #[{ on := 7, ground := Go.Ground.data }], guard := none }) rfl (fun K hK => ?_) AllReadyH.nil
  go_simp
  (go_at_call 127; refine (repeat_at HNZ.out hz0 hz1).mono ?_; rintro e w2 ⟨Z, rfl, hZ, hZs, b2⟩; have HZ := hid hZ; have s2 : ¬ 9223372036854775807 < pr.size + 1 + Z.size := (by omega); have s3 : ¬ 9223372036854775807 < pr.size + 1 + Z.size + A.size := (by omega); have q1_0 : w2.cell? ⟨w.heap.size, 0, none⟩ = some (.string pr) := keep_cell b2 (by simp [*]); have q1_1 : w2.cell? ⟨w.heap.size, 1, none⟩ = some (.int .i64 wd) := keep_cell b2 (by simp [*]); have p1 : Below w1.heap.size w1 w2 := bel_on (by assumption) b2; clear b2 hZ)
  first | refine hK.out _ _ ?_ (fun hHeld => ?_) | (go_wp2_with fail; refine hK.out _ _ ?_ (fun hHeld => ?_))
  · (try dsimp only); refine ⟨?_, ?_, ?_⟩ <;> first | assumption | (simp [*, World.cell?_alloc_some]; done)
  clear hK K
  try simp only [Act.put, List.setIfInBounds_toArray, List.set_cons_zero, List.set_cons_succ]
  refine wpAnyH_take (i := 9) (oi := { dst := some 17, op := Go.Op.binOp Go.BinOp.add 9 (Go.Operand.tmp 10) (Go.Operand.tmp 16) 9, type := 9, pos := "l11_papers.go:86", after := #[{ on := 2, ground := Go.Ground.data }, { on := 8, ground := Go.Ground.data }], guard := none }) (v := ?_) rfl (by kernel_rfl) (by kernel_rfl) (by kernel_rfl) (fun _ _ _ h => h) (Or.inl ⟨by rfl, ?_⟩) (by assumption) ?_
  rotate_left
  · (intro w hSw; (try dsimp only at hSw); go_simp <;> try with_reducible rfl)
  try simp only [Act.put, List.setIfInBounds_toArray, List.set_cons_zero, List.set_cons_succ]
  refine wpAnyH_take (i := 11) (oi := { dst := some 19, op := Go.Op.binOp Go.BinOp.add 9 (Go.Operand.tmp 17) (Go.Operand.tmp 18) 9, type := 9, pos := "l11_papers.go:86", after := #[{ on := 9, ground := Go.Ground.data }, { on := 10, ground := Go.Ground.data }], guard := none }) (v := ?_) rfl (by kernel_rfl) (by kernel_rfl) (by kernel_rfl) (fun _ _ _ h => h) (Or.inl ⟨by rfl, ?_⟩) (by assumption) ?_
  rotate_left
  · (intro w hSw; (try dsimp only at hSw); go_simp <;> try with_reducible rfl)
  try simp only [Act.put, List.setIfInBounds_toArray, List.set_cons_zero, List.set_cons_succ]
  refine wpAnyH_ready (rs := [12]) (by kernel_rfl) (by simp) ?_
  refine AllReadyH.cons (o := { dst := some 4, op := Go.Op.assign (Go.Operand.tmp 19), type := 9, pos := "l11_papers.go:86", after := #[{ on := 11, ground := Go.Ground.data }, { on := 8, ground := Go.Ground.chain }, { on := 0, ground := Go.Ground.phase }, { on := 1, ground := Go.Ground.phase }, { on := 2, ground := Go.Ground.phase }, { on := 3, ground := Go.Ground.phase }, { on := 4, ground := Go.Ground.phase }, { on := 5, ground := Go.Ground.phase }, { on := 6, ground := Go.Ground.phase }, { on := 7, ground := Go.Ground.phase }, { on := 8, ground := Go.Ground.phase }, { on := 9, ground := Go.Ground.phase }, { on := 10, ground := Go.Ground.phase }, { on := 11, ground := Go.Ground.phase }], guard := none }) rfl (fun K hK => ?_) AllReadyH.nil
  go_simp
  skip
  first | refine hK.out _ _ ?_ (fun hHeld => ?_) | (go_wp2_with fail; refine hK.out _ _ ?_ (fun hHeld => ?_))
  · (try dsimp only); refine ⟨?_, ?_, ?_⟩ <;> first | assumption | (simp [*, World.cell?_alloc_some]; done)
  clear hK K
  try simp only [Act.put, List.setIfInBounds_toArray, List.set_cons_zero, List.set_cons_succ]
  refine wpAnyH_done (by kernel_rfl) ?_ _
  refine NoPanic.normal ?_
  go_wp2
  go_returns
  exact ⟨ret_str (HQ.out _ HZ.out), bel_on HB1.out p1⟩

set_option maxRecDepth 20000 in
set_option maxHeartbeats 4000000 in
theorem regText_any (ad : Option Addr) (len cap : Nat) (c : Nat → S2) (ap : Option Addr) (np pcap : Nat) (i m : Nat) (d : Int) (vd : Bool) (w : World) (h : (len : Int) ≤ 1048576) (hr : SRw w ad len c) (hT : TP w) (hi : i < len) (hpz : (c i).pre.size ≤ 20) (hd1 : dg m ≤ (c i).wid) (hd2 : (c i).wid ≤ 8) (hm : m ≤ 1000) :
    Calls Tryd.prog 60 #[.agg #[.slice ad len cap, .slice ap np pcap], .agg #[.int .i64 (i : Int), .int .i64 (m : Int), .int .i64 d, .bool vd]] w fun e w' => e = .returned (.string (ptxt (c i) m)) ∧ Below w.heap.size w w' := by
  obtain ⟨kb, off, rfl, hkb⟩ := hr.addr (by omega)
  obtain ⟨c0, c1⟩ := hr.cell hi
  have hi2 : (i : Int) < (len : Int) := by omega
  obtain ⟨r, hr2⟩ : ∃ r, c i = r := ⟨_, rfl⟩
  rw [hr2] at c0 c1 hpz hd1 hd2
  rw [hr2]
  obtain ⟨pr, wd⟩ := r
  simp only at c0 c1 hpz hd1 hd2
  have HT : Hid (TP w) := hT
  obtain ⟨X, hX⟩ : ∃ X, ptxt ⟨pr, wd⟩ m = X := ⟨_, rfl⟩
  have HTX : Hid (ptxt ⟨pr, wd⟩ m = X) := hX
  rw [hX]
  clear hr2 hr hT hX
  have hB0 : Below w.heap.size w ((w.alloc (.cells #[.slice (some ⟨kb, off, none⟩) len cap, .slice ap np pcap] 27 (0, 0))).alloc (.cells #[.int .i64 (i : Int), .int .i64 (m : Int), .int .i64 d, .bool vd] 32 (0, 0))) := ((Below.refl _ _).alloc (Nat.le_refl _) _).alloc (by simp) _
  have hB1 : Below w.heap.size w ((w.alloc (.cells #[.slice (some ⟨kb, off, none⟩) len cap, .slice ap np pcap] 27 (0, 0))).alloc (.cells #[.int .i64 (i : Int), .int .i64 (m : Int), .int .i64 d, .bool vd] 32 (0, 0))).drew := hB0.drew
  have y0 := keep_cell hB0 c0
  have y1 := keep_cell hB0 c1
  go_enter Tryd.func60, Tryd.ntmps60
  go_wp2
  refine wp_region_noPanic ?_
  refine wp_region_held_drew (S := fun w' => w'.cell? ⟨w.heap.size, 0, none⟩ = some (.slice (some ⟨kb, off, none⟩) len cap) ∧ w'.cell? ⟨w.heap.size, 1, none⟩ = some (.slice ap np pcap) ∧ w'.cell? ⟨w.heap.size + 1, 0, none⟩ = some (.int .i64 (i : Int)) ∧ w'.cell? ⟨w.heap.size + 1, 1, none⟩ = some (.int .i64 (m : Int)) ∧ w'.cell? ⟨kb, off + i * 2, none⟩ = some (.string pr) ∧ w'.cell? ⟨kb, off + i * 2 + 1, none⟩ = some (.int .i64 wd) ∧ Below w.heap.size w w') (by kernel_rfl) ?_ (fun hHeld => ?_)
  · (try dsimp only); refine ⟨?_, ?_, ?_, ?_, ?_, ?_, ?_⟩ <;> first | assumption | (simp [*, World.cell?_alloc_some]; done)
  refine wpAnyH_take (i := 0) (oi := { dst := some 5, op := Go.Op.fieldAddr 27 (Go.Operand.tmp 2) 0, type := 0, pos := "l11_papers.go:187", after := #[], guard := none }) (v := ?_) rfl (by kernel_rfl) (by kernel_rfl) (by kernel_rfl) (fun _ _ _ h => h) (Or.inl ⟨by rfl, ?_⟩) (by assumption) ?_
  rotate_left
  · (intro w hSw; (try dsimp only at hSw); go_simp <;> try with_reducible rfl)
  try simp only [Act.put, List.setIfInBounds_toArray, List.set_cons_zero, List.set_cons_succ]
  refine wpAnyH_take (i := 1) (oi := { dst := some 6, op := Go.Op.load 24 (Go.Operand.tmp 5), type := 24, pos := "l11_papers.go:187", after := #[{ on := 0, ground := Go.Ground.data }], guard := none }) (v := ?_) rfl (by kernel_rfl) (by kernel_rfl) (by kernel_rfl) (fun _ _ _ h => h) (Or.inl ⟨by rfl, ?_⟩) (by assumption) ?_
  rotate_left
  · (intro w hSw; (try dsimp only at hSw); go_simp <;> try with_reducible rfl)
  try simp only [Act.put, List.setIfInBounds_toArray, List.set_cons_zero, List.set_cons_succ]
  refine wpAnyH_take (i := 2) (oi := { dst := some 7, op := Go.Op.fieldAddr 32 (Go.Operand.tmp 3) 0, type := 0, pos := "l11_papers.go:187", after := #[], guard := none }) (v := ?_) rfl (by kernel_rfl) (by kernel_rfl) (by kernel_rfl) (fun _ _ _ h => h) (Or.inl ⟨by rfl, ?_⟩) (by assumption) ?_
  rotate_left
  · (intro w hSw; (try dsimp only at hSw); go_simp <;> try with_reducible rfl)
  try simp only [Act.put, List.setIfInBounds_toArray, List.set_cons_zero, List.set_cons_succ]
  refine wpAnyH_take (i := 3) (oi := { dst := some 8, op := Go.Op.load 3 (Go.Operand.tmp 7), type := 3, pos := "l11_papers.go:187", after := #[{ on := 2, ground := Go.Ground.data }], guard := none }) (v := ?_) rfl (by kernel_rfl) (by kernel_rfl) (by kernel_rfl) (fun _ _ _ h => h) (Or.inl ⟨by rfl, ?_⟩) (by assumption) ?_
  rotate_left
  · (intro w hSw; (try dsimp only at hSw); go_simp <;> try with_reducible rfl)
  try simp only [Act.put, List.setIfInBounds_toArray, List.set_cons_zero, List.set_cons_succ]
  refine wpAnyH_take (i := 4) (oi := { dst := some 9, op := Go.Op.indexAddr 24 (Go.Operand.tmp 6) (Go.Operand.tmp 8), type := 0, pos := "l11_papers.go:187", after := #[{ on := 1, ground := Go.Ground.data }, { on := 3, ground := Go.Ground.data }], guard := none }) (v := ?_) rfl (by kernel_rfl) (by kernel_rfl) (by kernel_rfl) (fun _ _ _ h => h) (Or.inl ⟨by rfl, ?_⟩) (by assumption) ?_
  rotate_left
  · (intro w hSw; (try dsimp only at hSw); go_simp <;> try with_reducible rfl)
  try simp only [Act.put, List.setIfInBounds_toArray, List.set_cons_zero, List.set_cons_succ]
  refine wpAnyH_take (i := 5) (oi := { dst := some 10, op := Go.Op.load 75 (Go.Operand.tmp 9), type := 75, pos := "l11_papers.go:187", after := #[{ on := 4, ground := Go.Ground.data }], guard := none }) (v := ?_) rfl (by kernel_rfl) (by kernel_rfl) (by kernel_rfl) (fun _ _ _ h => h) (Or.inl ⟨by rfl, ?_⟩) (by assumption) ?_
  rotate_left
  · (intro w hSw; (try dsimp only at hSw); go_simp <;> try with_reducible rfl)
  try simp only [Act.put, List.setIfInBounds_toArray, List.set_cons_zero, List.set_cons_succ]
  refine wpAnyH_take (i := 6) (oi := { dst := some 11, op := Go.Op.fieldAddr 32 (Go.Operand.tmp 3) 1, type := 0, pos := "l11_papers.go:187", after := #[], guard := none }) (v := ?_) rfl (by kernel_rfl) (by kernel_rfl) (by kernel_rfl) (fun _ _ _ h => h) (Or.inl ⟨by rfl, ?_⟩) (by assumption) ?_
  rotate_left
  · (intro w hSw; (try dsimp only at hSw); go_simp <;> try with_reducible rfl)
  try simp only [Act.put, List.setIfInBounds_toArray, List.set_cons_zero, List.set_cons_succ]
  refine wpAnyH_take (i := 7) (oi := { dst := some 12, op := Go.Op.load 3 (Go.Operand.tmp 11), type := 3, pos := "l11_papers.go:187", after := #[{ on := 6, ground := Go.Ground.data }], guard := none }) (v := ?_) rfl (by kernel_rfl) (by kernel_rfl) (by kernel_rfl) (fun _ _ _ h => h) (Or.inl ⟨by rfl, ?_⟩) (by assumption) ?_
  rotate_left
  · (intro w hSw; (try dsimp only at hSw); go_simp <;> try with_reducible rfl)
  try simp only [Act.put, List.setIfInBounds_toArray, List.set_cons_zero, List.set_cons_succ]
  refine wpAnyH_ready (rs := [8]) (by kernel_rfl) (by simp) ?_
  refine AllReadyH.cons (o := { dst := some 13, op := Go.Op.call { callee := Go.Callee.value (Go.Operand.func 105), args := #[Go.Operand.tmp 10, Go.Operand.tmp 12], argTypes := #[75, 3] }, type := 9, pos := "l11_papers.go:187", after := #[{ on := 5, ground := Go.Ground.data }, { on := 7, ground := Go.Ground.data }], guard := none }) rfl (fun K hK => ?_) AllReadyH.nil
  go_simp
  (go_at_call 105; refine (serText_any ⟨pr, wd⟩ m _ (HT.out.below (by assumption)) hpz hd1 hd2 hm).mono ?_; rintro e w2 ⟨rfl, b2⟩; rw [HTX.out]; have q1_0 : w2.cell? ⟨w.heap.size, 0, none⟩ = some (.slice (some ⟨kb, off, none⟩) len cap) := keep_cell b2 (by simp [*]); have q1_1 : w2.cell? ⟨w.heap.size, 1, none⟩ = some (.slice ap np pcap) := keep_cell b2 (by simp [*]); have q1_2 : w2.cell? ⟨w.heap.size + 1, 0, none⟩ = some (.int .i64 (i : Int)) := keep_cell b2 (by simp [*]); have q1_3 : w2.cell? ⟨w.heap.size + 1, 1, none⟩ = some (.int .i64 (m : Int)) := keep_cell b2 (by simp [*]); have q1_4 : w2.cell? ⟨kb, off + i * 2, none⟩ = some (.string pr) := keep_cell b2 (by simp [*]); have q1_5 : w2.cell? ⟨kb, off + i * 2 + 1, none⟩ = some (.int .i64 wd) := keep_cell b2 (by simp [*]); have p1 : Below w.heap.size w w2 := bel_on (by assumption) b2; clear b2)
  first | refine hK.out _ _ ?_ (fun hHeld => ?_) | (go_wp2_with fail; refine hK.out _ _ ?_ (fun hHeld => ?_))
  · (try dsimp only); refine ⟨?_, ?_, ?_, ?_, ?_, ?_, ?_⟩ <;> first | assumption | (simp [*, World.cell?_alloc_some]; done)
  clear hK K
  try simp only [Act.put, List.setIfInBounds_toArray, List.set_cons_zero, List.set_cons_succ]
  refine wpAnyH_ready (rs := [9]) (by kernel_rfl) (by simp) ?_
  refine AllReadyH.cons (o := { dst := some 4, op := Go.Op.assign (Go.Operand.tmp 13), type := 9, pos := "l11_papers.go:187", after := #[{ on := 8, ground := Go.Ground.data }, { on := 8, ground := Go.Ground.chain }, { on := 0, ground := Go.Ground.phase }, { on := 1, ground := Go.Ground.phase }, { on := 2, ground := Go.Ground.phase }, { on := 3, ground := Go.Ground.phase }, { on := 4, ground := Go.Ground.phase }, { on := 5, ground := Go.Ground.phase }, { on := 6, ground := Go.Ground.phase }, { on := 7, ground := Go.Ground.phase }, { on := 8, ground := Go.Ground.phase }], guard := none }) rfl (fun K hK => ?_) AllReadyH.nil
  go_simp
  skip
  first | refine hK.out _ _ ?_ (fun hHeld => ?_) | (go_wp2_with fail; refine hK.out _ _ ?_ (fun hHeld => ?_))
  · (try dsimp only); refine ⟨?_, ?_, ?_, ?_, ?_, ?_, ?_⟩ <;> first | assumption | (simp [*, World.cell?_alloc_some]; done)
  clear hK K
  try simp only [Act.put, List.setIfInBounds_toArray, List.set_cons_zero, List.set_cons_succ]
  refine wpAnyH_done (by kernel_rfl) ?_ _
  refine NoPanic.normal ?_
  go_wp2
  go_returns
  exact ⟨rfl, p1⟩
end Go.Proofs.YtdhpadcihlmhiaaDoor
