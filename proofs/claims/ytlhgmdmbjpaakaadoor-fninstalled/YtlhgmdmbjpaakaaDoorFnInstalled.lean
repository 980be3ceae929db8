/- At every drawn code of at most 1048576 bytes (and at a longer one at once) FnInstalled answers true: drawn instalments are together the amount, each leaves that much less, bears its interest on what was left, and comes a month behind the one ahead. Conditions: the table of the months' days starts as the program's text lays it, which the card ties. -/
import Derived.Test.YtlhgmdmbjpaakaaDoorFr
import Derived.Test.YtlhgmdmbjpaakaaDoorIf
import Derived.Test.YtlhgmdmbjpaakaaDoorTie
import Derived.Test.YtlhgmdmbjpaakaaDoorCards
import Derived.SevenTiedAt
import Derived.OpenVars
import Derived.ChangeVars
import Derived.Carry
namespace Go.Proofs.YtlhgmdmbjpaakaaDoor.fnInstalled
open Go.ChangeShapes Go.WideShapes Go.ChangeAt Go.WideMaps Go.WideElems Go.RowKit Go.Proofs.YtlhgmdmbjpaakaaDoor.Dt
set_option linter.unusedVariables false
set_option linter.unusedSimpArgs false

set_option maxRecDepth 20000 in
set_option maxHeartbeats 16000000 in
theorem walk (a0 : Option Addr) (len0 cap0 : Nat) (z0 : List Int) (w : World) (w0 : IsRow .u8 w a0 len0 cap0 z0) (hM : ML w) :
    Calls Tryd.prog 3 #[.slice a0 len0 cap0] w fun e w' => e = .returned (.bool true) ∧ Below w.heap.size w w' := by
  have HT : Hid (Dt.ML w) := hM
  have hp := ml_pos hM
  clear hM
  by_cases hbig : (1048576 : Int) < (len0 : Int)
  · go_enter Tryd.func3, Tryd.ntmps3
    go_wp2_with (go_at_call 5; refine (big_t _ _ _ _ hbig).mono ?_; rintro e w1 ⟨rfl, ew⟩; replace ew := ew.symm; subst ew)
    go_returns
    exact ⟨rfl, Below.refl _ _⟩
  have hb2 : (len0 : Int) ≤ 1048576 := by omega
  have HRW : Hid (ByteRow w w.heap.size a0 len0) := row_of w0
  have HDR : Hid (∀ W, Below w.heap.size w W → Calls Tryd.prog 7 #[.slice a0 len0 cap0] W (DiP W)) := fun W b => drawInst_any a0 len0 cap0 W hb2 (HRW.out.up b)
  have H1 : Hid (Calls Tryd.prog 6 #[.int .i64 100, .int .i64 3, .int .i64 1000, .int .i64 30] w fun e w' => (∃ g cap, e = .returned (.slice (some ⟨g, 0, none⟩) 3 cap) ∧ w'.cell? ⟨g, 1, none⟩ = some (.int .i64 34) ∧ w'.cell? ⟨g, 2, none⟩ = some (.int .i64 1) ∧ w'.cell? ⟨g, 4, none⟩ = some (.int .i64 59) ∧ w'.cell? ⟨g, 11, none⟩ = some (.int .i64 0)) ∧ Below w.heap.size w w') := by
    refine (implInst_any 100 3 1000 30 w HT.out hp).mono ?_
    rintro e w' ⟨ad, cap, he, ho, hb⟩
    have hm : inM 100 3 1000 30 = 3 := inM_yes one_ok
    rw [hm] at he ho
    rcases ho with h | ⟨g, cs, rfl, h1, h2, h3, h4⟩
    · omega
    · refine ⟨⟨g, cap, he, ?_, ?_, ?_, ?_⟩, hb⟩
      · have := (h4 0 (by omega)).2.1; rw [h2.cell]; exact this.trans (by rw [show (inF 100 (Int.toNat 3) 1000 30 0).part = 34 from one_0.1])
      · have := (h4 0 (by omega)).2.2.1; rw [h2.cell]; exact this.trans (by rw [show (inF 100 (Int.toNat 3) 1000 30 0).interest = 1 from one_0.2])
      · have := (h4 1 (by omega)).1; rw [h2.cell]; exact this.trans (by rw [show (inF 100 (Int.toNat 3) 1000 30 1).day = 59 from one_1])
      · have := (h4 2 (by omega)).2.2.2; rw [h2.cell]; exact this.trans (by rw [show (inF 100 (Int.toNat 3) 1000 30 2).left = 0 from one_2])
  have HSP : Hid (∀ a ct r f W, Calls Tryd.prog 8 #[.int .i64 a, .int .i64 ct, .int .i64 r, .int .i64 f] W (InR a ct r f W)) := fun a ct r f W => specInst_any a ct r f W
  have HIM : Hid (∀ a ct r f W, Below w.heap.size w W → Calls Tryd.prog 6 #[.int .i64 a, .int .i64 ct, .int .i64 r, .int .i64 f] W (InR a ct r f W)) := fun a ct r f W b => implInst_any a ct r f W (HT.out.below b hp) (by have := b.size; omega)
  have tok1 : True := trivial
  clear w0
  go_enter Tryd.func3, Tryd.ntmps3
  go_wp2_with (first
    | (go_at_call 5; refine (big_f _ _ _ _ hb2).mono ?_; rintro e wq ⟨rfl, ew⟩; replace ew := ew.symm; subst ew)
    | (go_at_call 6; clear tok1; refine H1.out.mono ?_; rintro e w1 ⟨⟨g1, cp1, rfl, k1, k2, k4, k11⟩, b1⟩; have HB1 : Hid (Below w.heap.size w w1) := b1; clear b1)
    | (go_at_call 7; clear k1 k2 k4 k11; refine (HDR.out _ HB1.out).mono ?_; rintro e w2 ⟨a, ct, r, f, rfl, b2⟩; have HB2 : Hid (Below w.heap.size w w2) := hid (bel_on HB1.out b2); clear b2)
    | (go_at_call 8; refine (HSP.out _ _ _ _ _).mono ?_; rintro e w4 ⟨ado, capo, rfl, _, b4⟩; have HB4 : Hid (Below w.heap.size w w4) := hid (bel_on HB2.out b4); clear b4)
    | (go_at_call 6; refine (HIM.out _ _ _ _ _ HB4.out).mono ?_; rintro e w3 ⟨adg, capg, rfl, o3, b3⟩; have HG3 := hid o3.row; have HB3 : Hid (Below w.heap.size w w3) := hid (bel_on HB4.out b3); have hle := inM_le a ct r f; have hyes := (fun h : CtP a ct r f => inM_yes h); have hno := (fun h : ¬ CtP a ct r f => inM_no h); obtain ⟨MM, hMM⟩ : ∃ M, inM a ct r f = M := ⟨_, rfl⟩; rw [hMM] at HG3 hle hyes hno ⊢; have zz : ((MM : Int) != (MM : Int)) = false := (by simp); clear o3 b3))
  clear HDR H1 HSP HIM
  by_cases hct : CtP a ct r f
  · have hn := hyes hct
    have hnn : ct = (MM : Int) := by have := hct.1; omega
    subst hnn
    rw [Int.toNat_natCast] at HG3 hn
    clear hyes hno
    obtain ⟨_, ha2, hn1, hr2, hd2⟩ := hct
    rw [Int.toNat_natCast] at hn1 hd2
    have HEND : Hid (lfS (ptF a MM) a MM = 0) := lf_end ha2 hn1
    have HPB : Hid (∀ j, j < MM → 0 ≤ ptF a MM j ∧ ptF a MM j ≤ a) := hid (fun j hj => pt_bd ha2 hn1 hj)
    have hne0 : ((MM : Int) == 0) = false := by simp; omega
    clear hd2
    go_loopw [10, 11] (fun x i wr => ∃ (k : Nat) (V : Int), k ≤ MM ∧ x = .int .i64 V ∧ i = .int .i64 (k : Int) ∧ -(100000000000 * (k : Int)) ≤ V ∧ V ≤ 100000000000 ∧ Hid (V = lfS (ptF a MM) a k ∧ Below w3.heap.size w3 wr)) (fun _ i _ => MM - (intOf i).toNat)
    case atStart => exact ⟨0, a, Nat.zero_le _, rfl, rfl, by omega, by omega, rfl, Below.refl _ _⟩
    case round =>
      obtain ⟨k, V, hk, rfl, rfl, hV0, hV1, HH⟩ := hrel
      obtain ⟨wo, rfl⟩ : ∃ x, x = wr := ⟨wr, rfl⟩
      by_cases hlt : k < MM
      · have hlt2 : (k : Int) < (MM : Int) := by omega
        obtain ⟨kb, off, rfl, hkb⟩ := HG3.out.addr (by omega)
        have k0 := (HG3.out.below HH.out.2).cell hlt
        have hpb := HPB.out k hlt
        obtain ⟨D, hD⟩ : ∃ D, Dt.addV f (k : Int) = D := ⟨_, rfl⟩
        obtain ⟨P, hP⟩ : ∃ P, ptF a MM k = P := ⟨_, rfl⟩
        obtain ⟨M, hM⟩ : ∃ M, mdV V r 100000 3 = M := ⟨_, rfl⟩
        have hF : inF a MM r f k = ⟨D, P, M, V - P⟩ := by unfold inF; rw [hD, hP, ← HH.out.1, hM]; unfold lfS; rw [← HH.out.1, hP]
        rw [hF] at k0
        rw [hP] at hpb
        have HL : Hid (V - P = lfS (ptF a MM) a (k + 1)) := hid (by unfold lfS; rw [← HH.out.1, hP])
        have hmd := md_abs V r 100000 3
        have HMD : Hid (∀ w, Calls Tryd.prog 9 #[.int .i64 V, .int .i64 r, .int .i64 100000, .int .i64 3] w fun e w' => e = .returned (.tuple #[.int .i64 (mdV V r 100000 3), .bool (mdB V r 100000 3)]) ∧ Below w.heap.size w w') := fun w => implMulDiv_any V r 100000 3 w
        obtain ⟨MB, hMB⟩ : ∃ M, mdB V r 100000 3 = M := ⟨_, rfl⟩
        rw [hM, hMB] at HMD
        rw [hM] at hmd
        have HAD : Hid (∀ W, Below w3.heap.size w3 W → Calls Tryd.prog 10 #[.int .i64 f, .int .i64 (k : Int)] W fun e w' => e = .returned (.int .i64 D) ∧ Below W.heap.size W w') := fun W b => by
          have := Dt.implAddMonths_any f (k : Int) W (HT.out.below (bel_on HB3.out b) hp) (by have := (bel_on HB3.out b).size; omega)
          rw [hD] at this; exact this
        obtain ⟨c0, c1, c2, c3⟩ := k0
        simp only at c0 c1 c2 c3
        clear hF hD hP hM hMB
        have z1 : (M != M) = false := by simp
        have z2 : ((V - P) != (V - P)) = false := by simp
        have z3 : (D != D) = false := by simp
        have z4 : decide (P < 0) = false := decide_eq_false (by omega)
        have hwv : IntKind.i64.wrap (V - P) = V - P := IntWalk.i64_in _ ⟨by omega, by omega⟩
        go_wp2_with (go_at_call 9; refine (HMD.out _).mono ?_; rintro e w5 ⟨rfl, b5⟩; have HC5 : Hid (CB w5 wo.heap.size #[.int .i64 D, .int .i64 P, .int .i64 M, .int .i64 (V - P)] 27) := hid ((CB.new _ _).below b5 (by simp)); have HB5 : Hid (Below w3.heap.size w3 w5) := hid (bel_on (HH.out.2.alloc HH.out.2.size _) b5); clear b5 c0 c1 c2 c3)
        obtain ⟨BX, hBX⟩ : ∃ B, wo.heap.size = B := ⟨_, rfl⟩
        rw [hBX] at HC5 ⊢
        clear hBX
        have m0 : w5.drew.cell? ⟨BX, 0, none⟩ = some (.int .i64 D) := (HC5.out.cell 0).trans rfl
        have m1 : w5.drew.cell? ⟨BX, 1, none⟩ = some (.int .i64 P) := (HC5.out.cell 1).trans rfl
        have m2 : w5.drew.cell? ⟨BX, 2, none⟩ = some (.int .i64 M) := (HC5.out.cell 2).trans rfl
        have m3 : w5.drew.cell? ⟨BX, 3, none⟩ = some (.int .i64 (V - P)) := (HC5.out.cell 3).trans rfl
        have hBd : Below w3.heap.size w3 w5.drew := HB5.out.drew
        refine wp_region_noPanic ?_
        refine wp_region_held_drew (S := fun w' => w'.cell? ⟨BX, 0, none⟩ = some (.int .i64 D) ∧ w'.cell? ⟨BX, 1, none⟩ = some (.int .i64 P) ∧ w'.cell? ⟨BX, 2, none⟩ = some (.int .i64 M) ∧ w'.cell? ⟨BX, 3, none⟩ = some (.int .i64 (V - P)) ∧ Below w3.heap.size w3 w') (by kernel_rfl) (by exact ⟨m0, m1, m2, m3, hBd⟩) (fun hHeld => ?_)
        refine wpAnyH_take (i := 0) (oi := { dst := some 88, op := Go.Op.fieldAddr 27 (Go.Operand.tmp 12) 2, type := 0, pos := "laws.go:1725", after := #[], guard := none }) (v := ?_) rfl (by kernel_rfl) (by kernel_rfl) (by kernel_rfl) (fun _ _ _ h => h) (Or.inl ⟨by rfl, ?_⟩) (by assumption) ?_
        rotate_left
        · (intro w hSw; (try dsimp only at hSw); go_simp <;> try with_reducible rfl)
        try simp only [Act.put, List.setIfInBounds_toArray, List.set_cons_zero, List.set_cons_succ]
        refine wpAnyH_take (i := 1) (oi := { dst := some 89, op := Go.Op.load 3 (Go.Operand.tmp 88), type := 3, pos := "laws.go:1725", after := #[{ on := 0, ground := Go.Ground.data }], guard := none }) (v := ?_) rfl (by kernel_rfl) (by kernel_rfl) (by kernel_rfl) (fun _ _ _ h => h) (Or.inl ⟨by rfl, ?_⟩) (by assumption) ?_
        rotate_left
        · (intro w hSw; (try dsimp only at hSw); go_simp <;> try with_reducible rfl)
        try simp only [Act.put, List.setIfInBounds_toArray, List.set_cons_zero, List.set_cons_succ]
        refine wpAnyH_take (i := 2) (oi := { dst := some 90, op := Go.Op.move (Go.Operand.tmp 13), type := 3, pos := "laws.go:1725", after := #[], guard := none }) (v := ?_) rfl (by kernel_rfl) (by kernel_rfl) (by kernel_rfl) (fun _ _ _ h => h) (Or.inl ⟨by rfl, ?_⟩) (by assumption) ?_
        rotate_left
        · (intro w hSw; (try dsimp only at hSw); go_simp <;> try with_reducible rfl)
        try simp only [Act.put, List.setIfInBounds_toArray, List.set_cons_zero, List.set_cons_succ]
        refine wpAnyH_take (i := 3) (oi := { dst := some 91, op := Go.Op.binOp Go.BinOp.neq 3 (Go.Operand.tmp 89) (Go.Operand.tmp 90) 3, type := 4, pos := "laws.go:1725", after := #[{ on := 1, ground := Go.Ground.data }, { on := 2, ground := Go.Ground.data }], guard := none }) (v := ?_) rfl (by kernel_rfl) (by kernel_rfl) (by kernel_rfl) (fun _ _ _ h => h) (Or.inl ⟨by rfl, ?_⟩) (by assumption) ?_
        rotate_left
        · (intro w hSw; (try dsimp only at hSw); go_simp <;> try with_reducible rfl)
        try simp only [Act.put, List.setIfInBounds_toArray, List.set_cons_zero, List.set_cons_succ]
        refine wpAnyH_take (i := 4) (oi := { dst := some 92, op := Go.Op.move (Go.Operand.tmp 91), type := 4, pos := "laws.go:1725", after := #[{ on := 3, ground := Go.Ground.data }], guard := none }) (v := ?_) rfl (by kernel_rfl) (by kernel_rfl) (by kernel_rfl) (fun _ _ _ h => h) (Or.inl ⟨by rfl, ?_⟩) (by assumption) ?_
        rotate_left
        · (intro w hSw; (try dsimp only at hSw); go_simp <;> try with_reducible rfl)
        try simp only [Act.put, List.setIfInBounds_toArray, List.set_cons_zero, List.set_cons_succ]
        refine wpAnyH_take (i := 5) (oi := { dst := some 93, op := Go.Op.fieldAddr 27 (Go.Operand.tmp 12) 3, type := 0, pos := "laws.go:1725", after := #[{ on := 4, ground := Go.Ground.guard }], guard := some (4, false) }) (v := ?_) rfl (by kernel_rfl) (by kernel_rfl) (by kernel_rfl) (fun _ _ _ h => h) (Or.inl ⟨by rfl, ?_⟩) (by assumption) ?_
        rotate_left
        · (intro w hSw; (try dsimp only at hSw); go_simp <;> try with_reducible rfl)
        try simp only [Act.put, List.setIfInBounds_toArray, List.set_cons_zero, List.set_cons_succ]
        refine wpAnyH_take (i := 6) (oi := { dst := some 94, op := Go.Op.load 3 (Go.Operand.tmp 93), type := 3, pos := "laws.go:1725", after := #[{ on := 5, ground := Go.Ground.data }, { on := 4, ground := Go.Ground.guard }], guard := some (4, false) }) (v := ?_) rfl (by kernel_rfl) (by kernel_rfl) (by kernel_rfl) (fun _ _ _ h => h) (Or.inl ⟨by rfl, ?_⟩) (by assumption) ?_
        rotate_left
        · (intro w hSw; (try dsimp only at hSw); go_simp <;> try with_reducible rfl)
        try simp only [Act.put, List.setIfInBounds_toArray, List.set_cons_zero, List.set_cons_succ]
        refine wpAnyH_take (i := 7) (oi := { dst := some 95, op := Go.Op.move (Go.Operand.tmp 10), type := 3, pos := "laws.go:1725", after := #[{ on := 4, ground := Go.Ground.guard }], guard := some (4, false) }) (v := ?_) rfl (by kernel_rfl) (by kernel_rfl) (by kernel_rfl) (fun _ _ _ h => h) (Or.inl ⟨by rfl, ?_⟩) (by assumption) ?_
        rotate_left
        · (intro w hSw; (try dsimp only at hSw); go_simp <;> try with_reducible rfl)
        try simp only [Act.put, List.setIfInBounds_toArray, List.set_cons_zero, List.set_cons_succ]
        refine wpAnyH_take (i := 8) (oi := { dst := some 96, op := Go.Op.fieldAddr 27 (Go.Operand.tmp 12) 1, type := 0, pos := "laws.go:1725", after := #[{ on := 4, ground := Go.Ground.guard }], guard := some (4, false) }) (v := ?_) rfl (by kernel_rfl) (by kernel_rfl) (by kernel_rfl) (fun _ _ _ h => h) (Or.inl ⟨by rfl, ?_⟩) (by assumption) ?_
        rotate_left
        · (intro w hSw; (try dsimp only at hSw); go_simp <;> try with_reducible rfl)
        try simp only [Act.put, List.setIfInBounds_toArray, List.set_cons_zero, List.set_cons_succ]
        refine wpAnyH_take (i := 9) (oi := { dst := some 97, op := Go.Op.load 3 (Go.Operand.tmp 96), type := 3, pos := "laws.go:1725", after := #[{ on := 8, ground := Go.Ground.data }, { on := 4, ground := Go.Ground.guard }], guard := some (4, false) }) (v := ?_) rfl (by kernel_rfl) (by kernel_rfl) (by kernel_rfl) (fun _ _ _ h => h) (Or.inl ⟨by rfl, ?_⟩) (by assumption) ?_
        rotate_left
        · (intro w hSw; (try dsimp only at hSw); go_simp <;> try with_reducible rfl)
        try simp only [Act.put, List.setIfInBounds_toArray, List.set_cons_zero, List.set_cons_succ]
        refine wpAnyH_take (i := 10) (oi := { dst := some 98, op := Go.Op.binOp Go.BinOp.sub 3 (Go.Operand.tmp 95) (Go.Operand.tmp 97) 3, type := 3, pos := "laws.go:1725", after := #[{ on := 7, ground := Go.Ground.data }, { on := 9, ground := Go.Ground.data }, { on := 4, ground := Go.Ground.guard }], guard := some (4, false) }) (v := ?_) rfl (by kernel_rfl) (by kernel_rfl) (by kernel_rfl) (fun _ _ _ h => h) (Or.inl ⟨by rfl, ?_⟩) (by assumption) ?_
        rotate_left
        · (intro w hSw; (try dsimp only at hSw); go_simp <;> try with_reducible rfl)
        try simp only [Act.put, List.setIfInBounds_toArray, List.set_cons_zero, List.set_cons_succ]
        refine wpAnyH_take (i := 11) (oi := { dst := some 99, op := Go.Op.binOp Go.BinOp.neq 3 (Go.Operand.tmp 94) (Go.Operand.tmp 98) 3, type := 4, pos := "laws.go:1725", after := #[{ on := 6, ground := Go.Ground.data }, { on := 10, ground := Go.Ground.data }, { on := 4, ground := Go.Ground.guard }], guard := some (4, false) }) (v := ?_) rfl (by kernel_rfl) (by kernel_rfl) (by kernel_rfl) (fun _ _ _ h => h) (Or.inl ⟨by rfl, ?_⟩) (by assumption) ?_
        rotate_left
        · (intro w hSw; (try dsimp only at hSw); go_simp <;> try with_reducible rfl)
        try simp only [Act.put, List.setIfInBounds_toArray, List.set_cons_zero, List.set_cons_succ]
        refine wpAnyH_take (i := 12) (oi := { dst := some 100, op := Go.Op.pick (Go.Operand.tmp 92) (Go.Operand.const (Go.Value.bool true)) (Go.Operand.tmp 99), type := 4, pos := "laws.go:1725", after := #[{ on := 4, ground := Go.Ground.data }, { on := 11, ground := Go.Ground.data }], guard := none }) (v := ?_) rfl (by kernel_rfl) (by kernel_rfl) (by kernel_rfl) (fun _ _ _ h => h) (Or.inl ⟨by rfl, ?_⟩) (by assumption) ?_
        rotate_left
        · (intro w hSw; (try dsimp only at hSw); go_simp <;> try with_reducible rfl)
        try simp only [Act.put, List.setIfInBounds_toArray, List.set_cons_zero, List.set_cons_succ]
        refine wpAnyH_take (i := 13) (oi := { dst := some 101, op := Go.Op.move (Go.Operand.tmp 100), type := 4, pos := "laws.go:1725", after := #[{ on := 12, ground := Go.Ground.data }, { on := 4, ground := Go.Ground.chain }], guard := none }) (v := ?_) rfl (by kernel_rfl) (by kernel_rfl) (by kernel_rfl) (fun _ _ _ h => h) (Or.inl ⟨by rfl, ?_⟩) (by assumption) ?_
        rotate_left
        · (intro w hSw; (try dsimp only at hSw); go_simp <;> try with_reducible rfl)
        try simp only [Act.put, List.setIfInBounds_toArray, List.set_cons_zero, List.set_cons_succ]
        refine wpAnyH_take (i := 14) (oi := { dst := some 102, op := Go.Op.fieldAddr 27 (Go.Operand.tmp 12) 1, type := 0, pos := "laws.go:1725", after := #[{ on := 13, ground := Go.Ground.guard }], guard := some (13, false) }) (v := ?_) rfl (by kernel_rfl) (by kernel_rfl) (by kernel_rfl) (fun _ _ _ h => h) (Or.inl ⟨by rfl, ?_⟩) (by assumption) ?_
        rotate_left
        · (intro w hSw; (try dsimp only at hSw); go_simp <;> try with_reducible rfl)
        try simp only [Act.put, List.setIfInBounds_toArray, List.set_cons_zero, List.set_cons_succ]
        refine wpAnyH_take (i := 15) (oi := { dst := some 103, op := Go.Op.load 3 (Go.Operand.tmp 102), type := 3, pos := "laws.go:1725", after := #[{ on := 14, ground := Go.Ground.data }, { on := 13, ground := Go.Ground.guard }], guard := some (13, false) }) (v := ?_) rfl (by kernel_rfl) (by kernel_rfl) (by kernel_rfl) (fun _ _ _ h => h) (Or.inl ⟨by rfl, ?_⟩) (by assumption) ?_
        rotate_left
        · (intro w hSw; (try dsimp only at hSw); go_simp <;> try with_reducible rfl)
        try simp only [Act.put, List.setIfInBounds_toArray, List.set_cons_zero, List.set_cons_succ]
        refine wpAnyH_take (i := 16) (oi := { dst := some 104, op := Go.Op.binOp Go.BinOp.lss 3 (Go.Operand.tmp 103) (Go.Operand.const (Go.Value.int Go.IntKind.i64 0)) 3, type := 4, pos := "laws.go:1725", after := #[{ on := 15, ground := Go.Ground.data }, { on := 13, ground := Go.Ground.guard }], guard := some (13, false) }) (v := ?_) rfl (by kernel_rfl) (by kernel_rfl) (by kernel_rfl) (fun _ _ _ h => h) (Or.inl ⟨by rfl, ?_⟩) (by assumption) ?_
        rotate_left
        · (intro w hSw; (try dsimp only at hSw); go_simp <;> try with_reducible rfl)
        try simp only [Act.put, List.setIfInBounds_toArray, List.set_cons_zero, List.set_cons_succ]
        refine wpAnyH_take (i := 17) (oi := { dst := some 105, op := Go.Op.pick (Go.Operand.tmp 101) (Go.Operand.const (Go.Value.bool true)) (Go.Operand.tmp 104), type := 4, pos := "laws.go:1725", after := #[{ on := 13, ground := Go.Ground.data }, { on := 16, ground := Go.Ground.data }], guard := none }) (v := ?_) rfl (by kernel_rfl) (by kernel_rfl) (by kernel_rfl) (fun _ _ _ h => h) (Or.inl ⟨by rfl, ?_⟩) (by assumption) ?_
        rotate_left
        · (intro w hSw; (try dsimp only at hSw); go_simp <;> try with_reducible rfl)
        try simp only [Act.put, List.setIfInBounds_toArray, List.set_cons_zero, List.set_cons_succ]
        refine wpAnyH_take (i := 18) (oi := { dst := some 106, op := Go.Op.move (Go.Operand.tmp 105), type := 4, pos := "laws.go:1725", after := #[{ on := 17, ground := Go.Ground.data }, { on := 13, ground := Go.Ground.chain }], guard := none }) (v := ?_) rfl (by kernel_rfl) (by kernel_rfl) (by kernel_rfl) (fun _ _ _ h => h) (Or.inl ⟨by rfl, ?_⟩) (by assumption) ?_
        rotate_left
        · (intro w hSw; (try dsimp only at hSw); go_simp <;> try with_reducible rfl)
        try simp only [Act.put, List.setIfInBounds_toArray, List.set_cons_zero, List.set_cons_succ]
        refine wpAnyH_take (i := 19) (oi := { dst := some 107, op := Go.Op.fieldAddr 27 (Go.Operand.tmp 12) 0, type := 0, pos := "laws.go:1725", after := #[{ on := 18, ground := Go.Ground.guard }], guard := some (18, false) }) (v := ?_) rfl (by kernel_rfl) (by kernel_rfl) (by kernel_rfl) (fun _ _ _ h => h) (Or.inl ⟨by rfl, ?_⟩) (by assumption) ?_
        rotate_left
        · (intro w hSw; (try dsimp only at hSw); go_simp <;> try with_reducible rfl)
        try simp only [Act.put, List.setIfInBounds_toArray, List.set_cons_zero, List.set_cons_succ]
        refine wpAnyH_take (i := 20) (oi := { dst := some 108, op := Go.Op.load 3 (Go.Operand.tmp 107), type := 3, pos := "laws.go:1725", after := #[{ on := 19, ground := Go.Ground.data }, { on := 18, ground := Go.Ground.guard }], guard := some (18, false) }) (v := ?_) rfl (by kernel_rfl) (by kernel_rfl) (by kernel_rfl) (fun _ _ _ h => h) (Or.inl ⟨by rfl, ?_⟩) (by assumption) ?_
        rotate_left
        · (intro w hSw; (try dsimp only at hSw); go_simp <;> try with_reducible rfl)
        try simp only [Act.put, List.setIfInBounds_toArray, List.set_cons_zero, List.set_cons_succ]
        refine wpAnyH_take (i := 21) (oi := { dst := some 109, op := Go.Op.move (Go.Operand.tmp 7), type := 3, pos := "laws.go:1725", after := #[{ on := 18, ground := Go.Ground.guard }], guard := some (18, false) }) (v := ?_) rfl (by kernel_rfl) (by kernel_rfl) (by kernel_rfl) (fun _ _ _ h => h) (Or.inl ⟨by rfl, ?_⟩) (by assumption) ?_
        rotate_left
        · (intro w hSw; (try dsimp only at hSw); go_simp <;> try with_reducible rfl)
        try simp only [Act.put, List.setIfInBounds_toArray, List.set_cons_zero, List.set_cons_succ]
        refine wpAnyH_take (i := 22) (oi := { dst := some 110, op := Go.Op.move (Go.Operand.tmp 11), type := 3, pos := "laws.go:1725", after := #[{ on := 18, ground := Go.Ground.guard }], guard := some (18, false) }) (v := ?_) rfl (by kernel_rfl) (by kernel_rfl) (by kernel_rfl) (fun _ _ _ h => h) (Or.inl ⟨by rfl, ?_⟩) (by assumption) ?_
        rotate_left
        · (intro w hSw; (try dsimp only at hSw); go_simp <;> try with_reducible rfl)
        try simp only [Act.put, List.setIfInBounds_toArray, List.set_cons_zero, List.set_cons_succ]
        refine wpAnyH_ready (rs := [23]) (by kernel_rfl) (by simp) ?_
        refine AllReadyH.cons (o := { dst := some 111, op := Go.Op.call { callee := Go.Callee.value (Go.Operand.func 10), args := #[Go.Operand.tmp 109, Go.Operand.tmp 110], argTypes := #[3, 3] }, type := 3, pos := "laws.go:1725", after := #[{ on := 21, ground := Go.Ground.data }, { on := 22, ground := Go.Ground.data }, { on := 18, ground := Go.Ground.chain }, { on := 18, ground := Go.Ground.guard }], guard := some (18, false) }) rfl (fun K hK => ?_) (AllReadyH.nil)
        go_simp
        refine (HAD.out _ hHeld.2.2.2.2).mono ?_
        rintro e w6 ⟨rfl, b6⟩
        have Q6 : w6.cell? ⟨BX, 0, none⟩ = some (.int .i64 D) ∧ w6.cell? ⟨BX, 1, none⟩ = some (.int .i64 P) ∧ w6.cell? ⟨BX, 2, none⟩ = some (.int .i64 M) ∧ w6.cell? ⟨BX, 3, none⟩ = some (.int .i64 (V - P)) ∧ Below w3.heap.size w3 w6 := ⟨keep_cell b6 hHeld.1, keep_cell b6 hHeld.2.1, keep_cell b6 hHeld.2.2.1, keep_cell b6 hHeld.2.2.2.1, bel_on hHeld.2.2.2.2 b6⟩
        clear b6
        first | refine hK.out _ _ (by exact Q6) (fun hHeld => ?_) | (go_wp2_with fail; refine hK.out _ _ (by exact Q6) (fun hHeld => ?_))
        clear hK K
        try simp only [Act.put, List.setIfInBounds_toArray, List.set_cons_zero, List.set_cons_succ]
        refine wpAnyH_take (i := 24) (oi := { dst := some 112, op := Go.Op.binOp Go.BinOp.neq 3 (Go.Operand.tmp 108) (Go.Operand.tmp 111) 3, type := 4, pos := "laws.go:1725", after := #[{ on := 20, ground := Go.Ground.data }, { on := 23, ground := Go.Ground.data }, { on := 18, ground := Go.Ground.guard }], guard := some (18, false) }) (v := ?_) rfl (by kernel_rfl) (by kernel_rfl) (by kernel_rfl) (fun _ _ _ h => h) (Or.inl ⟨by rfl, ?_⟩) (by assumption) ?_
        rotate_left
        · (intro w hSw; (try dsimp only at hSw); go_simp <;> try with_reducible rfl)
        try simp only [Act.put, List.setIfInBounds_toArray, List.set_cons_zero, List.set_cons_succ]
        refine wpAnyH_take (i := 25) (oi := { dst := some 113, op := Go.Op.pick (Go.Operand.tmp 106) (Go.Operand.const (Go.Value.bool true)) (Go.Operand.tmp 112), type := 4, pos := "laws.go:1725", after := #[{ on := 18, ground := Go.Ground.data }, { on := 24, ground := Go.Ground.data }], guard := none }) (v := ?_) rfl (by kernel_rfl) (by kernel_rfl) (by kernel_rfl) (fun _ _ _ h => h) (Or.inl ⟨by rfl, ?_⟩) (by assumption) ?_
        rotate_left
        · (intro w hSw; (try dsimp only at hSw); go_simp <;> try with_reducible rfl)
        try simp only [Act.put, List.setIfInBounds_toArray, List.set_cons_zero, List.set_cons_succ]
        refine wpAnyH_done (by kernel_rfl) ?_ _
        refine NoPanic.normal ?_
        clear hHeld
        have n3 := Q6.2.2.2.1
        have HB6 := hid Q6.2.2.2.2
        clear Q6
        go_wp2
        go_roundw
        case rel => exact ⟨k + 1, V - P, by omega, rfl, by go_num, by omega, by omega, HL.out, HB6.out⟩
        case measure => simp [intOf]; omega
      · obtain rfl : k = MM := by omega
        have lkk : ¬ (k : Int) < (k : Int) := by omega
        have HZ : Hid (V = 0) := hid (HH.out.1.trans HEND.out)
        have hz := eq_t HZ.out
        go_wp2
        go_returns
        exact ⟨rfl, bel_on HB3.out HH.out.2⟩
  · have hn := hno hct
    subst hn
    clear hyes hno
    go_loopw [10, 11] (fun x i wr => x = .int .i64 a ∧ i = .int .i64 0 ∧ Hid (wr = w3)) (fun _ _ _ => 0)
    case atStart => exact ⟨rfl, rfl, rfl⟩
    case round =>
      obtain ⟨rfl, rfl, HH⟩ := hrel
      obtain rfl := HH.out
      go_wp2
      go_returns
      exact ⟨rfl, HB3.out⟩

set_option maxRecDepth 100000 in
theorem lifted (os : Os) (started : os.Started) (H : Type) (enc : TypeId × Value → H) :
    ReturnsInHanded {} Tryd.checked os 3 .any (fun w args => (Rows.fnInstalledSpec.pre enc Tryd.prog Tryd.f3 [] false w args ∧ laidMetH Tryd.prog laid1 w) ∧ sizedMet enc Tryd.prog Tryd.f3 (OpenSpec.ofChange Rows.fnInstalledSpec) false w args)
      (Rows.fnInstalledSpec.post enc Tryd.prog Tryd.f3 false true false false) := by
  refine returnsInHanded_of_change_and (C := Tryd.checked) (X := fun w _ => laidMetH Tryd.prog laid1 w) (fun _ _ _ hh h => h.of_heap hh) own started (by kernel_rfl) Tryd.func3
    (ChangeSpec.witness_shaped (enc := enc) (C := Tryd.checked) (os := os) (X := fun w _ => laidMetH Tryd.prog laid1 w) false (World.doorLaid Tryd.prog 400 os) #[.slice none 0 0] 8 rfl (World.shaped_of_RefB (by kernel_rfl) (by kernel_rfl)) (by kernel_rfl) (by kernel_rfl) (by kernel_rfl) (door_met1 os _)) ?_
  intro W base args ds gs before hval0 hW _ _ hL _
  have hval : ∀ (j : Nat) t v, Tryd.f3.params[j]? = some t → args[j]? = some v → Value.okWide Tryd.prog W .any base t v := hval0
  have hW' := hW
  obtain ⟨p, q, hA0, hV, rfl, hfz, hnd⟩ := hW
  have hA : DataW.TrodAll enc Tryd.prog W 0 (fun _ => true) true Tryd.f3.params.toList args.toList ds p := hA0
  rw [Tryd.params3] at hA hval
  obtain ⟨v0, vs0, d0, ds0, p0, q0, hargs, rfl, rfl, h0, r0⟩ := trodAll_cons hA
  obtain ⟨rfl, rfl, rfl⟩ := trodAll_nil r0
  obtain rfl : args = #[v0] := by cases args; simp_all
  have hV1 := hV
  obtain ⟨_, _, _, _, gg, _, rfl, _⟩ := trodVars_one hV
  obtain ⟨a0, len0, cap0, rfl⟩ := okWide_slice Tryd.underlying22 (hval 0 22 v0 rfl rfl)
  have k0 := h0
  have lt0 : ∀ x ∈ p0, x.block < W.heap.size := by obtain ⟨m, hm⟩ := k0; exact DataW.trod_lt m _ _ _ hm
  obtain ⟨z0, w0⟩ : ∃ zs, IsRow .u8 W a0 len0 cap0 zs := by
    obtain ⟨fuel, hf⟩ := h0
    rcases open_ints Tryd.underlying22 Tryd.underlying5 (by kernel_rfl) hf with ⟨hcs, _⟩ | ⟨x, l, c, zs, hcs, _, hl, hm, hz, _, hcell, hwz⟩
    · simp [Value.cells] at hcs
      obtain ⟨rfl, rfl, rfl⟩ := hcs
      exact ⟨[], .inl ⟨rfl, rfl, rfl, rfl⟩⟩
    · simp [Value.cells] at hcs
      obtain ⟨rfl, rfl, rfl⟩ := hcs
      exact ⟨zs, .inr ⟨_, rfl, hl, hm, by simpa using hz, hcell, hwz⟩⟩
  clear hA0 hval0
  refine (walk a0 len0 cap0 z0 W w0 (of_laid1 hL)).mono fun e W' ⟨he, hg⟩ => ?_
  subst he
  exact ⟨_, rfl, _, _, _, [], _, _, hW', (trodAll_cons_mk (shut_bool Tryd.underlying4 _) trodAll_mk0), (trodAll_cons_mk (Below.trod laidOut (by kernel_rfl) (of_decide_eq_true (by kernel_rfl)) k0 hg lt0) trodAll_mk0), Below.trodVars laidOut hg (by kernel_rfl) hV1, hg.frame _, fun h => by cases h⟩

theorem row_holds : Rows.FnInstalledSaid :=
  OpenClaim.holds_of_wide 3 Tryd.f3 rfl rfl rfl rfl rfl rfl rfl ⟨rfl, rfl, rfl, rfl, rfl⟩ rfl rfl rfl rfl rfl (by kernel_rfl) Tryd.func3 (by kernel_rfl)
    (of_decide_eq_true (by kernel_rfl)) (by unfold Func.isWrapper; first | (rw [if_pos (by decide +kernel)]; kernel_rfl) | (rw [if_neg (by decide +kernel)]; exact ⟨rfl, rfl⟩))
    (fun os started H enc _ => lifted os started H enc)

end Go.Proofs.YtlhgmdmbjpaakaaDoor.fnInstalled

namespace Go.Proofs.YtlhgmdmbjpaakaaDoor
open Go
theorem fnInstalled_holds : Rows.FnInstalledCardSaid :=
  Claim7.holds_tied_plain_at .later [] [.data] true (true, "c1d291513df1955023e2651060fbbdc84d4b392fc56135ea0bcd4c51d8c34ec8") false
    fnInstalled.row_holds (fun _ h => by cases h) (by kernel_rfl) (fun _ h => by cases h) fnInstalled_row_tie rfl ⟨rfl, rfl⟩ (by kernel_rfl) rfl
    (fun f fn hf hfn => by
      obtain rfl : f = 3 := Option.some.inj ((show Tryd.prog.funcNamed "loop.example/g00040/laws.FnInstalled" = some 3 by kernel_rfl).symm.trans hf) |>.symm
      obtain rfl : fn = Tryd.f3 := (Option.some.inj (Tryd.func3.symm.trans hfn)).symm
      exact ⟨by kernel_rfl, fun j t ht => by
        rw [Tryd.params3] at ht
        have hm : t ∈ [22] := by simpa using Array.mem_of_getElem? ht
        have hall : ([22].all fun u => !Tryd.prog.wantsStandIn u) = true := by kernel_rfl
        exact (show Tryd.prog.wantsStandIn t = false by simpa using List.all_eq_true.1 hall t hm)⟩)
    (by kernel_rfl)
#print axioms fnInstalled_holds
end Go.Proofs.YtlhgmdmbjpaakaaDoor
