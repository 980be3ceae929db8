/- Making, the model: items expanded. -/
import Derived.Test.YtmbdeafpfdeigaaKj
import Derived.Test.YtmbdeafpfdeigaaMm
import Derived.Deep.RegionHeldLaw
import Derived.BigRegion
namespace Go.Proofs.Ytmbdeafpfdeigaa
open Go Go.ChangeShapes Go.WideShapes Go.ChangeAt Go.RowKit
set_option linter.unusedVariables false
set_option linter.unusedSimpArgs false

theorem IB.bt {B b n : Nat} {z : Nat → Int} {w w' : World} (H : IB w b n z) (h : Bt B w w') (hb : b ≠ B) : IB w' b n z := H.keep (h.1 b H.lt hb)
/-- What l17Expand tells, and leaves. -/
def XpP (n LB : Nat) (g : Nat → Int) (b : Bool) (w : World) (e : Ending) (w' : World) : Prop := e = .returned (.bool b) ∧ Bt LB w w' ∧ (b = true → IB w' LB n g)
set_option maxRecDepth 20000 in
set_option maxHeartbeats 8000000 in
theorem l17Expand_any (ia : Option Addr) (n ic lc : Nat) (c : Nat → IT) (d : Int) (LB : Nat) (f : Nat → Int) (i : Nat) (q : Int) (w : World) (hI : isB n c = true) (hM : IB w LB n f) (hS : ItS LB w ia n c) (hf : FQ f) (hi : i < n) (q0 : 0 ≤ q) (q1 : q ≤ 1000000) :
    Calls Try.prog 57 #[.slice (some ⟨LB, 0, none⟩) n lc, .slice ia n ic, .int .i64 (i : Int), .int .i64 q, .int .i64 d] w (XpP n LB (xpF c d f i q) (xpB c d f i q) w) := by
  unfold XpP
  have HM : Hid (IB w LB n f) := hM
  have HF : Hid (FQ f) := hf
  have hn60 : (n : Int) ≤ 60 := by have := (isB_p hI).1; omega
  have hi2 : (i : Int) < (n : Int) := by omega
  obtain ⟨g1, g2, g3, g4, g5⟩ := isB_it hI hi
  have hLB : LB < w.heap.size := hM.lt
  obtain ⟨w0, hw0, hI0, hBw⟩ := hS
  obtain ⟨kb, off, rfl, hkb⟩ := hI0.addr (by omega)
  obtain ⟨ra, rc, sa, sc, _, _, c0, c1, c2, c3, c4, r5, r6⟩ := hI0.cell hi
  have HP : Hid (∀ j, j < cnN (c i).parz d (c i).parn → PG n (cnC (c i).parz d (c i).parn j)) := hid (cnC_all _ (fun j hj => (g4 j hj).1))
  have HIC : Hid (∀ W, Below w.heap.size w W → W.cell? ⟨kb, off + i * 5 + 1, none⟩ = some (.int .i64 (c i).batch) ∧ W.cell? ⟨kb, off + i * 5 + 3, none⟩ = some (.slice ra (c i).parn rc)) := hid (fun W b => ⟨keep_cell (hBw.trans (b.mono (by omega))) c1, keep_cell (hBw.trans (b.mono (by omega))) c3⟩)
  have HCO : Hid (∀ W, Below w.heap.size w W → Calls Try.prog 59 #[.slice ra (c i).parn rc, .int .i64 d] W fun e w' => ∃ ad2 oc, e = .returned (.slice ad2 (cnN (c i).parz d (c i).parn) oc) ∧ OwnPA6 w' W.heap.size ad2 (cnN (c i).parz d (c i).parn) (cnC (c i).parz d (c i).parn) ∧ Below W.heap.size W w') := hid (fun W b => l17Counting_any ra _ rc _ d W (by omega) (r5.below (hBw.trans (b.mono (by omega)))) (fun j hj => (g4 j hj).1.2.2.2))
  replace c0 := keep_cell hBw c0
  replace c1 := keep_cell hBw c1
  replace c2 := keep_cell hBw c2
  replace c3 := keep_cell hBw c3
  replace c4 := keep_cell hBw c4
  obtain ⟨b0, b1⟩ := bat_bd q0 g1.1
  have hmd := bat_made q0 g1.1
  have hmd0 : 0 ≤ bat q (c i).batch * (c i).batch := Int.mul_nonneg b0 (by omega)
  have HBF : Hid (∀ W, Calls Try.prog 95 #[.agg #[.string (c i).name, .int .i64 (c i).batch, .bool (c i).pha, .slice ra (c i).parn rc, .slice sa (c i).alsn sc], .int .i64 q] W fun e w' => e = .returned (.int .i64 (bat q (c i).batch)) ∧ Below W.heap.size W w') := hid (fun W => l17Batches_any _ _ _ _ _ _ _ _ _ q W q0 q1 g1.1 g1.2)
  have hN := cnN_le (c i).parz d (c i).parn
  have hN30 : (cnN (c i).parz d (c i).parn : Int) ≤ 30 := by omega
  unfold xpB xpF
  clear hM hI0 hBw hw0 hf r5 r6 g2 g3 g4 g5 hN
  generalize cnN (c i).parz d (c i).parn = N at *
  generalize cnC (c i).parz d (c i).parn = C at *
  generalize bat q (c i).batch = NB at *
  generalize (c i).name = nm at c0 HBF
  generalize (c i).batch = ba at *
  generalize (c i).pha = ph at c2 HBF
  generalize (c i).parn = rn at *
  generalize (c i).alsn = sn at *
  have hwb : IntKind.i64.wrap (NB * ba) = NB * ba := IntWalk.i64_in _ ⟨by omega, by omega⟩
  cases hv : inB (NB * ba) 0 1000000
  · simp only [Bool.false_and]
    have HVV : Hid (inB (NB * ba) 0 1000000 = false) := hv
    clear hv
    go_enter Try.func57, Try.ntmps57
    go_wp2_with (first
      | (go_at_call 95; refine (HBF.out _).mono ?_; rintro e w1 ⟨rfl, bb1⟩; have k1 := (HIC.out _ bb1).1; have HB1 : Hid (Bt LB w w1) := hid (Bt.of bb1 (by omega)); clear bb1)
      | (go_at_call 96; refine (l12Qty_eq _ _ _ HVV.out).mono ?_; rintro e w2 ⟨rfl, ew⟩; replace ew := ew.symm; subst ew))
    go_returns
    exact ⟨rfl, HB1.out, fun h => by cases h⟩
  simp only [Bool.true_and]
  have HVV : Hid (inB (NB * ba) 0 1000000 = true) := hv
  clear hv
  go_enter Try.func57, Try.ntmps57
  go_wp2_with (first
    | (go_at_call 95; refine (HBF.out _).mono ?_; rintro e w1 ⟨rfl, bb1⟩; have k1 := (HIC.out _ bb1).1; have k3 := (HIC.out _ bb1).2; have HB1 : Hid (Below w.heap.size w w1) := hid bb1; clear bb1)
    | (go_at_call 96; refine (l12Qty_eq _ _ _ HVV.out).mono ?_; rintro e w2 ⟨rfl, ew⟩; replace ew := ew.symm; subst ew)
    | (go_at_call 59; refine (HCO.out _ HB1.out).mono ?_; rintro e w3 ⟨ad2, oc, rfl, o3, bb3⟩; have H1 : Hid (exB f NB C 0 = true ∧ IB w3 LB n (exF f NB C 0) ∧ OwnPA6 w3 w1.heap.size ad2 N C ∧ Bt LB w w3) := hid ⟨rfl, (HM.out.below HB1.out).below bb3, o3, Bt.of (bel_on HB1.out bb3) (by omega)⟩; have hw13 : LB < w1.heap.size := (by have := HB1.out.size; omega); clear o3 bb3))
  clear HCO HBF HIC c0 c1 c2 c3 c4 k1 k3
  go_loopw [13] (fun v wr => ∃ (q : Nat), q ≤ N ∧ v = .int .i64 (q : Int) ∧ Hid (exB f NB C q = true ∧ IB wr LB n (exF f NB C q) ∧ OwnPA6 wr w1.heap.size ad2 N C ∧ Bt LB w wr)) (fun v _ => N - (intOf v).toNat)
  case atStart => exact ⟨0, Nat.zero_le _, rfl, H1⟩
  case round =>
    clear H1
    obtain ⟨p, hp, rfl, HH⟩ := hrel
    obtain ⟨wo, rfl⟩ : ∃ x, x = wr := ⟨wr, rfl⟩
    by_cases hlt : p < N
    · have hlt2 : (p : Int) < (N : Int) := by omega
      obtain ⟨kc, of2, e2, hkc⟩ := HH.out.2.2.1.row.addr (by omega)
      have hkw : w1.heap.size ≤ kc := by
        rcases HH.out.2.2.1 with h0 | ⟨g, cs, e, h1, _⟩
        · omega
        · rw [e] at e2; cases e2; exact h1
      subst e2
      obtain ⟨c0, c1, c2, c3, c4, c5⟩ := HH.out.2.2.1.row.cell hlt
      have hpq := HP.out p hlt
      have hfq := exF_q HF.out p HH.out.1
      have hST : Hid (exB f NB C (p + 1) = stB (exF f NB C p) NB (C p)) := hid (by show (exB f NB C p && _) = _; rw [HH.out.1]; rfl)
      have hEX : Hid (exF f NB C (p + 1) = upI (exF f NB C p) (C p).item.toNat (exF f NB C p (C p).item.toNat + tk NB (C p))) := rfl
      have HSP : Hid (∀ m, p + 1 ≤ m → exB f NB C (p + 1) = false → exB f NB C m = false) := hid (fun m h1 h2 => exB_mono m h1 h2)
      have HFQ : Hid (FQ (exF f NB C p)) := hfq
      have HMo : Hid (IB wo LB n (exF f NB C p)) := HH.out.2.1
      obtain ⟨hi0, hi1⟩ := hpq.1
      have hqt := hpq.2.1
      obtain ⟨P, hP⟩ : ∃ P : Nat, (C p).item = (P : Int) := ⟨(C p).item.toNat, by omega⟩
      have hq0 : 0 ≤ NB * (C p).qty := Int.mul_nonneg b0 (by omega)
      have hq1 : NB * (C p).qty ≤ 1000000 * 1000000 := by
        have e1 : NB * (C p).qty ≤ 1000000 * (C p).qty := Int.mul_le_mul_of_nonneg_right (by omega) (by omega)
        have e2 : (1000000 : Int) * (C p).qty ≤ 1000000 * 1000000 := Int.mul_le_mul_of_nonneg_left hpq.2.1.2 (by omega)
        omega
      obtain ⟨m1, m2, m3, m4⟩ := md_tk hq0 (by omega) hpq.2.2.1
      have HMD : Hid (∀ W, Calls Try.prog 107 #[.int .i64 (NB * (C p).qty), .int .i64 (100 + (C p).scr), .int .i64 100, .int .i64 6] W fun e w' => e = .returned (.tuple #[.int .i64 (tk NB (C p)), .bool (mdB (NB * (C p).qty) (100 + (C p).scr) 100 6)]) ∧ w' = W) := hid (fun W => specMulDiv_any _ _ _ _ W)
      have hscr := hpq.2.2.1
      unfold stB at hST
      rw [hP] at c0 hi1 hEX hST
      simp only [Int.toNat_natCast] at hEX hST
      have hPn : P < n := by omega
      have hPn2 : (P : Int) < (n : Int) := by omega
      generalize exF f NB C p = g at hEX hST HFQ HMo
      clear hi0 hi1 hpq hfq hP m1 m2 hqt
      generalize tk NB (C p) = T at hEX hST HMD m3 m4
      generalize (C p).qty = qt at c1 hST HMD hq0 hq1
      generalize (C p).scr = sc2 at c2 hST HMD hscr
      generalize mdB (NB * qt) (100 + sc2) 100 6 = MB at HMD
      have hwq : IntKind.i64.wrap (NB * qt) = NB * qt := IntWalk.i64_in _ ⟨by omega, by omega⟩
      cases hx : inB (NB * qt) 0 1000000
      · have HV : Hid (exB f NB C N = false) := hid (HSP.out N (by omega) (by rw [hST.out, hx]; rfl))
        have HXX : Hid (inB (NB * qt) 0 1000000 = false) := hx
        clear hx
        go_wp2_with (go_at_call 96; refine (l12Qty_eq _ _ _ HXX.out).mono ?_; rintro e w4 ⟨rfl, ew⟩; replace ew := ew.symm; subst ew)
        go_returns
        refine ⟨ret_bool HV.out.symm, HH.out.2.2.2, fun h => ?_⟩
        rw [HV.out] at h; cases h
      have HXX : Hid (inB (NB * qt) 0 1000000 = true) := hx
      rw [hx, Bool.true_and] at hST
      clear hx
      have hA := HFQ.out P
      have ca := HMo.out.cell hPn
      obtain ⟨A, hAe⟩ : ∃ A, g P = A := ⟨_, rfl⟩
      have HAE : Hid (g P = A) := hAe
      rw [hAe] at hA ca hEX hST
      have hwT : IntKind.i64.wrap (A + T) = A + T := IntWalk.i64_in _ ⟨by omega, by omega⟩
      have HQ2 : Hid (OwnPA6 wo w1.heap.size (some ⟨kc, of2, none⟩) N C ∧ Bt LB w wo) := hid ⟨HH.out.2.2.1, HH.out.2.2.2⟩
      clear HH hAe hA c3 c4 c5
      have tokq : True := trivial
      go_wp2_with (first
        | (go_at_call 96; clear tokq; refine (l12Qty_eq _ _ _ HXX.out).mono ?_; rintro e w4 ⟨rfl, ew⟩; replace ew := ew.symm; subst ew)
        | (go_at_call 107; refine (HMD.out _).mono ?_; rintro e w5 ⟨rfl, ew⟩; replace ew := ew.symm; subst ew))
      have nB : kc ≠ LB := by omega
      have fa := HMo.out.fr P
      have HX : Hid (wo.drew.cell? ⟨kc, of2 + p * 6, none⟩ = some (.int .i64 (P : Int))) := c0
      have HY : Hid ((wo.setCell ⟨LB, P, none⟩ (.int .i64 (A + T))).drew.cell? ⟨kc, of2 + p * 6, none⟩ = some (.int .i64 (P : Int))) := hid (cell_oth nB c0)
      have HCE : Hid (wo.drew.cell? ⟨LB, P, none⟩ = some (.int .i64 A)) := ca
      clear c0 c1 c2 ca
      have HY2 := HY
      refine wp_region_noPanic ?_
      refine wp_region_held_drew (S := fun w' => w'.cell? ⟨kc, of2 + p * 6, none⟩ = some (.int .i64 (P : Int))) (by kernel_rfl) (by exact HX.out) (fun hHeld => ?_)
      refine wpAnyH_take (i := 0) (oi := { dst := some 64, op := Go.Op.move (Go.Operand.tmp 0), type := 24, pos := "l17_make.go:88", after := #[], guard := none }) (v := ?_) rfl (by kernel_rfl) (by kernel_rfl) (by kernel_rfl) (fun _ _ _ h => h) (Or.inl ⟨by rfl, ?_⟩) (by assumption) ?_
      rotate_left
      · (intro w hSw; (try dsimp only at hSw); go_simp <;> try with_reducible rfl)
      try simp only [Act.put, List.setIfInBounds_toArray, List.set_cons_zero, List.set_cons_succ]
      refine wpAnyH_take (i := 1) (oi := { dst := some 65, op := Go.Op.move (Go.Operand.tmp 12), type := 29, pos := "l17_make.go:88", after := #[], guard := none }) (v := ?_) rfl (by kernel_rfl) (by kernel_rfl) (by kernel_rfl) (fun _ _ _ h => h) (Or.inl ⟨by rfl, ?_⟩) (by assumption) ?_
      rotate_left
      · (intro w hSw; (try dsimp only at hSw); go_simp <;> try with_reducible rfl)
      try simp only [Act.put, List.setIfInBounds_toArray, List.set_cons_zero, List.set_cons_succ]
      refine wpAnyH_take (i := 2) (oi := { dst := some 66, op := Go.Op.move (Go.Operand.tmp 13), type := 3, pos := "l17_make.go:88", after := #[], guard := none }) (v := ?_) rfl (by kernel_rfl) (by kernel_rfl) (by kernel_rfl) (fun _ _ _ h => h) (Or.inl ⟨by rfl, ?_⟩) (by assumption) ?_
      rotate_left
      · (intro w hSw; (try dsimp only at hSw); go_simp <;> try with_reducible rfl)
      try simp only [Act.put, List.setIfInBounds_toArray, List.set_cons_zero, List.set_cons_succ]
      refine wpAnyH_take (i := 3) (oi := { dst := some 67, op := Go.Op.indexAddr 29 (Go.Operand.tmp 65) (Go.Operand.tmp 66), type := 0, pos := "l17_make.go:88", after := #[{ on := 1, ground := Go.Ground.data }, { on := 2, ground := Go.Ground.data }], guard := none }) (v := ?_) rfl (by kernel_rfl) (by kernel_rfl) (by kernel_rfl) (fun _ _ _ h => h) (Or.inl ⟨by rfl, ?_⟩) (by assumption) ?_
      rotate_left
      · (intro w hSw; (try dsimp only at hSw); go_simp <;> try with_reducible rfl)
      try simp only [Act.put, List.setIfInBounds_toArray, List.set_cons_zero, List.set_cons_succ]
      refine wpAnyH_take (i := 4) (oi := { dst := some 68, op := Go.Op.fieldAddr 28 (Go.Operand.tmp 67) 0, type := 0, pos := "l17_make.go:88", after := #[{ on := 3, ground := Go.Ground.data }], guard := none }) (v := ?_) rfl (by kernel_rfl) (by kernel_rfl) (by kernel_rfl) (fun _ _ _ h => h) (Or.inl ⟨by rfl, ?_⟩) (by assumption) ?_
      rotate_left
      · (intro w hSw; (try dsimp only at hSw); go_simp <;> try with_reducible rfl)
      try simp only [Act.put, List.setIfInBounds_toArray, List.set_cons_zero, List.set_cons_succ]
      refine wpAnyH_take (i := 5) (oi := { dst := some 69, op := Go.Op.load 3 (Go.Operand.tmp 68), type := 3, pos := "l17_make.go:88", after := #[{ on := 4, ground := Go.Ground.data }], guard := none }) (v := ?_) rfl (by kernel_rfl) (by kernel_rfl) (by kernel_rfl) (fun _ _ _ h => h) (Or.inl ⟨by rfl, ?_⟩) (by assumption) ?_
      rotate_left
      · (intro w hSw; (try dsimp only at hSw); go_simp <;> try with_reducible rfl)
      try simp only [Act.put, List.setIfInBounds_toArray, List.set_cons_zero, List.set_cons_succ]
      refine wpAnyH_take (i := 6) (oi := { dst := some 70, op := Go.Op.move (Go.Operand.tmp 0), type := 24, pos := "l17_make.go:88", after := #[], guard := none }) (v := ?_) rfl (by kernel_rfl) (by kernel_rfl) (by kernel_rfl) (fun _ _ _ h => h) (Or.inl ⟨by rfl, ?_⟩) (by assumption) ?_
      rotate_left
      · (intro w hSw; (try dsimp only at hSw); go_simp <;> try with_reducible rfl)
      try simp only [Act.put, List.setIfInBounds_toArray, List.set_cons_zero, List.set_cons_succ]
      refine wpAnyH_take (i := 7) (oi := { dst := some 71, op := Go.Op.move (Go.Operand.tmp 12), type := 29, pos := "l17_make.go:88", after := #[], guard := none }) (v := ?_) rfl (by kernel_rfl) (by kernel_rfl) (by kernel_rfl) (fun _ _ _ h => h) (Or.inl ⟨by rfl, ?_⟩) (by assumption) ?_
      rotate_left
      · (intro w hSw; (try dsimp only at hSw); go_simp <;> try with_reducible rfl)
      try simp only [Act.put, List.setIfInBounds_toArray, List.set_cons_zero, List.set_cons_succ]
      refine wpAnyH_take (i := 8) (oi := { dst := some 72, op := Go.Op.move (Go.Operand.tmp 13), type := 3, pos := "l17_make.go:88", after := #[], guard := none }) (v := ?_) rfl (by kernel_rfl) (by kernel_rfl) (by kernel_rfl) (fun _ _ _ h => h) (Or.inl ⟨by rfl, ?_⟩) (by assumption) ?_
      rotate_left
      · (intro w hSw; (try dsimp only at hSw); go_simp <;> try with_reducible rfl)
      try simp only [Act.put, List.setIfInBounds_toArray, List.set_cons_zero, List.set_cons_succ]
      refine wpAnyH_take (i := 9) (oi := { dst := some 73, op := Go.Op.indexAddr 29 (Go.Operand.tmp 71) (Go.Operand.tmp 72), type := 0, pos := "l17_make.go:88", after := #[{ on := 7, ground := Go.Ground.data }, { on := 8, ground := Go.Ground.data }], guard := none }) (v := ?_) rfl (by kernel_rfl) (by kernel_rfl) (by kernel_rfl) (fun _ _ _ h => h) (Or.inl ⟨by rfl, ?_⟩) (by assumption) ?_
      rotate_left
      · (intro w hSw; (try dsimp only at hSw); go_simp <;> try with_reducible rfl)
      try simp only [Act.put, List.setIfInBounds_toArray, List.set_cons_zero, List.set_cons_succ]
      refine wpAnyH_take (i := 10) (oi := { dst := some 74, op := Go.Op.fieldAddr 28 (Go.Operand.tmp 73) 0, type := 0, pos := "l17_make.go:88", after := #[{ on := 9, ground := Go.Ground.data }], guard := none }) (v := ?_) rfl (by kernel_rfl) (by kernel_rfl) (by kernel_rfl) (fun _ _ _ h => h) (Or.inl ⟨by rfl, ?_⟩) (by assumption) ?_
      rotate_left
      · (intro w hSw; (try dsimp only at hSw); go_simp <;> try with_reducible rfl)
      try simp only [Act.put, List.setIfInBounds_toArray, List.set_cons_zero, List.set_cons_succ]
      refine wpAnyH_take (i := 11) (oi := { dst := some 75, op := Go.Op.load 3 (Go.Operand.tmp 74), type := 3, pos := "l17_make.go:88", after := #[{ on := 10, ground := Go.Ground.data }], guard := none }) (v := ?_) rfl (by kernel_rfl) (by kernel_rfl) (by kernel_rfl) (fun _ _ _ h => h) (Or.inl ⟨by rfl, ?_⟩) (by assumption) ?_
      rotate_left
      · (intro w hSw; (try dsimp only at hSw); go_simp <;> try with_reducible rfl)
      try simp only [Act.put, List.setIfInBounds_toArray, List.set_cons_zero, List.set_cons_succ]
      refine wpAnyH_take (i := 12) (oi := { dst := some 76, op := Go.Op.indexAddr 24 (Go.Operand.tmp 70) (Go.Operand.tmp 75), type := 0, pos := "l17_make.go:88", after := #[{ on := 6, ground := Go.Ground.data }, { on := 11, ground := Go.Ground.data }], guard := none }) (v := ?_) rfl (by kernel_rfl) (by kernel_rfl) (by kernel_rfl) (fun _ _ _ h => h) (Or.inl ⟨by rfl, ?_⟩) (by assumption) ?_
      rotate_left
      · (intro w hSw; (try dsimp only at hSw); go_simp <;> try with_reducible rfl)
      try simp only [Act.put, List.setIfInBounds_toArray, List.set_cons_zero, List.set_cons_succ]
      refine wpAnyH_take (i := 14) (oi := { dst := some 78, op := Go.Op.move (Go.Operand.tmp 14), type := 3, pos := "l17_make.go:88", after := #[], guard := none }) (v := ?_) rfl (by kernel_rfl) (by kernel_rfl) (by kernel_rfl) (fun _ _ _ h => h) (Or.inl ⟨by rfl, ?_⟩) (by assumption) ?_
      rotate_left
      · (intro w hSw; (try dsimp only at hSw); go_simp <;> try with_reducible rfl)
      try simp only [Act.put, List.setIfInBounds_toArray, List.set_cons_zero, List.set_cons_succ]
      refine wpAnyH_ready (rs := [13]) (by kernel_rfl) (by simp) ?_
      refine AllReadyH.cons (o := { dst := some 77, op := Go.Op.load 3 (Go.Operand.tmp 76), type := 3, pos := "l17_make.go:88", after := #[{ on := 12, ground := Go.Ground.data }], guard := none }) rfl (fun K hK => ?_) (AllReadyH.nil)
      have hce := HCE.out
      go_simp
      refine hK.out _ _ (by exact HX.out) (fun hHeld => ?_)
      clear hK K hce
      try simp only [Act.put, List.setIfInBounds_toArray, List.set_cons_zero, List.set_cons_succ]
      refine wpAnyH_take (i := 15) (oi := { dst := some 79, op := Go.Op.binOp Go.BinOp.add 3 (Go.Operand.tmp 77) (Go.Operand.tmp 78) 3, type := 3, pos := "l17_make.go:88", after := #[{ on := 13, ground := Go.Ground.data }, { on := 14, ground := Go.Ground.data }], guard := none }) (v := ?_) rfl (by kernel_rfl) (by kernel_rfl) (by kernel_rfl) (fun _ _ _ h => h) (Or.inl ⟨by rfl, ?_⟩) (by assumption) ?_
      rotate_left
      · (intro w hSw; (try dsimp only at hSw); go_simp <;> try with_reducible rfl)
      try simp only [Act.put, List.setIfInBounds_toArray, List.set_cons_zero, List.set_cons_succ]
      refine wpAnyH_take (i := 16) (oi := { dst := some 80, op := Go.Op.indexAddr 24 (Go.Operand.tmp 64) (Go.Operand.tmp 69), type := 0, pos := "l17_make.go:88", after := #[{ on := 0, ground := Go.Ground.data }, { on := 5, ground := Go.Ground.data }, { on := 0, ground := Go.Ground.phase }, { on := 1, ground := Go.Ground.phase }, { on := 2, ground := Go.Ground.phase }, { on := 3, ground := Go.Ground.phase }, { on := 4, ground := Go.Ground.phase }, { on := 5, ground := Go.Ground.phase }, { on := 6, ground := Go.Ground.phase }, { on := 7, ground := Go.Ground.phase }, { on := 8, ground := Go.Ground.phase }, { on := 9, ground := Go.Ground.phase }, { on := 10, ground := Go.Ground.phase }, { on := 11, ground := Go.Ground.phase }, { on := 12, ground := Go.Ground.phase }, { on := 13, ground := Go.Ground.phase }, { on := 14, ground := Go.Ground.phase }, { on := 15, ground := Go.Ground.phase }], guard := none }) (v := ?_) rfl (by kernel_rfl) (by kernel_rfl) (by kernel_rfl) (fun _ _ _ h => h) (Or.inl ⟨by rfl, ?_⟩) (by assumption) ?_
      rotate_left
      · (intro w hSw; (try dsimp only at hSw); go_simp <;> try with_reducible rfl)
      try simp only [Act.put, List.setIfInBounds_toArray, List.set_cons_zero, List.set_cons_succ]
      refine wpAnyH_ready (rs := [17]) (by kernel_rfl) (by simp) ?_
      refine AllReadyH.cons (o := { dst := none, op := Go.Op.store 3 (Go.Operand.tmp 80) (Go.Operand.tmp 79), type := 0, pos := "l17_make.go:88", after := #[{ on := 16, ground := Go.Ground.data }, { on := 15, ground := Go.Ground.data }, { on := 0, ground := Go.Ground.phase }, { on := 1, ground := Go.Ground.phase }, { on := 2, ground := Go.Ground.phase }, { on := 3, ground := Go.Ground.phase }, { on := 4, ground := Go.Ground.phase }, { on := 5, ground := Go.Ground.phase }, { on := 6, ground := Go.Ground.phase }, { on := 7, ground := Go.Ground.phase }, { on := 8, ground := Go.Ground.phase }, { on := 9, ground := Go.Ground.phase }, { on := 10, ground := Go.Ground.phase }, { on := 11, ground := Go.Ground.phase }, { on := 12, ground := Go.Ground.phase }, { on := 13, ground := Go.Ground.phase }, { on := 14, ground := Go.Ground.phase }, { on := 15, ground := Go.Ground.phase }], guard := none }) rfl (fun K hK => ?_) (AllReadyH.nil)
      have hce := HCE.out
      go_simp
      refine hK.out _ _ (by exact HY.out) (fun hHeld => ?_)
      clear hK K hce
      try simp only [Act.put, List.setIfInBounds_toArray, List.set_cons_zero, List.set_cons_succ]
      refine wpAnyH_done (by kernel_rfl) ?_ _
      refine NoPanic.normal ?_
      clear hHeld HX HY HCE
      have HN : Hid (IB (wo.setCell ⟨LB, P, none⟩ (.int .i64 (A + T))).drew LB n (exF f NB C (p + 1)) ∧ OwnPA6 (wo.setCell ⟨LB, P, none⟩ (.int .i64 (A + T))).drew w1.heap.size (some ⟨kc, of2, none⟩) N C ∧ Bt LB w (wo.setCell ⟨LB, P, none⟩ (.int .i64 (A + T))).drew ∧ (wo.setCell ⟨LB, P, none⟩ (.int .i64 (A + T))).drew.cell? ⟨kc, of2 + p * 6, none⟩ = some (.int .i64 (P : Int)) ∧ (wo.setCell ⟨LB, P, none⟩ (.int .i64 (A + T))).drew.cell? ⟨LB, P, none⟩ = some (.int .i64 (A + T))) := hid (by
        have e1 : IB (wo.setCell ⟨LB, P, none⟩ (.int .i64 (A + T))).drew LB n (exF f NB C (p + 1)) := IB.dr (by rw [hEX.out]; exact HMo.out.set hPn _)
        refine ⟨e1, (HQ2.out.1.bt ((Bt.refl _ _).set _ _).drew (by omega)), (HQ2.out.2.set _ _).drew, HY2.out, ?_⟩
        have := e1.cell hPn
        rw [hEX.out, upI_eq] at this; exact this)
      clear fa HQ2 HMo HY2
      generalize (wo.setCell ⟨LB, P, none⟩ (.int .i64 (A + T))).drew = W9 at HN ⊢
      have y0 := HN.out.2.2.2.1
      have y1 := HN.out.2.2.2.2
      obtain ⟨v, hvv⟩ : ∃ v, inB (A + T) 0 1000000 = v := ⟨_, rfl⟩
      rw [hvv] at hST
      have HV3 : Hid (inB (A + T) 0 1000000 = v) := hvv
      clear hvv
      cases v
      · have HV : Hid (exB f NB C N = false) := hid (HSP.out N (by omega) hST.out)
        go_wp2_with (go_at_call 96; refine (l12Qty_eq _ _ _ HV3.out).mono ?_; rintro e w6 ⟨rfl, ew⟩; replace ew := ew.symm; subst ew)
        go_returns
        refine ⟨ret_bool HV.out.symm, HN.out.2.2.1, fun h => ?_⟩
        rw [HV.out] at h; cases h
      · go_wp2_with (go_at_call 96; refine (l12Qty_eq _ _ _ HV3.out).mono ?_; rintro e w6 ⟨rfl, ew⟩; replace ew := ew.symm; subst ew)
        go_roundw
        case rel => exact ⟨p + 1, by omega, by go_num, hid ⟨hST.out, HN.out.1, HN.out.2.1, HN.out.2.2.1⟩⟩
        case measure => simp [intOf]; omega
    · obtain rfl : p = N := by omega
      have lpp : ¬ (p : Int) < (p : Int) := by omega
      go_wp2
      go_returns
      exact ⟨ret_bool HH.out.1.symm, HH.out.2.2.2, fun _ => HH.out.2.1⟩
end Go.Proofs.Ytmbdeafpfdeigaa
