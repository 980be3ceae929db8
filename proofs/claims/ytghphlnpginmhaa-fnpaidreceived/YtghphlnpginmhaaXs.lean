/- What FnPaidReceived draws: DrawMatchBill. -/
import Derived.Test.YtghphlnpginmhaaXu
import Derived.Test.YtghphlnpginmhaaPd
import Derived.Deep.RegionHeld3
namespace Go.Proofs.Ytghphlnpginmhaa
open Go Go.ChangeShapes Go.WideShapes Go.ChangeAt Go.RowKit
set_option linter.unusedVariables false
set_option linter.unusedSimpArgs false

theorem res_of {w w1 w9 : World} {b : Nat} (hb : b = w.heap.size + 1) (hb1 : Below b (w.alloc (.cells #[.int .i64 0, .int .i64 0, .int .i64 0] 40 (0, 0))) w1) (mv : Moved b w1 w9) : CB w9 w.heap.size #[.int .i64 0, .int .i64 0, .int .i64 0] 40 :=
  ((CB.new _ _).below hb1 (by omega)).turns mv.2 (by omega)
theorem dm_of {w w1 w9 : World} {b a na oca gr kr ocr g k oc : Nat} {ca : Nat → OL3} {cr : Nat → RC2} {bc : Nat → BN3} (o p l : Int) (hb : b = w.heap.size + 1) (hz : (w.alloc (.cells #[.int .i64 0, .int .i64 0, .int .i64 0] 40 (0, 0))).heap.size = b) (hb1 : Below b (w.alloc (.cells #[.int .i64 0, .int .i64 0, .int .i64 0] 40 (0, 0))) w1) (mv : Moved b w1 w9) (ha : b < a) (hgr : b < gr) (hg : b < g) (h1 : OLr w9 (some ⟨a, 0, none⟩) na ca) (h2 : RCr w9 (some ⟨gr, 0, none⟩) kr cr) (h3 : BNr w9 (some ⟨g, 0, none⟩) k bc) (hna : na ≤ 4) (hkr : kr ≤ 25) (hk : k ≤ 5) (hs : ∀ j, (ca j).item.size ≤ 40) :
    DmP w (.returned (.tuple #[.slice (some ⟨a, 0, none⟩) na oca, .slice (some ⟨gr, 0, none⟩) kr ocr, .slice (some ⟨g, 0, none⟩) k oc, .agg #[.int .i64 o, .int .i64 p, .int .i64 l]])) (((w9.setCell ⟨w.heap.size, 0, none⟩ (.int .i64 o)).setCell ⟨w.heap.size, 1, none⟩ (.int .i64 p)).setCell ⟨w.heap.size, 2, none⟩ (.int .i64 l)) ∧ CB (((w9.setCell ⟨w.heap.size, 0, none⟩ (.int .i64 o)).setCell ⟨w.heap.size, 1, none⟩ (.int .i64 p)).setCell ⟨w.heap.size, 2, none⟩ (.int .i64 l)) w.heap.size #[.int .i64 o, .int .i64 p, .int .i64 l] 40 := by
  have hs1 := hb1.size
  rw [hz] at hs1
  refine ⟨⟨some ⟨a, 0, none⟩, na, oca, ca, some ⟨gr, 0, none⟩, kr, ocr, cr, some ⟨g, 0, none⟩, k, oc, bc, o, p, l, rfl, by omega, by omega, by omega, fun j => by have := hs j; unfold maxLen; omega, ?_, ?_, ?_, ?_⟩, ?_⟩
  · have q : ∀ k off, some (⟨a, 0, none⟩ : Addr) = some ⟨k, off, none⟩ → k ≠ w.heap.size := fun k off e => by cases e; omega
    exact ((h1.other _ q).other _ q).other _ q
  · have q : ∀ k off, some (⟨gr, 0, none⟩ : Addr) = some ⟨k, off, none⟩ → k ≠ w.heap.size := fun k off e => by cases e; omega
    exact ((h2.other _ q).other _ q).other _ q
  · have q : ∀ k off, some (⟨g, 0, none⟩ : Addr) = some ⟨k, off, none⟩ → k ≠ w.heap.size := fun k off e => by cases e; omega
    exact ((h3.other _ q).other _ q).other _ q
  · have b0 : Below w.heap.size w (w.alloc (.cells #[.int .i64 0, .int .i64 0, .int .i64 0] 40 (0, 0))) := (Below.refl _ _).alloc (Nat.le_refl _) _
    have b1 : Below w.heap.size (w.alloc (.cells #[.int .i64 0, .int .i64 0, .int .i64 0] 40 (0, 0))) w1 := hb1.mono (by omega)
    have b2 : Below w.heap.size w1 w9 := mv.2.below (by omega) (by omega)
    exact ((((b0.trans b1).trans b2).setCell (by simp) _).setCell (by simp) _).setCell (by simp) _
  · exact (((res_of hb hb1 mv).set 0 _).set 1 _).set 2 _
set_option maxRecDepth 20000 in
set_option maxHeartbeats 16000000 in
theorem drawMatch_any (ad : Option Addr) (len cap : Nat) (w : World) (hl : (len : Int) ≤ 1048576) (hr : ByteRow w w.heap.size ad len) :
    Calls Try.prog 18 #[.slice ad len cap] w (DmP w) := by
  obtain ⟨iBN3, hiBN3, hzBN30, hzBN31, hzBN32⟩ := infoBN3
  obtain ⟨b, hb⟩ : ∃ b, (w.alloc (.cells #[.int .i64 0, .int .i64 0, .int .i64 0] 40 (0, 0))).heap.size = b := ⟨_, rfl⟩
  have hbz : b = w.heap.size + 1 := by rw [← hb]; simp
  have HN : Hid (Calls Try.prog 58 #[.slice ad len cap] (w.alloc (.cells #[.int .i64 0, .int .i64 0, .int .i64 0] 40 (0, 0))) fun e w' => e = .returned (.pointer (some ⟨b, 0, none⟩)) ∧ Cursor w' b ∧ Below b (w.alloc (.cells #[.int .i64 0, .int .i64 0, .int .i64 0] 40 (0, 0))) w') := hid (by have := new_any ad len cap (w.alloc (.cells #[.int .i64 0, .int .i64 0, .int .i64 0] 40 (0, 0))) (by omega) (hr.up ((Below.refl _ _).alloc (Nat.le_refl _) _)); rw [hb] at this; exact this)
  have HZ : Hid (b = w.heap.size + 1 ∧ (w.alloc (.cells #[.int .i64 0, .int .i64 0, .int .i64 0] 40 (0, 0))).heap.size = b) := hid ⟨hbz, hb⟩
  clear hr hb hbz
  go_enter Try.func18, Try.ntmps18
  go_wp2_with (first
    | (go_at_call 58; refine HN.out.mono ?_; rintro e w1 ⟨rfl, c1, b1⟩; have HC1 : Hid (Cursor w1 b) := c1; have HB1 : Hid (Below b (w.alloc (.cells #[.int .i64 0, .int .i64 0, .int .i64 0] 40 (0, 0))) w1) := b1; clear c1 b1)
    | (go_at_call 72; refine (drawOrder_any b _ HC1.out).mono ?_; rintro e w2 ⟨g0, n, oc0, co, rfl, n1, n4, ho, d2⟩; have HO : Hid (OrD co) := ho; have D2 : Hid (DXOL3 b w1 w1.heap.size g0 n oc0 co w2) := d2; have hn1 : (1 : Int) ≤ (n : Int) := (by omega); have hn4 : (n : Int) ≤ 4 := (by omega); clear ho d2)
    | (go_at_call 73; refine (drawRec_any b g0 n oc0 co _ D2.out.cur D2.out.gb ⟨n1, n4⟩ HO.out D2.out.row).mono ?_; rintro e w3 ⟨gr, kr, ocr, cr, rfl, hkr, d3⟩; have D3 : Hid (DXRC2 b w2 w2.heap.size gr kr ocr cr w3) := d3; have RR : Hid (DXBN3 b w3 w3.heap.size w3.heap.size 0 0 (fun _ => ⟨0, 0, 0⟩) (w3.alloc (.cells #[] 122 (0, 0)))) := hid (DXBN3.start d3.cur); clear d3)
    | (go_at_call 59; refine (below_any b _ _ RR.out.cur).mono ?_; rintro e w4 ⟨x, rfl, x0, x1, _, m4⟩; obtain ⟨N, rfl, hN⟩ := nat_of (n := 6) x0 (x1 (by decide)); replace RR := hid (RR.out.moved m4); clear m4 x0 x1))
  clear HN
  have HOR : Hid (OLr w3 (some ⟨g0, 0, none⟩) n co) := hid (D2.out.row.turns D3.out.trn D2.out.gb)
  have HG0 : Hid (g0 ≠ b) := hid D2.out.gb
  go_loopw [9, 10] (fun v n' wr => ∃ (g k oc q : Nat) (c : Nat → BN3), v = .slice (some ⟨g, 0, none⟩) k oc ∧ n' = .int .i64 (q : Int) ∧ k + q ≤ 5 ∧ Hid (DXBN3 b w3 w3.heap.size g k oc c wr)) (fun _ n' _ => (intOf n').toNat)
  case atStart => exact ⟨_, 0, 0, N, _, rfl, rfl, by omega, RR⟩
  case round =>
    obtain ⟨g, k, oc, q, c, rfl, rfl, hkq, HW⟩ := hrel
    obtain ⟨wo, rfl⟩ : ∃ x, x = wr := ⟨wr, rfl⟩
    have hk5 : (k : Int) ≤ 5 := by omega
    clear RR
    by_cases hq : 0 < q
    · have hq2 : (0 : Int) < (q : Int) := by omega
      go_wp2_with (go_at_call 59; refine (below_any b _ _ HW.out.cur).mono ?_; rintro e w4 ⟨x, rfl, x0, x1, _, m4⟩; obtain ⟨j, rfl, hj⟩ := nat_of x0 (x1 (by omega)); have hj2 : (j : Int) < (n : Int) := (by omega); have R4 : Hid (DXBN3 b w3 w3.heap.size g k oc c w4) := hid (HW.out.moved m4); clear m4 x0 x1)
      obtain ⟨Q, hQ⟩ : ∃ Q, (co j).qty = Q := ⟨_, rfl⟩
      obtain ⟨P, hP⟩ : ∃ P, (co j).price = P := ⟨_, rfl⟩
      have HS9 : Hid (∀ w', DXBN3 b w3 w3.heap.size g k oc c w' → w'.cell? ⟨g0, j * 3 + 1, none⟩ = some (.int .i64 Q) ∧ w'.cell? ⟨g0, j * 3 + 2, none⟩ = some (.int .i64 P) ∧ DXBN3 b w3 w3.heap.size g k oc c w') := hid (fun w' h => by
        have c0 := (HOR.out.turns h.trn HG0.out).cell hj
        simp only [Nat.zero_add] at c0
        rw [← hQ, ← hP]
        exact ⟨c0.2.1, c0.2.2, h⟩)
      have hQb : 1 ≤ Q ∧ Q ≤ 100 := by rw [← hQ]; exact (HO.out j).2.1
      have hPb : 0 ≤ P ∧ P ≤ 1999 := by rw [← hP]; exact (HO.out j).2.2
      have hQ2 : 0 ≤ Q.tdiv 2 ∧ Q.tdiv 2 ≤ 50 := by rw [Int.tdiv_eq_ediv_of_nonneg (by omega)]; omega
      have hP2 : 0 ≤ P.tdiv 15 ∧ P.tdiv 15 ≤ 134 := by rw [Int.tdiv_eq_ediv_of_nonneg (by omega)]; omega
      have hw1 : IntKind.i64.wrap (Q.tdiv 2) = Q.tdiv 2 := IntWalk.i64_in _ ⟨by omega, by omega⟩
      have hw2 : IntKind.i64.wrap (1 + Q.tdiv 2) = 1 + Q.tdiv 2 := IntWalk.i64_in _ ⟨by omega, by omega⟩
      have hw4 : IntKind.i64.wrap (P.tdiv 15) = P.tdiv 15 := IntWalk.i64_in _ ⟨by omega, by omega⟩
      have hw5 : IntKind.i64.wrap (1 + P.tdiv 15) = 1 + P.tdiv 15 := IntWalk.i64_in _ ⟨by omega, by omega⟩
      clear hQ hP HW
      refine wp_region_noPanic ?_
      refine wp_region_held_drew (S := fun w' => w'.cell? ⟨g0, j * 3 + 1, none⟩ = some (.int .i64 Q) ∧ w'.cell? ⟨g0, j * 3 + 2, none⟩ = some (.int .i64 P) ∧ DXBN3 b w3 w3.heap.size g k oc c w') (by kernel_rfl) (by exact HS9.out _ R4.out.dr) (fun hHeld => ?_)
      refine wpAnyH_take (i := 0) (oi := { dst := some 31, op := Go.Op.move (Go.Operand.tmp 11), type := 3, pos := "l12_buy.go:316", after := #[], guard := none }) (v := ?_) rfl (by kernel_rfl) (by kernel_rfl) (by kernel_rfl) (fun _ _ _ h => h) (Or.inl ⟨by rfl, ?_⟩) (by assumption) ?_
      rotate_left
      · (intro w hSw; (try dsimp only at hSw); go_simp <;> try with_reducible rfl)
      try simp only [Act.put, List.setIfInBounds_toArray, List.set_cons_zero, List.set_cons_succ]
      refine wpAnyH_take (i := 1) (oi := { dst := some 32, op := Go.Op.move (Go.Operand.tmp 6), type := 99, pos := "l12_buy.go:316", after := #[], guard := none }) (v := ?_) rfl (by kernel_rfl) (by kernel_rfl) (by kernel_rfl) (fun _ _ _ h => h) (Or.inl ⟨by rfl, ?_⟩) (by assumption) ?_
      rotate_left
      · (intro w hSw; (try dsimp only at hSw); go_simp <;> try with_reducible rfl)
      try simp only [Act.put, List.setIfInBounds_toArray, List.set_cons_zero, List.set_cons_succ]
      refine wpAnyH_take (i := 2) (oi := { dst := some 33, op := Go.Op.move (Go.Operand.tmp 7), type := 36, pos := "l12_buy.go:316", after := #[], guard := none }) (v := ?_) rfl (by kernel_rfl) (by kernel_rfl) (by kernel_rfl) (fun _ _ _ h => h) (Or.inl ⟨by rfl, ?_⟩) (by assumption) ?_
      rotate_left
      · (intro w hSw; (try dsimp only at hSw); go_simp <;> try with_reducible rfl)
      try simp only [Act.put, List.setIfInBounds_toArray, List.set_cons_zero, List.set_cons_succ]
      refine wpAnyH_take (i := 3) (oi := { dst := some 34, op := Go.Op.move (Go.Operand.tmp 11), type := 3, pos := "l12_buy.go:316", after := #[], guard := none }) (v := ?_) rfl (by kernel_rfl) (by kernel_rfl) (by kernel_rfl) (fun _ _ _ h => h) (Or.inl ⟨by rfl, ?_⟩) (by assumption) ?_
      rotate_left
      · (intro w hSw; (try dsimp only at hSw); go_simp <;> try with_reducible rfl)
      try simp only [Act.put, List.setIfInBounds_toArray, List.set_cons_zero, List.set_cons_succ]
      refine wpAnyH_take (i := 4) (oi := { dst := some 35, op := Go.Op.indexAddr 36 (Go.Operand.tmp 33) (Go.Operand.tmp 34), type := 0, pos := "l12_buy.go:316", after := #[{ on := 2, ground := Go.Ground.data }, { on := 3, ground := Go.Ground.data }], guard := none }) (v := ?_) rfl (by kernel_rfl) (by kernel_rfl) (by kernel_rfl) (fun _ _ _ h => h) (Or.inl ⟨by rfl, ?_⟩) (by assumption) ?_
      rotate_left
      · (intro w hSw; (try dsimp only at hSw); go_simp <;> try with_reducible rfl)
      try simp only [Act.put, List.setIfInBounds_toArray, List.set_cons_zero, List.set_cons_succ]
      refine wpAnyH_take (i := 5) (oi := { dst := some 36, op := Go.Op.fieldAddr 49 (Go.Operand.tmp 35) 1, type := 0, pos := "l12_buy.go:316", after := #[{ on := 4, ground := Go.Ground.data }], guard := none }) (v := ?_) rfl (by kernel_rfl) (by kernel_rfl) (by kernel_rfl) (fun _ _ _ h => h) (Or.inl ⟨by rfl, ?_⟩) (by assumption) ?_
      rotate_left
      · (intro w hSw; (try dsimp only at hSw); go_simp <;> try with_reducible rfl)
      try simp only [Act.put, List.setIfInBounds_toArray, List.set_cons_zero, List.set_cons_succ]
      refine wpAnyH_take (i := 6) (oi := { dst := some 37, op := Go.Op.load 3 (Go.Operand.tmp 36), type := 3, pos := "l12_buy.go:316", after := #[{ on := 5, ground := Go.Ground.data }], guard := none }) (v := ?_) rfl (by kernel_rfl) (by kernel_rfl) (by kernel_rfl) (fun _ _ _ h => h) (Or.inl ⟨by rfl, ?_⟩) (by assumption) ?_
      rotate_left
      · (intro w hSw; (try dsimp only at hSw); go_simp <;> try with_reducible rfl)
      try simp only [Act.put, List.setIfInBounds_toArray, List.set_cons_zero, List.set_cons_succ]
      refine wpAnyH_take (i := 7) (oi := { dst := some 38, op := Go.Op.binOp Go.BinOp.quo 3 (Go.Operand.tmp 37) (Go.Operand.const (Go.Value.int Go.IntKind.i64 2)) 3, type := 3, pos := "l12_buy.go:316", after := #[{ on := 6, ground := Go.Ground.data }], guard := none }) (v := ?_) rfl (by kernel_rfl) (by kernel_rfl) (by kernel_rfl) (fun _ _ _ h => h) (Or.inl ⟨by rfl, ?_⟩) (by assumption) ?_
      rotate_left
      · (intro w hSw; (try dsimp only at hSw); go_simp <;> try with_reducible rfl)
      try simp only [Act.put, List.setIfInBounds_toArray, List.set_cons_zero, List.set_cons_succ]
      refine wpAnyH_take (i := 8) (oi := { dst := some 39, op := Go.Op.binOp Go.BinOp.add 3 (Go.Operand.const (Go.Value.int Go.IntKind.i64 1)) (Go.Operand.tmp 38) 3, type := 3, pos := "l12_buy.go:316", after := #[{ on := 7, ground := Go.Ground.data }], guard := none }) (v := ?_) rfl (by kernel_rfl) (by kernel_rfl) (by kernel_rfl) (fun _ _ _ h => h) (Or.inl ⟨by rfl, ?_⟩) (by assumption) ?_
      rotate_left
      · (intro w hSw; (try dsimp only at hSw); go_simp <;> try with_reducible rfl)
      try simp only [Act.put, List.setIfInBounds_toArray, List.set_cons_zero, List.set_cons_succ]
      refine wpAnyH_take (i := 11) (oi := { dst := some 42, op := Go.Op.move (Go.Operand.tmp 7), type := 36, pos := "l12_buy.go:316", after := #[], guard := none }) (v := ?_) rfl (by kernel_rfl) (by kernel_rfl) (by kernel_rfl) (fun _ _ _ h => h) (Or.inl ⟨by rfl, ?_⟩) (by assumption) ?_
      rotate_left
      · (intro w hSw; (try dsimp only at hSw); go_simp <;> try with_reducible rfl)
      try simp only [Act.put, List.setIfInBounds_toArray, List.set_cons_zero, List.set_cons_succ]
      refine wpAnyH_take (i := 12) (oi := { dst := some 43, op := Go.Op.move (Go.Operand.tmp 11), type := 3, pos := "l12_buy.go:316", after := #[], guard := none }) (v := ?_) rfl (by kernel_rfl) (by kernel_rfl) (by kernel_rfl) (fun _ _ _ h => h) (Or.inl ⟨by rfl, ?_⟩) (by assumption) ?_
      rotate_left
      · (intro w hSw; (try dsimp only at hSw); go_simp <;> try with_reducible rfl)
      try simp only [Act.put, List.setIfInBounds_toArray, List.set_cons_zero, List.set_cons_succ]
      refine wpAnyH_take (i := 13) (oi := { dst := some 44, op := Go.Op.indexAddr 36 (Go.Operand.tmp 42) (Go.Operand.tmp 43), type := 0, pos := "l12_buy.go:316", after := #[{ on := 11, ground := Go.Ground.data }, { on := 12, ground := Go.Ground.data }], guard := none }) (v := ?_) rfl (by kernel_rfl) (by kernel_rfl) (by kernel_rfl) (fun _ _ _ h => h) (Or.inl ⟨by rfl, ?_⟩) (by assumption) ?_
      rotate_left
      · (intro w hSw; (try dsimp only at hSw); go_simp <;> try with_reducible rfl)
      try simp only [Act.put, List.setIfInBounds_toArray, List.set_cons_zero, List.set_cons_succ]
      refine wpAnyH_take (i := 14) (oi := { dst := some 45, op := Go.Op.fieldAddr 49 (Go.Operand.tmp 44) 2, type := 0, pos := "l12_buy.go:316", after := #[{ on := 13, ground := Go.Ground.data }], guard := none }) (v := ?_) rfl (by kernel_rfl) (by kernel_rfl) (by kernel_rfl) (fun _ _ _ h => h) (Or.inl ⟨by rfl, ?_⟩) (by assumption) ?_
      rotate_left
      · (intro w hSw; (try dsimp only at hSw); go_simp <;> try with_reducible rfl)
      try simp only [Act.put, List.setIfInBounds_toArray, List.set_cons_zero, List.set_cons_succ]
      refine wpAnyH_take (i := 15) (oi := { dst := some 46, op := Go.Op.load 3 (Go.Operand.tmp 45), type := 3, pos := "l12_buy.go:316", after := #[{ on := 14, ground := Go.Ground.data }], guard := none }) (v := ?_) rfl (by kernel_rfl) (by kernel_rfl) (by kernel_rfl) (fun _ _ _ h => h) (Or.inl ⟨by rfl, ?_⟩) (by assumption) ?_
      rotate_left
      · (intro w hSw; (try dsimp only at hSw); go_simp <;> try with_reducible rfl)
      try simp only [Act.put, List.setIfInBounds_toArray, List.set_cons_zero, List.set_cons_succ]
      refine wpAnyH_ready (rs := [9, 17]) (by kernel_rfl) (by simp) ?_
      refine AllReadyH.cons (o := { dst := some 40, op := Go.Op.call { callee := Go.Callee.value (Go.Operand.func 59), args := #[Go.Operand.tmp 32, Go.Operand.tmp 39], argTypes := #[99, 3] }, type := 3, pos := "l12_buy.go:316", after := #[{ on := 1, ground := Go.Ground.data }, { on := 8, ground := Go.Ground.data }], guard := none }) rfl (fun K hK => ?_) (AllReadyH.cons (o := { dst := some 12, op := Go.Op.alloc 122, type := 0, pos := "l12_buy.go:316", after := #[], guard := none }) rfl (fun K hK => ?_) (AllReadyH.nil))
      · go_simp
        refine (below_any b _ _ hHeld.2.2.cur).mono ?_
        rintro e w5 ⟨y, rfl, y0, y1, _, m5⟩
        (try rw [hw1, hw2] at y1)
        have y2 := y1 (by omega)
        have hw3 : IntKind.i64.wrap (1 + y) = 1 + y := IntWalk.i64_in _ ⟨by omega, by omega⟩
        have B5 := hHeld.2.2.moved m5
        clear m5 y1
        first | refine hK.out _ _ (by exact HS9.out _ B5) (fun hHeld => ?_) | (go_wp2_with fail; refine hK.out _ _ (by exact HS9.out _ B5) (fun hHeld => ?_))
        clear hK K
        try simp only [Act.put, List.setIfInBounds_toArray, List.set_cons_zero, List.set_cons_succ]
        refine wpAnyH_take (i := 10) (oi := { dst := some 41, op := Go.Op.binOp Go.BinOp.add 3 (Go.Operand.const (Go.Value.int Go.IntKind.i64 1)) (Go.Operand.tmp 40) 3, type := 3, pos := "l12_buy.go:316", after := #[{ on := 9, ground := Go.Ground.data }], guard := none }) (v := ?_) rfl (by kernel_rfl) (by kernel_rfl) (by kernel_rfl) (fun _ _ _ h => h) (Or.inl ⟨by rfl, ?_⟩) (by assumption) ?_
        rotate_left
        · (intro w hSw; (try dsimp only at hSw); go_simp <;> try with_reducible rfl)
        try simp only [Act.put, List.setIfInBounds_toArray, List.set_cons_zero, List.set_cons_succ]
        refine wpAnyH_take (i := 16) (oi := { dst := some 47, op := Go.Op.build 122 #[(0, Go.Operand.tmp 31), (1, Go.Operand.tmp 41), (2, Go.Operand.tmp 46)], type := 122, pos := "l12_buy.go:316", after := #[{ on := 0, ground := Go.Ground.data }, { on := 10, ground := Go.Ground.data }, { on := 15, ground := Go.Ground.data }], guard := none }) (v := ?_) rfl (by kernel_rfl) (by kernel_rfl) (by kernel_rfl) (fun _ _ _ h => h) (Or.inl ⟨by rfl, ?_⟩) (by assumption) ?_
        rotate_left
        · (intro w hSw; (try dsimp only at hSw); go_simp <;> try with_reducible rfl)
        try simp only [Act.put, List.setIfInBounds_toArray, List.set_cons_zero, List.set_cons_succ]
        refine wpAnyH_ready (rs := [17]) (by kernel_rfl) (by simp) ?_
        refine AllReadyH.cons (o := { dst := some 12, op := Go.Op.alloc 122, type := 0, pos := "l12_buy.go:316", after := #[], guard := none }) rfl (fun K hK => ?_) (AllReadyH.nil)
        go_simp
        first | refine hK.out _ _ (by exact HS9.out _ (hHeld.2.2.alloc _)) (fun hHeld => ?_) | (go_wp2_with fail; refine hK.out _ _ (by exact HS9.out _ (hHeld.2.2.alloc _)) (fun hHeld => ?_))
        clear hK K
        try simp only [Act.put, List.setIfInBounds_toArray, List.set_cons_zero, List.set_cons_succ]
        refine wpAnyH_ready (rs := [18]) (by kernel_rfl) (by simp) ?_
        refine AllReadyH.cons (o := { dst := none, op := Go.Op.store 122 (Go.Operand.tmp 12) (Go.Operand.tmp 47), type := 0, pos := "l12_buy.go:316", after := #[{ on := 17, ground := Go.Ground.data }, { on := 16, ground := Go.Ground.data }, { on := 9, ground := Go.Ground.chain }, { on := 0, ground := Go.Ground.phase }, { on := 1, ground := Go.Ground.phase }, { on := 2, ground := Go.Ground.phase }, { on := 3, ground := Go.Ground.phase }, { on := 4, ground := Go.Ground.phase }, { on := 5, ground := Go.Ground.phase }, { on := 6, ground := Go.Ground.phase }, { on := 7, ground := Go.Ground.phase }, { on := 8, ground := Go.Ground.phase }, { on := 9, ground := Go.Ground.phase }, { on := 10, ground := Go.Ground.phase }, { on := 11, ground := Go.Ground.phase }, { on := 12, ground := Go.Ground.phase }, { on := 13, ground := Go.Ground.phase }, { on := 14, ground := Go.Ground.phase }, { on := 15, ground := Go.Ground.phase }, { on := 16, ground := Go.Ground.phase }, { on := 17, ground := Go.Ground.phase }], guard := none }) rfl (fun K hK => ?_) (AllReadyH.nil)
        go_simp
        have L6 : Hid (DL b w3 g k oc c w5.heap.size (j : Int) (1 + y) P (w5.alloc (.cells #[.int .i64 (j : Int), .int .i64 (1 + y), .int .i64 P] 122 (0, 0)))) := hid (DL.new B5)
        first | refine hK.out _ _ (by exact HS9.out _ L6.out.dx) (fun hHeld => ?_) | (go_wp2_with fail; refine hK.out _ _ (by exact HS9.out _ L6.out.dx) (fun hHeld => ?_))
        clear hK K
        try simp only [Act.put, List.setIfInBounds_toArray, List.set_cons_zero, List.set_cons_succ]
        generalize w5.alloc (.cells #[.int .i64 (j : Int), .int .i64 (1 + y), .int .i64 P] 122 (0, 0)) = w6 at L6 ⊢
        generalize w5.heap.size = tb at L6 ⊢
        refine wpAnyH_done (by kernel_rfl) ?_ _
        refine NoPanic.normal ?_
        clear hHeld
        obtain ⟨e0, e1, e2, f0, f1, f2⟩ := L6.out.cells
        go_wp2_with (first | (go_at_call 74; refine (once_any b _ _ L6.out.dx.cur).mono ?_; rintro e w7 ⟨x, rfl, m7⟩; have L7 := hid (L6.out.moved m7); clear m7 e0 e1 e2 f0 f1 f2; obtain ⟨e0, e1, e2, f0, f1, f2⟩ := L7.out.cells; have R7 := hid L7.out.dx; cases x) | (at_builtin; go_loud (refine wpList_append_own_at _ rfl _ _ 38 rfl w3.heap.size 122 iBN3 (.agg #[.int .i64 0, .int .i64 0, .int .i64 0]) 3 24 Try.underlying38 hiBN3 hzBN30 hzBN31 hzBN32 rfl (by decide) (.slice (some ⟨g, 0, none⟩) (k) oc) (k) (rowBN3 (c) (k)) rfl (R7.out.alloc _).own ⟨w7.heap.size, 0, none⟩ 1 1 [.int .i64 (j : Int), .int .i64 (1 + y), .int .i64 (P)] rfl rfl (ocells_at rfl) (fun u hu => by simp at hu; rcases hu with rfl | rfl | rfl <;> rfl) (by unfold maxLen; omega) (by omega) (own_base (R7.out.alloc _).own rfl) ?_); intro v9 w9 hown hgrow hnil hat; obtain ⟨g9, oc9, rfl, _⟩ := ownsRow_some hown (by omega); have R9 : Hid (DXBN3 b w3 w3.heap.size g9 (k + 1) oc9 (addBN3 (c) (k) ⟨(j : Int), 1 + y, P⟩) w9) := (R7.out.alloc _).grow hgrow hown; clear hown hgrow hnil hat))
        · go_roundw
          case rel => exact ⟨_, k + 1, _, q - 1, _, rfl, by rw [show ((q - 1 : Nat) : Int) = (q : Int) - 1 by omega], by omega, R9⟩
          case measure => simp [intOf]; omega
        · refine wp_region_noPanic ?_
          refine wp_region_held_drew (S := fun w' => True) (by kernel_rfl) (by exact trivial) (fun hHeld => ?_)
          refine wpAnyH_take (i := 0) (oi := { dst := some 50, op := Go.Op.fieldAddr 122 (Go.Operand.tmp 12) 2, type := 0, pos := "l12_buy.go:318", after := #[], guard := none }) (v := ?_) rfl (by kernel_rfl) (by kernel_rfl) (by kernel_rfl) (fun _ _ _ h => h) (Or.inl ⟨by rfl, ?_⟩) (by assumption) ?_
          rotate_left
          · (intro w hSw; (try dsimp only at hSw); go_simp <;> try with_reducible rfl)
          try simp only [Act.put, List.setIfInBounds_toArray, List.set_cons_zero, List.set_cons_succ]
          refine wpAnyH_take (i := 2) (oi := { dst := some 52, op := Go.Op.move (Go.Operand.tmp 6), type := 99, pos := "l12_buy.go:318", after := #[], guard := none }) (v := ?_) rfl (by kernel_rfl) (by kernel_rfl) (by kernel_rfl) (fun _ _ _ h => h) (Or.inl ⟨by rfl, ?_⟩) (by assumption) ?_
          rotate_left
          · (intro w hSw; (try dsimp only at hSw); go_simp <;> try with_reducible rfl)
          try simp only [Act.put, List.setIfInBounds_toArray, List.set_cons_zero, List.set_cons_succ]
          refine wpAnyH_take (i := 3) (oi := { dst := some 53, op := Go.Op.fieldAddr 122 (Go.Operand.tmp 12) 2, type := 0, pos := "l12_buy.go:318", after := #[], guard := none }) (v := ?_) rfl (by kernel_rfl) (by kernel_rfl) (by kernel_rfl) (fun _ _ _ h => h) (Or.inl ⟨by rfl, ?_⟩) (by assumption) ?_
          rotate_left
          · (intro w hSw; (try dsimp only at hSw); go_simp <;> try with_reducible rfl)
          try simp only [Act.put, List.setIfInBounds_toArray, List.set_cons_zero, List.set_cons_succ]
          refine wpAnyH_ready (rs := [1, 4]) (by kernel_rfl) (by simp) ?_
          refine AllReadyH.cons (o := { dst := some 51, op := Go.Op.load 3 (Go.Operand.tmp 50), type := 3, pos := "l12_buy.go:318", after := #[{ on := 0, ground := Go.Ground.data }], guard := none }) rfl (fun K hK => ?_) (AllReadyH.cons (o := { dst := some 54, op := Go.Op.load 3 (Go.Operand.tmp 53), type := 3, pos := "l12_buy.go:318", after := #[{ on := 3, ground := Go.Ground.data }], guard := none }) rfl (fun K hK => ?_) (AllReadyH.nil))
          · go_simp
            first | refine hK.out _ _ (by exact trivial) (fun hHeld => ?_) | (go_wp2_with fail; refine hK.out _ _ (by exact trivial) (fun hHeld => ?_))
            clear hK K
            try simp only [Act.put, List.setIfInBounds_toArray, List.set_cons_zero, List.set_cons_succ]
            refine wpAnyH_ready (rs := [4]) (by kernel_rfl) (by simp) ?_
            refine AllReadyH.cons (o := { dst := some 54, op := Go.Op.load 3 (Go.Operand.tmp 53), type := 3, pos := "l12_buy.go:318", after := #[{ on := 3, ground := Go.Ground.data }], guard := none }) rfl (fun K hK => ?_) (AllReadyH.nil)
            go_simp
            first | refine hK.out _ _ (by exact trivial) (fun hHeld => ?_) | (go_wp2_with fail; refine hK.out _ _ (by exact trivial) (fun hHeld => ?_))
            clear hK K
            try simp only [Act.put, List.setIfInBounds_toArray, List.set_cons_zero, List.set_cons_succ]
            refine wpAnyH_take (i := 5) (oi := { dst := some 55, op := Go.Op.binOp Go.BinOp.quo 3 (Go.Operand.tmp 54) (Go.Operand.const (Go.Value.int Go.IntKind.i64 15)) 3, type := 3, pos := "l12_buy.go:318", after := #[{ on := 4, ground := Go.Ground.data }], guard := none }) (v := ?_) rfl (by kernel_rfl) (by kernel_rfl) (by kernel_rfl) (fun _ _ _ h => h) (Or.inl ⟨by rfl, ?_⟩) (by assumption) ?_
            rotate_left
            · (intro w hSw; (try dsimp only at hSw); go_simp <;> try with_reducible rfl)
            try simp only [Act.put, List.setIfInBounds_toArray, List.set_cons_zero, List.set_cons_succ]
            refine wpAnyH_take (i := 6) (oi := { dst := some 56, op := Go.Op.binOp Go.BinOp.add 3 (Go.Operand.const (Go.Value.int Go.IntKind.i64 1)) (Go.Operand.tmp 55) 3, type := 3, pos := "l12_buy.go:318", after := #[{ on := 5, ground := Go.Ground.data }], guard := none }) (v := ?_) rfl (by kernel_rfl) (by kernel_rfl) (by kernel_rfl) (fun _ _ _ h => h) (Or.inl ⟨by rfl, ?_⟩) (by assumption) ?_
            rotate_left
            · (intro w hSw; (try dsimp only at hSw); go_simp <;> try with_reducible rfl)
            try simp only [Act.put, List.setIfInBounds_toArray, List.set_cons_zero, List.set_cons_succ]
            refine wpAnyH_ready (rs := [7]) (by kernel_rfl) (by simp) ?_
            refine AllReadyH.cons (o := { dst := some 57, op := Go.Op.call { callee := Go.Callee.value (Go.Operand.func 59), args := #[Go.Operand.tmp 52, Go.Operand.tmp 56], argTypes := #[99, 3] }, type := 3, pos := "l12_buy.go:318", after := #[{ on := 2, ground := Go.Ground.data }, { on := 6, ground := Go.Ground.data }], guard := none }) rfl (fun K hK => ?_) (AllReadyH.nil)
            go_simp
            refine (below_any b _ _ L7.out.drew.dx.cur).mono ?_
            rintro e w8 ⟨z, rfl, z0, z1, _, m8⟩
            (try rw [hw4, hw5] at z1)
            have z2 := z1 (by omega)
            have hw6 : IntKind.i64.wrap (P + z) = P + z := IntWalk.i64_in _ ⟨by omega, by omega⟩
            have L8 := hid (L7.out.drew.moved m8)
            obtain ⟨d0, d1, d2, h0, h1, h2⟩ := L8.out.cells
            clear m8 z1
            first | refine hK.out _ _ (by exact trivial) (fun hHeld => ?_) | (go_wp2_with fail; refine hK.out _ _ (by exact trivial) (fun hHeld => ?_))
            clear hK K
            try simp only [Act.put, List.setIfInBounds_toArray, List.set_cons_zero, List.set_cons_succ]
            refine wpAnyH_take (i := 8) (oi := { dst := some 58, op := Go.Op.binOp Go.BinOp.add 3 (Go.Operand.tmp 51) (Go.Operand.tmp 57) 3, type := 3, pos := "l12_buy.go:318", after := #[{ on := 1, ground := Go.Ground.data }, { on := 7, ground := Go.Ground.data }], guard := none }) (v := ?_) rfl (by kernel_rfl) (by kernel_rfl) (by kernel_rfl) (fun _ _ _ h => h) (Or.inl ⟨by rfl, ?_⟩) (by assumption) ?_
            rotate_left
            · (intro w hSw; (try dsimp only at hSw); go_simp <;> try with_reducible rfl)
            try simp only [Act.put, List.setIfInBounds_toArray, List.set_cons_zero, List.set_cons_succ]
            refine wpAnyH_take (i := 9) (oi := { dst := some 59, op := Go.Op.fieldAddr 122 (Go.Operand.tmp 12) 2, type := 0, pos := "l12_buy.go:318", after := #[{ on := 0, ground := Go.Ground.phase }, { on := 1, ground := Go.Ground.phase }, { on := 2, ground := Go.Ground.phase }, { on := 3, ground := Go.Ground.phase }, { on := 4, ground := Go.Ground.phase }, { on := 5, ground := Go.Ground.phase }, { on := 6, ground := Go.Ground.phase }, { on := 7, ground := Go.Ground.phase }, { on := 8, ground := Go.Ground.phase }], guard := none }) (v := ?_) rfl (by kernel_rfl) (by kernel_rfl) (by kernel_rfl) (fun _ _ _ h => h) (Or.inl ⟨by rfl, ?_⟩) (by assumption) ?_
            rotate_left
            · (intro w hSw; (try dsimp only at hSw); go_simp <;> try with_reducible rfl)
            try simp only [Act.put, List.setIfInBounds_toArray, List.set_cons_zero, List.set_cons_succ]
            refine wpAnyH_ready (rs := [10]) (by kernel_rfl) (by simp) ?_
            refine AllReadyH.cons (o := { dst := none, op := Go.Op.store 3 (Go.Operand.tmp 59) (Go.Operand.tmp 58), type := 0, pos := "l12_buy.go:318", after := #[{ on := 9, ground := Go.Ground.data }, { on := 8, ground := Go.Ground.data }, { on := 7, ground := Go.Ground.chain }, { on := 0, ground := Go.Ground.phase }, { on := 1, ground := Go.Ground.phase }, { on := 2, ground := Go.Ground.phase }, { on := 3, ground := Go.Ground.phase }, { on := 4, ground := Go.Ground.phase }, { on := 5, ground := Go.Ground.phase }, { on := 6, ground := Go.Ground.phase }, { on := 7, ground := Go.Ground.phase }, { on := 8, ground := Go.Ground.phase }], guard := none }) rfl (fun K hK => ?_) (AllReadyH.nil)
            go_simp
            first | refine hK.out _ _ (by exact trivial) (fun hHeld => ?_) | (go_wp2_with fail; refine hK.out _ _ (by exact trivial) (fun hHeld => ?_))
            clear hK K
            try simp only [Act.put, List.setIfInBounds_toArray, List.set_cons_zero, List.set_cons_succ]
            refine wpAnyH_done (by kernel_rfl) ?_ _
            refine NoPanic.normal ?_
            clear hHeld
            have L9 := hid (L8.out.put2 (P + z))
            clear d0 d1 d2 h0 h1 h2 e0 e1 e2 f0 f1 f2
            generalize w8.setCell ⟨tb, 2, none⟩ (.int .i64 (P + z)) = w10 at L9 ⊢
            have R10 := hid L9.out.dx
            obtain ⟨e0, e1, e2, f0, f1, f2⟩ := L9.out.cells
            go_wp2_with (at_builtin; go_loud (refine wpList_append_own_at _ rfl _ _ 38 rfl w3.heap.size 122 iBN3 (.agg #[.int .i64 0, .int .i64 0, .int .i64 0]) 3 24 Try.underlying38 hiBN3 hzBN30 hzBN31 hzBN32 rfl (by decide) (.slice (some ⟨g, 0, none⟩) (k) oc) (k) (rowBN3 (c) (k)) rfl (R10.out.alloc _).own ⟨w10.heap.size, 0, none⟩ 1 1 [.int .i64 (j : Int), .int .i64 (1 + y), .int .i64 (P + z)] rfl rfl (ocells_at rfl) (fun u hu => by simp at hu; rcases hu with rfl | rfl | rfl <;> rfl) (by unfold maxLen; omega) (by omega) (own_base (R10.out.alloc _).own rfl) ?_); intro v9 w9 hown hgrow hnil hat; obtain ⟨g9, oc9, rfl, _⟩ := ownsRow_some hown (by omega); have R9 : Hid (DXBN3 b w3 w3.heap.size g9 (k + 1) oc9 (addBN3 (c) (k) ⟨(j : Int), 1 + y, P + z⟩) w9) := (R10.out.alloc _).grow hgrow hown; clear hown hgrow hnil hat)
            go_roundw
            case rel => exact ⟨_, k + 1, _, q - 1, _, rfl, by rw [show ((q - 1 : Nat) : Int) = (q : Int) - 1 by omega], by omega, R9⟩
            case measure => simp [intOf]; omega
          · go_simp
            first | refine hK.out _ _ (by exact trivial) (fun hHeld => ?_) | (go_wp2_with fail; refine hK.out _ _ (by exact trivial) (fun hHeld => ?_))
            clear hK K
            try simp only [Act.put, List.setIfInBounds_toArray, List.set_cons_zero, List.set_cons_succ]
            refine wpAnyH_take (i := 5) (oi := { dst := some 55, op := Go.Op.binOp Go.BinOp.quo 3 (Go.Operand.tmp 54) (Go.Operand.const (Go.Value.int Go.IntKind.i64 15)) 3, type := 3, pos := "l12_buy.go:318", after := #[{ on := 4, ground := Go.Ground.data }], guard := none }) (v := ?_) rfl (by kernel_rfl) (by kernel_rfl) (by kernel_rfl) (fun _ _ _ h => h) (Or.inl ⟨by rfl, ?_⟩) (by assumption) ?_
            rotate_left
            · (intro w hSw; (try dsimp only at hSw); go_simp <;> try with_reducible rfl)
            try simp only [Act.put, List.setIfInBounds_toArray, List.set_cons_zero, List.set_cons_succ]
            refine wpAnyH_take (i := 6) (oi := { dst := some 56, op := Go.Op.binOp Go.BinOp.add 3 (Go.Operand.const (Go.Value.int Go.IntKind.i64 1)) (Go.Operand.tmp 55) 3, type := 3, pos := "l12_buy.go:318", after := #[{ on := 5, ground := Go.Ground.data }], guard := none }) (v := ?_) rfl (by kernel_rfl) (by kernel_rfl) (by kernel_rfl) (fun _ _ _ h => h) (Or.inl ⟨by rfl, ?_⟩) (by assumption) ?_
            rotate_left
            · (intro w hSw; (try dsimp only at hSw); go_simp <;> try with_reducible rfl)
            try simp only [Act.put, List.setIfInBounds_toArray, List.set_cons_zero, List.set_cons_succ]
            refine wpAnyH_ready (rs := [1, 7]) (by kernel_rfl) (by simp) ?_
            refine AllReadyH.cons (o := { dst := some 51, op := Go.Op.load 3 (Go.Operand.tmp 50), type := 3, pos := "l12_buy.go:318", after := #[{ on := 0, ground := Go.Ground.data }], guard := none }) rfl (fun K hK => ?_) (AllReadyH.cons (o := { dst := some 57, op := Go.Op.call { callee := Go.Callee.value (Go.Operand.func 59), args := #[Go.Operand.tmp 52, Go.Operand.tmp 56], argTypes := #[99, 3] }, type := 3, pos := "l12_buy.go:318", after := #[{ on := 2, ground := Go.Ground.data }, { on := 6, ground := Go.Ground.data }], guard := none }) rfl (fun K hK => ?_) (AllReadyH.nil))
            · go_simp
              first | refine hK.out _ _ (by exact trivial) (fun hHeld => ?_) | (go_wp2_with fail; refine hK.out _ _ (by exact trivial) (fun hHeld => ?_))
              clear hK K
              try simp only [Act.put, List.setIfInBounds_toArray, List.set_cons_zero, List.set_cons_succ]
              refine wpAnyH_ready (rs := [7]) (by kernel_rfl) (by simp) ?_
              refine AllReadyH.cons (o := { dst := some 57, op := Go.Op.call { callee := Go.Callee.value (Go.Operand.func 59), args := #[Go.Operand.tmp 52, Go.Operand.tmp 56], argTypes := #[99, 3] }, type := 3, pos := "l12_buy.go:318", after := #[{ on := 2, ground := Go.Ground.data }, { on := 6, ground := Go.Ground.data }], guard := none }) rfl (fun K hK => ?_) (AllReadyH.nil)
              go_simp
              refine (below_any b _ _ L7.out.drew.dx.cur).mono ?_
              rintro e w8 ⟨z, rfl, z0, z1, _, m8⟩
              (try rw [hw4, hw5] at z1)
              have z2 := z1 (by omega)
              have hw6 : IntKind.i64.wrap (P + z) = P + z := IntWalk.i64_in _ ⟨by omega, by omega⟩
              have L8 := hid (L7.out.drew.moved m8)
              obtain ⟨d0, d1, d2, h0, h1, h2⟩ := L8.out.cells
              clear m8 z1
              first | refine hK.out _ _ (by exact trivial) (fun hHeld => ?_) | (go_wp2_with fail; refine hK.out _ _ (by exact trivial) (fun hHeld => ?_))
              clear hK K
              try simp only [Act.put, List.setIfInBounds_toArray, List.set_cons_zero, List.set_cons_succ]
              refine wpAnyH_take (i := 8) (oi := { dst := some 58, op := Go.Op.binOp Go.BinOp.add 3 (Go.Operand.tmp 51) (Go.Operand.tmp 57) 3, type := 3, pos := "l12_buy.go:318", after := #[{ on := 1, ground := Go.Ground.data }, { on := 7, ground := Go.Ground.data }], guard := none }) (v := ?_) rfl (by kernel_rfl) (by kernel_rfl) (by kernel_rfl) (fun _ _ _ h => h) (Or.inl ⟨by rfl, ?_⟩) (by assumption) ?_
              rotate_left
              · (intro w hSw; (try dsimp only at hSw); go_simp <;> try with_reducible rfl)
              try simp only [Act.put, List.setIfInBounds_toArray, List.set_cons_zero, List.set_cons_succ]
              refine wpAnyH_take (i := 9) (oi := { dst := some 59, op := Go.Op.fieldAddr 122 (Go.Operand.tmp 12) 2, type := 0, pos := "l12_buy.go:318", after := #[{ on := 0, ground := Go.Ground.phase }, { on := 1, ground := Go.Ground.phase }, { on := 2, ground := Go.Ground.phase }, { on := 3, ground := Go.Ground.phase }, { on := 4, ground := Go.Ground.phase }, { on := 5, ground := Go.Ground.phase }, { on := 6, ground := Go.Ground.phase }, { on := 7, ground := Go.Ground.phase }, { on := 8, ground := Go.Ground.phase }], guard := none }) (v := ?_) rfl (by kernel_rfl) (by kernel_rfl) (by kernel_rfl) (fun _ _ _ h => h) (Or.inl ⟨by rfl, ?_⟩) (by assumption) ?_
              rotate_left
              · (intro w hSw; (try dsimp only at hSw); go_simp <;> try with_reducible rfl)
              try simp only [Act.put, List.setIfInBounds_toArray, List.set_cons_zero, List.set_cons_succ]
              refine wpAnyH_ready (rs := [10]) (by kernel_rfl) (by simp) ?_
              refine AllReadyH.cons (o := { dst := none, op := Go.Op.store 3 (Go.Operand.tmp 59) (Go.Operand.tmp 58), type := 0, pos := "l12_buy.go:318", after := #[{ on := 9, ground := Go.Ground.data }, { on := 8, ground := Go.Ground.data }, { on := 7, ground := Go.Ground.chain }, { on := 0, ground := Go.Ground.phase }, { on := 1, ground := Go.Ground.phase }, { on := 2, ground := Go.Ground.phase }, { on := 3, ground := Go.Ground.phase }, { on := 4, ground := Go.Ground.phase }, { on := 5, ground := Go.Ground.phase }, { on := 6, ground := Go.Ground.phase }, { on := 7, ground := Go.Ground.phase }, { on := 8, ground := Go.Ground.phase }], guard := none }) rfl (fun K hK => ?_) (AllReadyH.nil)
              go_simp
              first | refine hK.out _ _ (by exact trivial) (fun hHeld => ?_) | (go_wp2_with fail; refine hK.out _ _ (by exact trivial) (fun hHeld => ?_))
              clear hK K
              try simp only [Act.put, List.setIfInBounds_toArray, List.set_cons_zero, List.set_cons_succ]
              refine wpAnyH_done (by kernel_rfl) ?_ _
              refine NoPanic.normal ?_
              clear hHeld
              have L9 := hid (L8.out.put2 (P + z))
              clear d0 d1 d2 h0 h1 h2 e0 e1 e2 f0 f1 f2
              generalize w8.setCell ⟨tb, 2, none⟩ (.int .i64 (P + z)) = w10 at L9 ⊢
              have R10 := hid L9.out.dx
              obtain ⟨e0, e1, e2, f0, f1, f2⟩ := L9.out.cells
              go_wp2_with (at_builtin; go_loud (refine wpList_append_own_at _ rfl _ _ 38 rfl w3.heap.size 122 iBN3 (.agg #[.int .i64 0, .int .i64 0, .int .i64 0]) 3 24 Try.underlying38 hiBN3 hzBN30 hzBN31 hzBN32 rfl (by decide) (.slice (some ⟨g, 0, none⟩) (k) oc) (k) (rowBN3 (c) (k)) rfl (R10.out.alloc _).own ⟨w10.heap.size, 0, none⟩ 1 1 [.int .i64 (j : Int), .int .i64 (1 + y), .int .i64 (P + z)] rfl rfl (ocells_at rfl) (fun u hu => by simp at hu; rcases hu with rfl | rfl | rfl <;> rfl) (by unfold maxLen; omega) (by omega) (own_base (R10.out.alloc _).own rfl) ?_); intro v9 w9 hown hgrow hnil hat; obtain ⟨g9, oc9, rfl, _⟩ := ownsRow_some hown (by omega); have R9 : Hid (DXBN3 b w3 w3.heap.size g9 (k + 1) oc9 (addBN3 (c) (k) ⟨(j : Int), 1 + y, P + z⟩) w9) := (R10.out.alloc _).grow hgrow hown; clear hown hgrow hnil hat)
              go_roundw
              case rel => exact ⟨_, k + 1, _, q - 1, _, rfl, by rw [show ((q - 1 : Nat) : Int) = (q : Int) - 1 by omega], by omega, R9⟩
              case measure => simp [intOf]; omega
            · go_simp
              refine (below_any b _ _ L7.out.drew.dx.cur).mono ?_
              rintro e w8 ⟨z, rfl, z0, z1, _, m8⟩
              (try rw [hw4, hw5] at z1)
              have z2 := z1 (by omega)
              have hw6 : IntKind.i64.wrap (P + z) = P + z := IntWalk.i64_in _ ⟨by omega, by omega⟩
              have L8 := hid (L7.out.drew.moved m8)
              obtain ⟨d0, d1, d2, h0, h1, h2⟩ := L8.out.cells
              clear m8 z1
              first | refine hK.out _ _ (by exact trivial) (fun hHeld => ?_) | (go_wp2_with fail; refine hK.out _ _ (by exact trivial) (fun hHeld => ?_))
              clear hK K
              try simp only [Act.put, List.setIfInBounds_toArray, List.set_cons_zero, List.set_cons_succ]
              refine wpAnyH_ready (rs := [1]) (by kernel_rfl) (by simp) ?_
              refine AllReadyH.cons (o := { dst := some 51, op := Go.Op.load 3 (Go.Operand.tmp 50), type := 3, pos := "l12_buy.go:318", after := #[{ on := 0, ground := Go.Ground.data }], guard := none }) rfl (fun K hK => ?_) (AllReadyH.nil)
              go_simp
              first | refine hK.out _ _ (by exact trivial) (fun hHeld => ?_) | (go_wp2_with fail; refine hK.out _ _ (by exact trivial) (fun hHeld => ?_))
              clear hK K
              try simp only [Act.put, List.setIfInBounds_toArray, List.set_cons_zero, List.set_cons_succ]
              refine wpAnyH_take (i := 8) (oi := { dst := some 58, op := Go.Op.binOp Go.BinOp.add 3 (Go.Operand.tmp 51) (Go.Operand.tmp 57) 3, type := 3, pos := "l12_buy.go:318", after := #[{ on := 1, ground := Go.Ground.data }, { on := 7, ground := Go.Ground.data }], guard := none }) (v := ?_) rfl (by kernel_rfl) (by kernel_rfl) (by kernel_rfl) (fun _ _ _ h => h) (Or.inl ⟨by rfl, ?_⟩) (by assumption) ?_
              rotate_left
              · (intro w hSw; (try dsimp only at hSw); go_simp <;> try with_reducible rfl)
              try simp only [Act.put, List.setIfInBounds_toArray, List.set_cons_zero, List.set_cons_succ]
              refine wpAnyH_take (i := 9) (oi := { dst := some 59, op := Go.Op.fieldAddr 122 (Go.Operand.tmp 12) 2, type := 0, pos := "l12_buy.go:318", after := #[{ on := 0, ground := Go.Ground.phase }, { on := 1, ground := Go.Ground.phase }, { on := 2, ground := Go.Ground.phase }, { on := 3, ground := Go.Ground.phase }, { on := 4, ground := Go.Ground.phase }, { on := 5, ground := Go.Ground.phase }, { on := 6, ground := Go.Ground.phase }, { on := 7, ground := Go.Ground.phase }, { on := 8, ground := Go.Ground.phase }], guard := none }) (v := ?_) rfl (by kernel_rfl) (by kernel_rfl) (by kernel_rfl) (fun _ _ _ h => h) (Or.inl ⟨by rfl, ?_⟩) (by assumption) ?_
              rotate_left
              · (intro w hSw; (try dsimp only at hSw); go_simp <;> try with_reducible rfl)
              try simp only [Act.put, List.setIfInBounds_toArray, List.set_cons_zero, List.set_cons_succ]
              refine wpAnyH_ready (rs := [10]) (by kernel_rfl) (by simp) ?_
              refine AllReadyH.cons (o := { dst := none, op := Go.Op.store 3 (Go.Operand.tmp 59) (Go.Operand.tmp 58), type := 0, pos := "l12_buy.go:318", after := #[{ on := 9, ground := Go.Ground.data }, { on := 8, ground := Go.Ground.data }, { on := 7, ground := Go.Ground.chain }, { on := 0, ground := Go.Ground.phase }, { on := 1, ground := Go.Ground.phase }, { on := 2, ground := Go.Ground.phase }, { on := 3, ground := Go.Ground.phase }, { on := 4, ground := Go.Ground.phase }, { on := 5, ground := Go.Ground.phase }, { on := 6, ground := Go.Ground.phase }, { on := 7, ground := Go.Ground.phase }, { on := 8, ground := Go.Ground.phase }], guard := none }) rfl (fun K hK => ?_) (AllReadyH.nil)
              go_simp
              first | refine hK.out _ _ (by exact trivial) (fun hHeld => ?_) | (go_wp2_with fail; refine hK.out _ _ (by exact trivial) (fun hHeld => ?_))
              clear hK K
              try simp only [Act.put, List.setIfInBounds_toArray, List.set_cons_zero, List.set_cons_succ]
              refine wpAnyH_done (by kernel_rfl) ?_ _
              refine NoPanic.normal ?_
              clear hHeld
              have L9 := hid (L8.out.put2 (P + z))
              clear d0 d1 d2 h0 h1 h2 e0 e1 e2 f0 f1 f2
              generalize w8.setCell ⟨tb, 2, none⟩ (.int .i64 (P + z)) = w10 at L9 ⊢
              have R10 := hid L9.out.dx
              obtain ⟨e0, e1, e2, f0, f1, f2⟩ := L9.out.cells
              go_wp2_with (at_builtin; go_loud (refine wpList_append_own_at _ rfl _ _ 38 rfl w3.heap.size 122 iBN3 (.agg #[.int .i64 0, .int .i64 0, .int .i64 0]) 3 24 Try.underlying38 hiBN3 hzBN30 hzBN31 hzBN32 rfl (by decide) (.slice (some ⟨g, 0, none⟩) (k) oc) (k) (rowBN3 (c) (k)) rfl (R10.out.alloc _).own ⟨w10.heap.size, 0, none⟩ 1 1 [.int .i64 (j : Int), .int .i64 (1 + y), .int .i64 (P + z)] rfl rfl (ocells_at rfl) (fun u hu => by simp at hu; rcases hu with rfl | rfl | rfl <;> rfl) (by unfold maxLen; omega) (by omega) (own_base (R10.out.alloc _).own rfl) ?_); intro v9 w9 hown hgrow hnil hat; obtain ⟨g9, oc9, rfl, _⟩ := ownsRow_some hown (by omega); have R9 : Hid (DXBN3 b w3 w3.heap.size g9 (k + 1) oc9 (addBN3 (c) (k) ⟨(j : Int), 1 + y, P + z⟩) w9) := (R10.out.alloc _).grow hgrow hown; clear hown hgrow hnil hat)
              go_roundw
              case rel => exact ⟨_, k + 1, _, q - 1, _, rfl, by rw [show ((q - 1 : Nat) : Int) = (q : Int) - 1 by omega], by omega, R9⟩
              case measure => simp [intOf]; omega
      · go_simp
        have N5 : DL b w3 g k oc c w4.heap.size 0 0 0 (w4.alloc (.cells #[.int .i64 0, .int .i64 0, .int .i64 0] 122 (0, 0))).drew := (DL.new R4.out).drew
        first | refine hK.out _ _ (by exact HS9.out _ N5.dx) (fun hHeld => ?_) | (go_wp2_with fail; refine hK.out _ _ (by exact HS9.out _ N5.dx) (fun hHeld => ?_))
        clear hK K
        try simp only [Act.put, List.setIfInBounds_toArray, List.set_cons_zero, List.set_cons_succ]
        refine wpAnyH_ready (rs := [9]) (by kernel_rfl) (by simp) ?_
        refine AllReadyH.cons (o := { dst := some 40, op := Go.Op.call { callee := Go.Callee.value (Go.Operand.func 59), args := #[Go.Operand.tmp 32, Go.Operand.tmp 39], argTypes := #[99, 3] }, type := 3, pos := "l12_buy.go:316", after := #[{ on := 1, ground := Go.Ground.data }, { on := 8, ground := Go.Ground.data }], guard := none }) rfl (fun K hK => ?_) (AllReadyH.nil)
        go_simp
        refine (below_any b _ _ hHeld.2.2.cur).mono ?_
        rintro e w5 ⟨y, rfl, y0, y1, _, m5⟩
        (try rw [hw1, hw2] at y1)
        have y2 := y1 (by omega)
        have hw3 : IntKind.i64.wrap (1 + y) = 1 + y := IntWalk.i64_in _ ⟨by omega, by omega⟩
        have B5 := N5.moved m5
        clear m5 y1
        first | refine hK.out _ _ (by exact HS9.out _ B5.dx) (fun hHeld => ?_) | (go_wp2_with fail; refine hK.out _ _ (by exact HS9.out _ B5.dx) (fun hHeld => ?_))
        clear hK K
        try simp only [Act.put, List.setIfInBounds_toArray, List.set_cons_zero, List.set_cons_succ]
        refine wpAnyH_take (i := 10) (oi := { dst := some 41, op := Go.Op.binOp Go.BinOp.add 3 (Go.Operand.const (Go.Value.int Go.IntKind.i64 1)) (Go.Operand.tmp 40) 3, type := 3, pos := "l12_buy.go:316", after := #[{ on := 9, ground := Go.Ground.data }], guard := none }) (v := ?_) rfl (by kernel_rfl) (by kernel_rfl) (by kernel_rfl) (fun _ _ _ h => h) (Or.inl ⟨by rfl, ?_⟩) (by assumption) ?_
        rotate_left
        · (intro w hSw; (try dsimp only at hSw); go_simp <;> try with_reducible rfl)
        try simp only [Act.put, List.setIfInBounds_toArray, List.set_cons_zero, List.set_cons_succ]
        refine wpAnyH_take (i := 16) (oi := { dst := some 47, op := Go.Op.build 122 #[(0, Go.Operand.tmp 31), (1, Go.Operand.tmp 41), (2, Go.Operand.tmp 46)], type := 122, pos := "l12_buy.go:316", after := #[{ on := 0, ground := Go.Ground.data }, { on := 10, ground := Go.Ground.data }, { on := 15, ground := Go.Ground.data }], guard := none }) (v := ?_) rfl (by kernel_rfl) (by kernel_rfl) (by kernel_rfl) (fun _ _ _ h => h) (Or.inl ⟨by rfl, ?_⟩) (by assumption) ?_
        rotate_left
        · (intro w hSw; (try dsimp only at hSw); go_simp <;> try with_reducible rfl)
        try simp only [Act.put, List.setIfInBounds_toArray, List.set_cons_zero, List.set_cons_succ]
        obtain ⟨e0, e1, e2, f0, f1, f2⟩ := B5.cells
        refine wpAnyH_ready (rs := [18]) (by kernel_rfl) (by simp) ?_
        refine AllReadyH.cons (o := { dst := none, op := Go.Op.store 122 (Go.Operand.tmp 12) (Go.Operand.tmp 47), type := 0, pos := "l12_buy.go:316", after := #[{ on := 17, ground := Go.Ground.data }, { on := 16, ground := Go.Ground.data }, { on := 9, ground := Go.Ground.chain }, { on := 0, ground := Go.Ground.phase }, { on := 1, ground := Go.Ground.phase }, { on := 2, ground := Go.Ground.phase }, { on := 3, ground := Go.Ground.phase }, { on := 4, ground := Go.Ground.phase }, { on := 5, ground := Go.Ground.phase }, { on := 6, ground := Go.Ground.phase }, { on := 7, ground := Go.Ground.phase }, { on := 8, ground := Go.Ground.phase }, { on := 9, ground := Go.Ground.phase }, { on := 10, ground := Go.Ground.phase }, { on := 11, ground := Go.Ground.phase }, { on := 12, ground := Go.Ground.phase }, { on := 13, ground := Go.Ground.phase }, { on := 14, ground := Go.Ground.phase }, { on := 15, ground := Go.Ground.phase }, { on := 16, ground := Go.Ground.phase }, { on := 17, ground := Go.Ground.phase }], guard := none }) rfl (fun K hK => ?_) (AllReadyH.nil)
        go_simp
        have L6 := hid (B5.all (j : Int) (1 + y) P)
        clear e0 e1 e2 f0 f1 f2
        first | refine hK.out _ _ (by exact HS9.out _ L6.out.dx) (fun hHeld => ?_) | (go_wp2_with fail; refine hK.out _ _ (by exact HS9.out _ L6.out.dx) (fun hHeld => ?_))
        clear hK K
        try simp only [Act.put, List.setIfInBounds_toArray, List.set_cons_zero, List.set_cons_succ]
        generalize (((w5.setCell ⟨w4.heap.size, 0, none⟩ (.int .i64 (j : Int))).setCell ⟨w4.heap.size, 1, none⟩ (.int .i64 (1 + y))).setCell ⟨w4.heap.size, 2, none⟩ (.int .i64 P)) = w6 at L6 ⊢
        generalize w4.heap.size = tb at L6 ⊢
        refine wpAnyH_done (by kernel_rfl) ?_ _
        refine NoPanic.normal ?_
        clear hHeld
        obtain ⟨e0, e1, e2, f0, f1, f2⟩ := L6.out.cells
        go_wp2_with (first | (go_at_call 74; refine (once_any b _ _ L6.out.dx.cur).mono ?_; rintro e w7 ⟨x, rfl, m7⟩; have L7 := hid (L6.out.moved m7); clear m7 e0 e1 e2 f0 f1 f2; obtain ⟨e0, e1, e2, f0, f1, f2⟩ := L7.out.cells; have R7 := hid L7.out.dx; cases x) | (at_builtin; go_loud (refine wpList_append_own_at _ rfl _ _ 38 rfl w3.heap.size 122 iBN3 (.agg #[.int .i64 0, .int .i64 0, .int .i64 0]) 3 24 Try.underlying38 hiBN3 hzBN30 hzBN31 hzBN32 rfl (by decide) (.slice (some ⟨g, 0, none⟩) (k) oc) (k) (rowBN3 (c) (k)) rfl (R7.out.alloc _).own ⟨w7.heap.size, 0, none⟩ 1 1 [.int .i64 (j : Int), .int .i64 (1 + y), .int .i64 (P)] rfl rfl (ocells_at rfl) (fun u hu => by simp at hu; rcases hu with rfl | rfl | rfl <;> rfl) (by unfold maxLen; omega) (by omega) (own_base (R7.out.alloc _).own rfl) ?_); intro v9 w9 hown hgrow hnil hat; obtain ⟨g9, oc9, rfl, _⟩ := ownsRow_some hown (by omega); have R9 : Hid (DXBN3 b w3 w3.heap.size g9 (k + 1) oc9 (addBN3 (c) (k) ⟨(j : Int), 1 + y, P⟩) w9) := (R7.out.alloc _).grow hgrow hown; clear hown hgrow hnil hat))
        · go_roundw
          case rel => exact ⟨_, k + 1, _, q - 1, _, rfl, by rw [show ((q - 1 : Nat) : Int) = (q : Int) - 1 by omega], by omega, R9⟩
          case measure => simp [intOf]; omega
        · refine wp_region_noPanic ?_
          refine wp_region_held_drew (S := fun w' => True) (by kernel_rfl) (by exact trivial) (fun hHeld => ?_)
          refine wpAnyH_take (i := 0) (oi := { dst := some 50, op := Go.Op.fieldAddr 122 (Go.Operand.tmp 12) 2, type := 0, pos := "l12_buy.go:318", after := #[], guard := none }) (v := ?_) rfl (by kernel_rfl) (by kernel_rfl) (by kernel_rfl) (fun _ _ _ h => h) (Or.inl ⟨by rfl, ?_⟩) (by assumption) ?_
          rotate_left
          · (intro w hSw; (try dsimp only at hSw); go_simp <;> try with_reducible rfl)
          try simp only [Act.put, List.setIfInBounds_toArray, List.set_cons_zero, List.set_cons_succ]
          refine wpAnyH_take (i := 2) (oi := { dst := some 52, op := Go.Op.move (Go.Operand.tmp 6), type := 99, pos := "l12_buy.go:318", after := #[], guard := none }) (v := ?_) rfl (by kernel_rfl) (by kernel_rfl) (by kernel_rfl) (fun _ _ _ h => h) (Or.inl ⟨by rfl, ?_⟩) (by assumption) ?_
          rotate_left
          · (intro w hSw; (try dsimp only at hSw); go_simp <;> try with_reducible rfl)
          try simp only [Act.put, List.setIfInBounds_toArray, List.set_cons_zero, List.set_cons_succ]
          refine wpAnyH_take (i := 3) (oi := { dst := some 53, op := Go.Op.fieldAddr 122 (Go.Operand.tmp 12) 2, type := 0, pos := "l12_buy.go:318", after := #[], guard := none }) (v := ?_) rfl (by kernel_rfl) (by kernel_rfl) (by kernel_rfl) (fun _ _ _ h => h) (Or.inl ⟨by rfl, ?_⟩) (by assumption) ?_
          rotate_left
          · (intro w hSw; (try dsimp only at hSw); go_simp <;> try with_reducible rfl)
          try simp only [Act.put, List.setIfInBounds_toArray, List.set_cons_zero, List.set_cons_succ]
          refine wpAnyH_ready (rs := [1, 4]) (by kernel_rfl) (by simp) ?_
          refine AllReadyH.cons (o := { dst := some 51, op := Go.Op.load 3 (Go.Operand.tmp 50), type := 3, pos := "l12_buy.go:318", after := #[{ on := 0, ground := Go.Ground.data }], guard := none }) rfl (fun K hK => ?_) (AllReadyH.cons (o := { dst := some 54, op := Go.Op.load 3 (Go.Operand.tmp 53), type := 3, pos := "l12_buy.go:318", after := #[{ on := 3, ground := Go.Ground.data }], guard := none }) rfl (fun K hK => ?_) (AllReadyH.nil))
          · go_simp
            first | refine hK.out _ _ (by exact trivial) (fun hHeld => ?_) | (go_wp2_with fail; refine hK.out _ _ (by exact trivial) (fun hHeld => ?_))
            clear hK K
            try simp only [Act.put, List.setIfInBounds_toArray, List.set_cons_zero, List.set_cons_succ]
            refine wpAnyH_ready (rs := [4]) (by kernel_rfl) (by simp) ?_
            refine AllReadyH.cons (o := { dst := some 54, op := Go.Op.load 3 (Go.Operand.tmp 53), type := 3, pos := "l12_buy.go:318", after := #[{ on := 3, ground := Go.Ground.data }], guard := none }) rfl (fun K hK => ?_) (AllReadyH.nil)
            go_simp
            first | refine hK.out _ _ (by exact trivial) (fun hHeld => ?_) | (go_wp2_with fail; refine hK.out _ _ (by exact trivial) (fun hHeld => ?_))
            clear hK K
            try simp only [Act.put, List.setIfInBounds_toArray, List.set_cons_zero, List.set_cons_succ]
            refine wpAnyH_take (i := 5) (oi := { dst := some 55, op := Go.Op.binOp Go.BinOp.quo 3 (Go.Operand.tmp 54) (Go.Operand.const (Go.Value.int Go.IntKind.i64 15)) 3, type := 3, pos := "l12_buy.go:318", after := #[{ on := 4, ground := Go.Ground.data }], guard := none }) (v := ?_) rfl (by kernel_rfl) (by kernel_rfl) (by kernel_rfl) (fun _ _ _ h => h) (Or.inl ⟨by rfl, ?_⟩) (by assumption) ?_
            rotate_left
            · (intro w hSw; (try dsimp only at hSw); go_simp <;> try with_reducible rfl)
            try simp only [Act.put, List.setIfInBounds_toArray, List.set_cons_zero, List.set_cons_succ]
            refine wpAnyH_take (i := 6) (oi := { dst := some 56, op := Go.Op.binOp Go.BinOp.add 3 (Go.Operand.const (Go.Value.int Go.IntKind.i64 1)) (Go.Operand.tmp 55) 3, type := 3, pos := "l12_buy.go:318", after := #[{ on := 5, ground := Go.Ground.data }], guard := none }) (v := ?_) rfl (by kernel_rfl) (by kernel_rfl) (by kernel_rfl) (fun _ _ _ h => h) (Or.inl ⟨by rfl, ?_⟩) (by assumption) ?_
            rotate_left
            · (intro w hSw; (try dsimp only at hSw); go_simp <;> try with_reducible rfl)
            try simp only [Act.put, List.setIfInBounds_toArray, List.set_cons_zero, List.set_cons_succ]
            refine wpAnyH_ready (rs := [7]) (by kernel_rfl) (by simp) ?_
            refine AllReadyH.cons (o := { dst := some 57, op := Go.Op.call { callee := Go.Callee.value (Go.Operand.func 59), args := #[Go.Operand.tmp 52, Go.Operand.tmp 56], argTypes := #[99, 3] }, type := 3, pos := "l12_buy.go:318", after := #[{ on := 2, ground := Go.Ground.data }, { on := 6, ground := Go.Ground.data }], guard := none }) rfl (fun K hK => ?_) (AllReadyH.nil)
            go_simp
            refine (below_any b _ _ L7.out.drew.dx.cur).mono ?_
            rintro e w8 ⟨z, rfl, z0, z1, _, m8⟩
            (try rw [hw4, hw5] at z1)
            have z2 := z1 (by omega)
            have hw6 : IntKind.i64.wrap (P + z) = P + z := IntWalk.i64_in _ ⟨by omega, by omega⟩
            have L8 := hid (L7.out.drew.moved m8)
            obtain ⟨d0, d1, d2, h0, h1, h2⟩ := L8.out.cells
            clear m8 z1
            first | refine hK.out _ _ (by exact trivial) (fun hHeld => ?_) | (go_wp2_with fail; refine hK.out _ _ (by exact trivial) (fun hHeld => ?_))
            clear hK K
            try simp only [Act.put, List.setIfInBounds_toArray, List.set_cons_zero, List.set_cons_succ]
            refine wpAnyH_take (i := 8) (oi := { dst := some 58, op := Go.Op.binOp Go.BinOp.add 3 (Go.Operand.tmp 51) (Go.Operand.tmp 57) 3, type := 3, pos := "l12_buy.go:318", after := #[{ on := 1, ground := Go.Ground.data }, { on := 7, ground := Go.Ground.data }], guard := none }) (v := ?_) rfl (by kernel_rfl) (by kernel_rfl) (by kernel_rfl) (fun _ _ _ h => h) (Or.inl ⟨by rfl, ?_⟩) (by assumption) ?_
            rotate_left
            · (intro w hSw; (try dsimp only at hSw); go_simp <;> try with_reducible rfl)
            try simp only [Act.put, List.setIfInBounds_toArray, List.set_cons_zero, List.set_cons_succ]
            refine wpAnyH_take (i := 9) (oi := { dst := some 59, op := Go.Op.fieldAddr 122 (Go.Operand.tmp 12) 2, type := 0, pos := "l12_buy.go:318", after := #[{ on := 0, ground := Go.Ground.phase }, { on := 1, ground := Go.Ground.phase }, { on := 2, ground := Go.Ground.phase }, { on := 3, ground := Go.Ground.phase }, { on := 4, ground := Go.Ground.phase }, { on := 5, ground := Go.Ground.phase }, { on := 6, ground := Go.Ground.phase }, { on := 7, ground := Go.Ground.phase }, { on := 8, ground := Go.Ground.phase }], guard := none }) (v := ?_) rfl (by kernel_rfl) (by kernel_rfl) (by kernel_rfl) (fun _ _ _ h => h) (Or.inl ⟨by rfl, ?_⟩) (by assumption) ?_
            rotate_left
            · (intro w hSw; (try dsimp only at hSw); go_simp <;> try with_reducible rfl)
            try simp only [Act.put, List.setIfInBounds_toArray, List.set_cons_zero, List.set_cons_succ]
            refine wpAnyH_ready (rs := [10]) (by kernel_rfl) (by simp) ?_
            refine AllReadyH.cons (o := { dst := none, op := Go.Op.store 3 (Go.Operand.tmp 59) (Go.Operand.tmp 58), type := 0, pos := "l12_buy.go:318", after := #[{ on := 9, ground := Go.Ground.data }, { on := 8, ground := Go.Ground.data }, { on := 7, ground := Go.Ground.chain }, { on := 0, ground := Go.Ground.phase }, { on := 1, ground := Go.Ground.phase }, { on := 2, ground := Go.Ground.phase }, { on := 3, ground := Go.Ground.phase }, { on := 4, ground := Go.Ground.phase }, { on := 5, ground := Go.Ground.phase }, { on := 6, ground := Go.Ground.phase }, { on := 7, ground := Go.Ground.phase }, { on := 8, ground := Go.Ground.phase }], guard := none }) rfl (fun K hK => ?_) (AllReadyH.nil)
            go_simp
            first | refine hK.out _ _ (by exact trivial) (fun hHeld => ?_) | (go_wp2_with fail; refine hK.out _ _ (by exact trivial) (fun hHeld => ?_))
            clear hK K
            try simp only [Act.put, List.setIfInBounds_toArray, List.set_cons_zero, List.set_cons_succ]
            refine wpAnyH_done (by kernel_rfl) ?_ _
            refine NoPanic.normal ?_
            clear hHeld
            have L9 := hid (L8.out.put2 (P + z))
            clear d0 d1 d2 h0 h1 h2 e0 e1 e2 f0 f1 f2
            generalize w8.setCell ⟨tb, 2, none⟩ (.int .i64 (P + z)) = w10 at L9 ⊢
            have R10 := hid L9.out.dx
            obtain ⟨e0, e1, e2, f0, f1, f2⟩ := L9.out.cells
            go_wp2_with (at_builtin; go_loud (refine wpList_append_own_at _ rfl _ _ 38 rfl w3.heap.size 122 iBN3 (.agg #[.int .i64 0, .int .i64 0, .int .i64 0]) 3 24 Try.underlying38 hiBN3 hzBN30 hzBN31 hzBN32 rfl (by decide) (.slice (some ⟨g, 0, none⟩) (k) oc) (k) (rowBN3 (c) (k)) rfl (R10.out.alloc _).own ⟨w10.heap.size, 0, none⟩ 1 1 [.int .i64 (j : Int), .int .i64 (1 + y), .int .i64 (P + z)] rfl rfl (ocells_at rfl) (fun u hu => by simp at hu; rcases hu with rfl | rfl | rfl <;> rfl) (by unfold maxLen; omega) (by omega) (own_base (R10.out.alloc _).own rfl) ?_); intro v9 w9 hown hgrow hnil hat; obtain ⟨g9, oc9, rfl, _⟩ := ownsRow_some hown (by omega); have R9 : Hid (DXBN3 b w3 w3.heap.size g9 (k + 1) oc9 (addBN3 (c) (k) ⟨(j : Int), 1 + y, P + z⟩) w9) := (R10.out.alloc _).grow hgrow hown; clear hown hgrow hnil hat)
            go_roundw
            case rel => exact ⟨_, k + 1, _, q - 1, _, rfl, by rw [show ((q - 1 : Nat) : Int) = (q : Int) - 1 by omega], by omega, R9⟩
            case measure => simp [intOf]; omega
          · go_simp
            first | refine hK.out _ _ (by exact trivial) (fun hHeld => ?_) | (go_wp2_with fail; refine hK.out _ _ (by exact trivial) (fun hHeld => ?_))
            clear hK K
            try simp only [Act.put, List.setIfInBounds_toArray, List.set_cons_zero, List.set_cons_succ]
            refine wpAnyH_take (i := 5) (oi := { dst := some 55, op := Go.Op.binOp Go.BinOp.quo 3 (Go.Operand.tmp 54) (Go.Operand.const (Go.Value.int Go.IntKind.i64 15)) 3, type := 3, pos := "l12_buy.go:318", after := #[{ on := 4, ground := Go.Ground.data }], guard := none }) (v := ?_) rfl (by kernel_rfl) (by kernel_rfl) (by kernel_rfl) (fun _ _ _ h => h) (Or.inl ⟨by rfl, ?_⟩) (by assumption) ?_
            rotate_left
            · (intro w hSw; (try dsimp only at hSw); go_simp <;> try with_reducible rfl)
            try simp only [Act.put, List.setIfInBounds_toArray, List.set_cons_zero, List.set_cons_succ]
            refine wpAnyH_take (i := 6) (oi := { dst := some 56, op := Go.Op.binOp Go.BinOp.add 3 (Go.Operand.const (Go.Value.int Go.IntKind.i64 1)) (Go.Operand.tmp 55) 3, type := 3, pos := "l12_buy.go:318", after := #[{ on := 5, ground := Go.Ground.data }], guard := none }) (v := ?_) rfl (by kernel_rfl) (by kernel_rfl) (by kernel_rfl) (fun _ _ _ h => h) (Or.inl ⟨by rfl, ?_⟩) (by assumption) ?_
            rotate_left
            · (intro w hSw; (try dsimp only at hSw); go_simp <;> try with_reducible rfl)
            try simp only [Act.put, List.setIfInBounds_toArray, List.set_cons_zero, List.set_cons_succ]
            refine wpAnyH_ready (rs := [1, 7]) (by kernel_rfl) (by simp) ?_
            refine AllReadyH.cons (o := { dst := some 51, op := Go.Op.load 3 (Go.Operand.tmp 50), type := 3, pos := "l12_buy.go:318", after := #[{ on := 0, ground := Go.Ground.data }], guard := none }) rfl (fun K hK => ?_) (AllReadyH.cons (o := { dst := some 57, op := Go.Op.call { callee := Go.Callee.value (Go.Operand.func 59), args := #[Go.Operand.tmp 52, Go.Operand.tmp 56], argTypes := #[99, 3] }, type := 3, pos := "l12_buy.go:318", after := #[{ on := 2, ground := Go.Ground.data }, { on := 6, ground := Go.Ground.data }], guard := none }) rfl (fun K hK => ?_) (AllReadyH.nil))
            · go_simp
              first | refine hK.out _ _ (by exact trivial) (fun hHeld => ?_) | (go_wp2_with fail; refine hK.out _ _ (by exact trivial) (fun hHeld => ?_))
              clear hK K
              try simp only [Act.put, List.setIfInBounds_toArray, List.set_cons_zero, List.set_cons_succ]
              refine wpAnyH_ready (rs := [7]) (by kernel_rfl) (by simp) ?_
              refine AllReadyH.cons (o := { dst := some 57, op := Go.Op.call { callee := Go.Callee.value (Go.Operand.func 59), args := #[Go.Operand.tmp 52, Go.Operand.tmp 56], argTypes := #[99, 3] }, type := 3, pos := "l12_buy.go:318", after := #[{ on := 2, ground := Go.Ground.data }, { on := 6, ground := Go.Ground.data }], guard := none }) rfl (fun K hK => ?_) (AllReadyH.nil)
              go_simp
              refine (below_any b _ _ L7.out.drew.dx.cur).mono ?_
              rintro e w8 ⟨z, rfl, z0, z1, _, m8⟩
              (try rw [hw4, hw5] at z1)
              have z2 := z1 (by omega)
              have hw6 : IntKind.i64.wrap (P + z) = P + z := IntWalk.i64_in _ ⟨by omega, by omega⟩
              have L8 := hid (L7.out.drew.moved m8)
              obtain ⟨d0, d1, d2, h0, h1, h2⟩ := L8.out.cells
              clear m8 z1
              first | refine hK.out _ _ (by exact trivial) (fun hHeld => ?_) | (go_wp2_with fail; refine hK.out _ _ (by exact trivial) (fun hHeld => ?_))
              clear hK K
              try simp only [Act.put, List.setIfInBounds_toArray, List.set_cons_zero, List.set_cons_succ]
              refine wpAnyH_take (i := 8) (oi := { dst := some 58, op := Go.Op.binOp Go.BinOp.add 3 (Go.Operand.tmp 51) (Go.Operand.tmp 57) 3, type := 3, pos := "l12_buy.go:318", after := #[{ on := 1, ground := Go.Ground.data }, { on := 7, ground := Go.Ground.data }], guard := none }) (v := ?_) rfl (by kernel_rfl) (by kernel_rfl) (by kernel_rfl) (fun _ _ _ h => h) (Or.inl ⟨by rfl, ?_⟩) (by assumption) ?_
              rotate_left
              · (intro w hSw; (try dsimp only at hSw); go_simp <;> try with_reducible rfl)
              try simp only [Act.put, List.setIfInBounds_toArray, List.set_cons_zero, List.set_cons_succ]
              refine wpAnyH_take (i := 9) (oi := { dst := some 59, op := Go.Op.fieldAddr 122 (Go.Operand.tmp 12) 2, type := 0, pos := "l12_buy.go:318", after := #[{ on := 0, ground := Go.Ground.phase }, { on := 1, ground := Go.Ground.phase }, { on := 2, ground := Go.Ground.phase }, { on := 3, ground := Go.Ground.phase }, { on := 4, ground := Go.Ground.phase }, { on := 5, ground := Go.Ground.phase }, { on := 6, ground := Go.Ground.phase }, { on := 7, ground := Go.Ground.phase }, { on := 8, ground := Go.Ground.phase }], guard := none }) (v := ?_) rfl (by kernel_rfl) (by kernel_rfl) (by kernel_rfl) (fun _ _ _ h => h) (Or.inl ⟨by rfl, ?_⟩) (by assumption) ?_
              rotate_left
              · (intro w hSw; (try dsimp only at hSw); go_simp <;> try with_reducible rfl)
              try simp only [Act.put, List.setIfInBounds_toArray, List.set_cons_zero, List.set_cons_succ]
              refine wpAnyH_ready (rs := [10]) (by kernel_rfl) (by simp) ?_
              refine AllReadyH.cons (o := { dst := none, op := Go.Op.store 3 (Go.Operand.tmp 59) (Go.Operand.tmp 58), type := 0, pos := "l12_buy.go:318", after := #[{ on := 9, ground := Go.Ground.data }, { on := 8, ground := Go.Ground.data }, { on := 7, ground := Go.Ground.chain }, { on := 0, ground := Go.Ground.phase }, { on := 1, ground := Go.Ground.phase }, { on := 2, ground := Go.Ground.phase }, { on := 3, ground := Go.Ground.phase }, { on := 4, ground := Go.Ground.phase }, { on := 5, ground := Go.Ground.phase }, { on := 6, ground := Go.Ground.phase }, { on := 7, ground := Go.Ground.phase }, { on := 8, ground := Go.Ground.phase }], guard := none }) rfl (fun K hK => ?_) (AllReadyH.nil)
              go_simp
              first | refine hK.out _ _ (by exact trivial) (fun hHeld => ?_) | (go_wp2_with fail; refine hK.out _ _ (by exact trivial) (fun hHeld => ?_))
              clear hK K
              try simp only [Act.put, List.setIfInBounds_toArray, List.set_cons_zero, List.set_cons_succ]
              refine wpAnyH_done (by kernel_rfl) ?_ _
              refine NoPanic.normal ?_
              clear hHeld
              have L9 := hid (L8.out.put2 (P + z))
              clear d0 d1 d2 h0 h1 h2 e0 e1 e2 f0 f1 f2
              generalize w8.setCell ⟨tb, 2, none⟩ (.int .i64 (P + z)) = w10 at L9 ⊢
              have R10 := hid L9.out.dx
              obtain ⟨e0, e1, e2, f0, f1, f2⟩ := L9.out.cells
              go_wp2_with (at_builtin; go_loud (refine wpList_append_own_at _ rfl _ _ 38 rfl w3.heap.size 122 iBN3 (.agg #[.int .i64 0, .int .i64 0, .int .i64 0]) 3 24 Try.underlying38 hiBN3 hzBN30 hzBN31 hzBN32 rfl (by decide) (.slice (some ⟨g, 0, none⟩) (k) oc) (k) (rowBN3 (c) (k)) rfl (R10.out.alloc _).own ⟨w10.heap.size, 0, none⟩ 1 1 [.int .i64 (j : Int), .int .i64 (1 + y), .int .i64 (P + z)] rfl rfl (ocells_at rfl) (fun u hu => by simp at hu; rcases hu with rfl | rfl | rfl <;> rfl) (by unfold maxLen; omega) (by omega) (own_base (R10.out.alloc _).own rfl) ?_); intro v9 w9 hown hgrow hnil hat; obtain ⟨g9, oc9, rfl, _⟩ := ownsRow_some hown (by omega); have R9 : Hid (DXBN3 b w3 w3.heap.size g9 (k + 1) oc9 (addBN3 (c) (k) ⟨(j : Int), 1 + y, P + z⟩) w9) := (R10.out.alloc _).grow hgrow hown; clear hown hgrow hnil hat)
              go_roundw
              case rel => exact ⟨_, k + 1, _, q - 1, _, rfl, by rw [show ((q - 1 : Nat) : Int) = (q : Int) - 1 by omega], by omega, R9⟩
              case measure => simp [intOf]; omega
            · go_simp
              refine (below_any b _ _ L7.out.drew.dx.cur).mono ?_
              rintro e w8 ⟨z, rfl, z0, z1, _, m8⟩
              (try rw [hw4, hw5] at z1)
              have z2 := z1 (by omega)
              have hw6 : IntKind.i64.wrap (P + z) = P + z := IntWalk.i64_in _ ⟨by omega, by omega⟩
              have L8 := hid (L7.out.drew.moved m8)
              obtain ⟨d0, d1, d2, h0, h1, h2⟩ := L8.out.cells
              clear m8 z1
              first | refine hK.out _ _ (by exact trivial) (fun hHeld => ?_) | (go_wp2_with fail; refine hK.out _ _ (by exact trivial) (fun hHeld => ?_))
              clear hK K
              try simp only [Act.put, List.setIfInBounds_toArray, List.set_cons_zero, List.set_cons_succ]
              refine wpAnyH_ready (rs := [1]) (by kernel_rfl) (by simp) ?_
              refine AllReadyH.cons (o := { dst := some 51, op := Go.Op.load 3 (Go.Operand.tmp 50), type := 3, pos := "l12_buy.go:318", after := #[{ on := 0, ground := Go.Ground.data }], guard := none }) rfl (fun K hK => ?_) (AllReadyH.nil)
              go_simp
              first | refine hK.out _ _ (by exact trivial) (fun hHeld => ?_) | (go_wp2_with fail; refine hK.out _ _ (by exact trivial) (fun hHeld => ?_))
              clear hK K
              try simp only [Act.put, List.setIfInBounds_toArray, List.set_cons_zero, List.set_cons_succ]
              refine wpAnyH_take (i := 8) (oi := { dst := some 58, op := Go.Op.binOp Go.BinOp.add 3 (Go.Operand.tmp 51) (Go.Operand.tmp 57) 3, type := 3, pos := "l12_buy.go:318", after := #[{ on := 1, ground := Go.Ground.data }, { on := 7, ground := Go.Ground.data }], guard := none }) (v := ?_) rfl (by kernel_rfl) (by kernel_rfl) (by kernel_rfl) (fun _ _ _ h => h) (Or.inl ⟨by rfl, ?_⟩) (by assumption) ?_
              rotate_left
              · (intro w hSw; (try dsimp only at hSw); go_simp <;> try with_reducible rfl)
              try simp only [Act.put, List.setIfInBounds_toArray, List.set_cons_zero, List.set_cons_succ]
              refine wpAnyH_take (i := 9) (oi := { dst := some 59, op := Go.Op.fieldAddr 122 (Go.Operand.tmp 12) 2, type := 0, pos := "l12_buy.go:318", after := #[{ on := 0, ground := Go.Ground.phase }, { on := 1, ground := Go.Ground.phase }, { on := 2, ground := Go.Ground.phase }, { on := 3, ground := Go.Ground.phase }, { on := 4, ground := Go.Ground.phase }, { on := 5, ground := Go.Ground.phase }, { on := 6, ground := Go.Ground.phase }, { on := 7, ground := Go.Ground.phase }, { on := 8, ground := Go.Ground.phase }], guard := none }) (v := ?_) rfl (by kernel_rfl) (by kernel_rfl) (by kernel_rfl) (fun _ _ _ h => h) (Or.inl ⟨by rfl, ?_⟩) (by assumption) ?_
              rotate_left
              · (intro w hSw; (try dsimp only at hSw); go_simp <;> try with_reducible rfl)
              try simp only [Act.put, List.setIfInBounds_toArray, List.set_cons_zero, List.set_cons_succ]
              refine wpAnyH_ready (rs := [10]) (by kernel_rfl) (by simp) ?_
              refine AllReadyH.cons (o := { dst := none, op := Go.Op.store 3 (Go.Operand.tmp 59) (Go.Operand.tmp 58), type := 0, pos := "l12_buy.go:318", after := #[{ on := 9, ground := Go.Ground.data }, { on := 8, ground := Go.Ground.data }, { on := 7, ground := Go.Ground.chain }, { on := 0, ground := Go.Ground.phase }, { on := 1, ground := Go.Ground.phase }, { on := 2, ground := Go.Ground.phase }, { on := 3, ground := Go.Ground.phase }, { on := 4, ground := Go.Ground.phase }, { on := 5, ground := Go.Ground.phase }, { on := 6, ground := Go.Ground.phase }, { on := 7, ground := Go.Ground.phase }, { on := 8, ground := Go.Ground.phase }], guard := none }) rfl (fun K hK => ?_) (AllReadyH.nil)
              go_simp
              first | refine hK.out _ _ (by exact trivial) (fun hHeld => ?_) | (go_wp2_with fail; refine hK.out _ _ (by exact trivial) (fun hHeld => ?_))
              clear hK K
              try simp only [Act.put, List.setIfInBounds_toArray, List.set_cons_zero, List.set_cons_succ]
              refine wpAnyH_done (by kernel_rfl) ?_ _
              refine NoPanic.normal ?_
              clear hHeld
              have L9 := hid (L8.out.put2 (P + z))
              clear d0 d1 d2 h0 h1 h2 e0 e1 e2 f0 f1 f2
              generalize w8.setCell ⟨tb, 2, none⟩ (.int .i64 (P + z)) = w10 at L9 ⊢
              have R10 := hid L9.out.dx
              obtain ⟨e0, e1, e2, f0, f1, f2⟩ := L9.out.cells
              go_wp2_with (at_builtin; go_loud (refine wpList_append_own_at _ rfl _ _ 38 rfl w3.heap.size 122 iBN3 (.agg #[.int .i64 0, .int .i64 0, .int .i64 0]) 3 24 Try.underlying38 hiBN3 hzBN30 hzBN31 hzBN32 rfl (by decide) (.slice (some ⟨g, 0, none⟩) (k) oc) (k) (rowBN3 (c) (k)) rfl (R10.out.alloc _).own ⟨w10.heap.size, 0, none⟩ 1 1 [.int .i64 (j : Int), .int .i64 (1 + y), .int .i64 (P + z)] rfl rfl (ocells_at rfl) (fun u hu => by simp at hu; rcases hu with rfl | rfl | rfl <;> rfl) (by unfold maxLen; omega) (by omega) (own_base (R10.out.alloc _).own rfl) ?_); intro v9 w9 hown hgrow hnil hat; obtain ⟨g9, oc9, rfl, _⟩ := ownsRow_some hown (by omega); have R9 : Hid (DXBN3 b w3 w3.heap.size g9 (k + 1) oc9 (addBN3 (c) (k) ⟨(j : Int), 1 + y, P + z⟩) w9) := (R10.out.alloc _).grow hgrow hown; clear hown hgrow hnil hat)
              go_roundw
              case rel => exact ⟨_, k + 1, _, q - 1, _, rfl, by rw [show ((q - 1 : Nat) : Int) = (q : Int) - 1 by omega], by omega, R9⟩
              case measure => simp [intOf]; omega
    · obtain rfl : q = 0 := by omega
      have RR := HW
      have hk6 : k ≤ 5 := by omega
      clear HW
      by_cases hk0 : k = 0
      · subst hk0
        go_wp2_with (first
          | (go_at_call 74; refine (once_any b _ _ RR.out.cur).mono ?_; rintro e w4 ⟨x, rfl, m4⟩; replace RR := hid (RR.out.moved m4); clear m4; cases x)
          | (go_at_call 76; refine (spoilOrder_any b w1 w1.heap.size g0 n oc0 co _ (D2.out.moved (D3.out.mv.trans RR.out.mv)) ⟨n1, n4⟩ HO.out).mono ?_; rintro e w8 ⟨a, na, oca, ca, rfl, hna, hsa, hra, hab, haw, mva, kp⟩; have HRA : Hid (OLr w8 (some ⟨a, 0, none⟩) na ca ∧ b < a ∧ na ≤ 4 ∧ ∀ j, (ca j).item.size ≤ 40) := hid ⟨hra, hab, hna, hsa⟩; have RCR : Hid (RCr w8 (some ⟨gr, 0, none⟩) kr cr ∧ b < gr) := hid ⟨(D3.out.row.turns RR.out.trn D3.out.gb).keep (kp.2 gr (by have := D3.out.gge.2; have := RR.out.trn.size; omega) D3.out.gb (by have := D3.out.gge.1; have := D2.out.gge.2; omega)) kp.1, (by have := D3.out.gge.1; have := D3.out.bb; omega)⟩; have BNR := hid (And.intro (RR.out.row.keep (kp.2 g RR.out.gge.2 RR.out.gb (by have := RR.out.gge.1; have := D2.out.gge.2; have := D3.out.trn.size; omega)) kp.1) (show b < g by have := RR.out.gge.1; have := RR.out.bb; omega)); have MV8 : Hid (Moved b w1 w8) := hid mva; clear hna hsa hra hab haw mva kp)
          | (go_at_call 77; refine (drawTol_any b _ MV8.out.1).mono ?_; rintro e w9 ⟨o, p, l, rfl, m9⟩; have MV9 : Hid (Moved b w1 w9) := hid (MV8.out.trans m9); have DM := hid (dm_of (oca := oca) (ocr := ocr) (oc := oc) o p l HZ.out.1 HZ.out.2 HB1.out MV9.out HRA.out.2.1 RCR.out.2 BNR.out.2 (HRA.out.1.turns m9.2 (by have := HRA.out.2.1; omega)) (RCR.out.1.turns m9.2 (by have := RCR.out.2; omega)) (BNR.out.1.turns m9.2 (by have := BNR.out.2; omega)) HRA.out.2.2.1 hkr (by omega) HRA.out.2.2.2); have RS := res_of HZ.out.1 HB1.out MV9.out; have r0 := (RS.cell 0).trans rfl; have r1 := (RS.cell 1).trans rfl; have r2 := (RS.cell 2).trans rfl; have s0 := RS.fr 0; have s1 := RS.fr 1; have s2 := RS.fr 2; clear m9 RS))
        all_goals
          have DD := DM.out
          revert DD
          generalize (((w9.setCell ⟨w.heap.size, 0, none⟩ (.int .i64 o)).setCell ⟨w.heap.size, 1, none⟩ (.int .i64 p)).setCell ⟨w.heap.size, 2, none⟩ (.int .i64 l)) = WW
          intro DD
          clear r0 r1 r2 s0 s1 s2
          have e0 := (DD.2.cell 0).trans rfl
          have e1 := (DD.2.cell 1).trans rfl
          have e2 := (DD.2.cell 2).trans rfl
          try simp only [Exit.inBlock, Exit.then]
          refine bodyPost_ret (v := .tuple #[.slice (some ⟨a, 0, none⟩) na oca, .slice (some ⟨gr, 0, none⟩) kr ocr, .slice (some ⟨g, 0, none⟩) 0 oc, .agg #[.int .i64 o, .int .i64 p, .int .i64 l]]) (by simp [results, Try.results18, go_sem, e0, e1, e2]; try rfl) rfl ?_
          exact DD.1
      · have hkl : (0 : Int) < (k : Int) := by omega
        have hk1 : 0 < k := by omega
        go_wp2_with (first
          | (go_at_call 74; refine (once_any b _ _ RR.out.cur).mono ?_; rintro e w4 ⟨x, rfl, m4⟩; replace RR := hid (RR.out.moved m4); clear m4; cases x)
          | (go_at_call 75; refine (pick_any b _ [0, -1, 1000000, 1000001] _ _ _ (RR.out.alloc _).cur (IntRow.madeAt rfl RR.out.cur.lt _ _ _ rfl) rfl (by decide) (by decide)).mono ?_; rintro e w6 ⟨v, rfl, hv, m5⟩; replace RR := hid ((RR.out.alloc _).moved m5); have c0 := RR.out.row.cell (j := 0) (by omega); simp only [Nat.zero_mul, Nat.zero_add] at c0; obtain ⟨e0, e1, e2⟩ := c0; have f1 := RR.out.fr 1; replace RR := hid (show DXBN3 b w3 w3.heap.size g k oc _ (w6.setCell ⟨g, 1, none⟩ (.int .i64 v)) from RR.out.put1 (i := 0) (by omega) v); clear m5 hv)
          | (go_at_call 76; refine (spoilOrder_any b w1 w1.heap.size g0 n oc0 co _ (D2.out.moved (D3.out.mv.trans RR.out.mv)) ⟨n1, n4⟩ HO.out).mono ?_; rintro e w8 ⟨a, na, oca, ca, rfl, hna, hsa, hra, hab, haw, mva, kp⟩; have HRA : Hid (OLr w8 (some ⟨a, 0, none⟩) na ca ∧ b < a ∧ na ≤ 4 ∧ ∀ j, (ca j).item.size ≤ 40) := hid ⟨hra, hab, hna, hsa⟩; have RCR : Hid (RCr w8 (some ⟨gr, 0, none⟩) kr cr ∧ b < gr) := hid ⟨(D3.out.row.turns RR.out.trn D3.out.gb).keep (kp.2 gr (by have := D3.out.gge.2; have := RR.out.trn.size; omega) D3.out.gb (by have := D3.out.gge.1; have := D2.out.gge.2; omega)) kp.1, (by have := D3.out.gge.1; have := D3.out.bb; omega)⟩; have BNR := hid (And.intro (RR.out.row.keep (kp.2 g RR.out.gge.2 RR.out.gb (by have := RR.out.gge.1; have := D2.out.gge.2; have := D3.out.trn.size; omega)) kp.1) (show b < g by have := RR.out.gge.1; have := RR.out.bb; omega)); have MV8 : Hid (Moved b w1 w8) := hid mva; clear hna hsa hra hab haw mva kp)
          | (go_at_call 77; refine (drawTol_any b _ MV8.out.1).mono ?_; rintro e w9 ⟨o, p, l, rfl, m9⟩; have MV9 : Hid (Moved b w1 w9) := hid (MV8.out.trans m9); have DM := hid (dm_of (oca := oca) (ocr := ocr) (oc := oc) o p l HZ.out.1 HZ.out.2 HB1.out MV9.out HRA.out.2.1 RCR.out.2 BNR.out.2 (HRA.out.1.turns m9.2 (by have := HRA.out.2.1; omega)) (RCR.out.1.turns m9.2 (by have := RCR.out.2; omega)) (BNR.out.1.turns m9.2 (by have := BNR.out.2; omega)) HRA.out.2.2.1 hkr (by omega) HRA.out.2.2.2); have RS := res_of HZ.out.1 HB1.out MV9.out; have r0 := (RS.cell 0).trans rfl; have r1 := (RS.cell 1).trans rfl; have r2 := (RS.cell 2).trans rfl; have s0 := RS.fr 0; have s1 := RS.fr 1; have s2 := RS.fr 2; clear m9 RS))
        all_goals
          have DD := DM.out
          revert DD
          generalize (((w9.setCell ⟨w.heap.size, 0, none⟩ (.int .i64 o)).setCell ⟨w.heap.size, 1, none⟩ (.int .i64 p)).setCell ⟨w.heap.size, 2, none⟩ (.int .i64 l)) = WW
          intro DD
          clear r0 r1 r2 s0 s1 s2
          have e0 := (DD.2.cell 0).trans rfl
          have e1 := (DD.2.cell 1).trans rfl
          have e2 := (DD.2.cell 2).trans rfl
          try simp only [Exit.inBlock, Exit.then]
          refine bodyPost_ret (v := .tuple #[.slice (some ⟨a, 0, none⟩) na oca, .slice (some ⟨gr, 0, none⟩) kr ocr, .slice (some ⟨g, 0, none⟩) k oc, .agg #[.int .i64 o, .int .i64 p, .int .i64 l]]) (by simp [results, Try.results18, go_sem, e0, e1, e2]; try rfl) rfl ?_
          exact DD.1
end Go.Proofs.Ytghphlnpginmhaa
