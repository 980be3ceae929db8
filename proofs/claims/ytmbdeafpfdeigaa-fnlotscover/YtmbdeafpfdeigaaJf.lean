/- Levels: both sides reckon lvS; the greatest of a row of whole numbers. -/
import Derived.Test.YtmbdeafpfdeigaaJe
import Derived.Test.YtmbdeafpfdeigaaRx
import Derived.Deep.QuietTactic
import Derived.Deep.RegionHeldLaw
import Derived.BigRegion
namespace Go.Proofs.Ytmbdeafpfdeigaa
open Go Go.ChangeShapes Go.WideShapes Go.ChangeAt Go.RowKit
set_option linter.unusedVariables false
set_option linter.unusedSimpArgs false

/-- Block b holds the whole numbers z 0, .., z (n - 1), and maybe more. -/
def IB (w : World) (b n : Nat) (z : Nat → Int) : Prop := ∃ cs, CB w b cs 3 ∧ ∀ j, j < n → cs[j]? = some (.int .i64 (z j))
section
variable {w w' : World} {b n : Nat} {z : Nat → Int}
theorem IB.lt (H : IB w b n z) : b < w.heap.size := by obtain ⟨cs, h, _⟩ := H; exact h.lt
theorem IB.cell (H : IB w b n z) {j : Nat} (h : j < n) : w.cell? ⟨b, j, none⟩ = some (.int .i64 (z j)) := by obtain ⟨cs, h1, h2⟩ := H; rw [h1.cell]; exact h2 j h
theorem IB.fr (H : IB w b n z) (o : Nat) : w.frozen? ⟨b, o, none⟩ = false := by obtain ⟨cs, h, _⟩ := H; exact h.fr o
theorem IB.keep (H : IB w b n z) (h : w'.heap[b]? = w.heap[b]?) : IB w' b n z := by
  obtain ⟨cs, h1, h2⟩ := H; exact ⟨cs, by unfold CB at h1 ⊢; rw [h]; exact h1, h2⟩
theorem IB.below (H : IB w b n z) (k : Below w.heap.size w w') : IB w' b n z := H.keep (k.block b H.lt)
theorem IB.other (H : IB w b n z) {c o : Nat} (u : Value) (h : b ≠ c) : IB (w.setCell ⟨c, o, none⟩ u) b n z := by obtain ⟨cs, h1, h2⟩ := H; exact ⟨cs, h1.other u h, h2⟩
theorem IB.set (H : IB w b n z) {i : Nat} (hi : i < n) (x : Int) : IB (w.setCell ⟨b, i, none⟩ (.int .i64 x)) b n (upI z i x) := by
  obtain ⟨cs, h1, h2⟩ := H
  refine ⟨_, h1.set _ _, fun j hj => ?_⟩
  have hi2 := h2 i hi
  have hsz : i < cs.size := by
    rcases Nat.lt_or_ge i cs.size with q | q
    · exact q
    · rw [Array.getElem?_eq_none q] at hi2; cases hi2
  by_cases e : j = i
  · subst e; rw [upI_eq, Array.getElem?_setIfInBounds_self_of_lt hsz]
  · rw [upI_ne e, Array.getElem?_setIfInBounds_ne (by omega)]; exact h2 j hj
end
theorem IB.dr {w : World} {b n : Nat} {z : Nat → Int} (h : IB w b n z) : IB w.drew b n z := h
theorem IB.row {w : World} {b n : Nat} {z : Nat → Int} (h : IB w b n z) : IR w (some ⟨b, 0, none⟩) n z := by obtain ⟨cs, h1, h2⟩ := h; exact IR.of_block h1 n z h2
theorem IB.congr {w : World} {b n : Nat} {z y : Nat → Int} (h : IB w b n z) (e : ∀ j, j < n → z j = y j) : IB w b n y := by obtain ⟨cs, h1, h2⟩ := h; exact ⟨cs, h1, fun j hj => by rw [h2 j hj, e j hj]⟩
theorem cell_oth {w : World} {b o a p : Nat} {u v : Value} (h : b ≠ a) (hc : w.cell? ⟨b, o, none⟩ = some v) : (w.setCell ⟨a, p, none⟩ u).cell? ⟨b, o, none⟩ = some v := by
  rw [World.cell?_of_block (w := w) (Below.heap_setCell _ _ _ _ (by show b ≠ a; exact h))]; exact hc
theorem zeros_get {n j : Nat} (h : j < n) : (zeros n)[j]? = some (.int .i64 0) := by
  simp [zeros, madeCells, h, Nat.mod_one]
set_option maxRecDepth 20000 in
set_option maxHeartbeats 8000000 in
theorem levelsOf_any (ad : Option Addr) (n cap : Nat) (c : Nat → IT) (w : World) (h : (n : Int) ≤ 60) (hr : ITr w ad n c) (hl : LvOk n c) :
    Calls Try.prog 69 #[.slice ad n cap] w fun e w' => e = .returned (.slice (some ⟨w.heap.size, 0, none⟩) n n) ∧ IB w' w.heap.size n (lvS c n) ∧ Below w.heap.size w w' := by
  have HR : Hid (ITr w ad n c) := hr
  have HL : Hid (LvOk n c) := hl
  have hmk := mkI n (by omega)
  clear hr hl
  go_enter Try.func69, Try.ntmps69
  go_wp2
  obtain ⟨LB, hLB⟩ : ∃ B, w.heap.size = B := ⟨_, rfl⟩
  have HLB : Hid (w.heap.size = LB) := hLB
  have HI0 : Hid (IB (w.alloc (.cells (zeros n) 3)) LB n (lvS c 0) ∧ Below w.heap.size w (w.alloc (.cells (zeros n) 3))) := hid ⟨⟨zeros n, CB.newAt hLB _ _, fun j hj => zeros_get hj⟩, (Below.refl _ _).alloc (Nat.le_refl _) _⟩
  rw [hLB]
  clear hmk hLB
  go_loopw [13] (fun i wr => ∃ (k : Nat), k ≤ n ∧ i = .int .i64 (k : Int) ∧ Hid (IB wr LB n (lvS c k) ∧ Below w.heap.size w wr)) (fun i _ => n - (intOf i).toNat)
  case atStart => exact ⟨0, Nat.zero_le _, rfl, HI0⟩
  case round =>
    clear HI0
    obtain ⟨k, hk, rfl, HH⟩ := hrel
    obtain ⟨wo, rfl⟩ : ∃ x, x = wr := ⟨wr, rfl⟩
    by_cases hlt : k < n
    · have hlt2 : (k : Int) < (n : Int) := by omega
      obtain ⟨kb, off, rfl, hkb⟩ := HR.out.addr (by omega)
      obtain ⟨ra, rc, sa, sc, _, _, c0, c1, c2, c3, c4, r5, r6⟩ := HR.out.cell hlt
      replace c0 := keep_cell HH.out.2 c0
      replace c1 := keep_cell HH.out.2 c1
      replace c2 := keep_cell HH.out.2 c2
      replace c3 := keep_cell HH.out.2 c3
      replace c4 := keep_cell HH.out.2 c4
      have hlk := HL.out k hlt
      have HLK : Hid ((c k).parn ≤ 30 ∧ ∀ q, q < (c k).parn → (k : Int) + 1 ≤ ((c k).parz q).item ∧ ((c k).parz q).item ≤ (n : Int) - 1) := hlk
      have hm30 : ((c k).parn : Int) ≤ 30 := by omega
      have HBD : Hid (∀ q, q ≤ (c k).parn → ∀ j, 0 ≤ lvP (lvS c k) k (c k).parz q j ∧ lvP (lvS c k) k (c k).parz q j ≤ (k : Int) + 1) := hid (fun q hq => lvM_bd HL.out hlt hq)
      have HNX : Hid (lvS c (k + 1) = lvP (lvS c k) k (c k).parz (c k).parn) := rfl
      have HR5 : Hid (PAr w ra (c k).parn (c k).parz) := r5
      clear hlk r5 r6
      have HI1 : Hid (IB wo LB n (lvP (lvS c k) k (c k).parz 0)) := HH.out.1
      have HBo : Hid (Below w.heap.size w wo) := HH.out.2
      have hbl : LB < wo.heap.size := HH.out.1.lt
      clear HH
      generalize lvS c k = L at HBD HNX HI1
      generalize (c k).parz = z at HLK HBD HNX HR5 HI1
      generalize (c k).parn = m at c3 HLK HBD HNX HR5 hm30
      generalize (c k).alsn = sn at c4
      generalize (c k).name = nm at c0
      generalize (c k).batch = ba at c1
      generalize (c k).pha = ph at c2
      go_wp2
      have HI2 : Hid (IB (wo.alloc (.cells #[.string nm, .int .i64 ba, .bool ph, .slice ra m rc, .slice sa sn sc] 31 (0, 0))) LB n (lvP L k z 0) ∧ Below w.heap.size w (wo.alloc (.cells #[.string nm, .int .i64 ba, .bool ph, .slice ra m rc, .slice sa sn sc] 31 (0, 0)))) := hid ⟨HI1.out.below ((Below.refl _ _).alloc (Nat.le_refl _) _), bel_on HBo.out ((Below.refl _ _).alloc (Nat.le_refl _) _)⟩
      clear c0 c1 c2 c3 c4 HI1
      go_loopw [21] (fun i wr => ∃ (q : Nat), q ≤ m ∧ i = .int .i64 (q : Int) ∧ Hid (IB wr LB n (lvP L k z q) ∧ Below w.heap.size w wr)) (fun i _ => m - (intOf i).toNat)
      case atStart => exact ⟨0, Nat.zero_le _, rfl, HI2⟩
      case round =>
        clear HI2
        obtain ⟨q, hq, rfl, HQ⟩ := hrel
        obtain ⟨wi, rfl⟩ : ∃ x, x = wr := ⟨wr, rfl⟩
        by_cases hlq : q < m
        · have hlq2 : (q : Int) < (m : Int) := by omega
          obtain ⟨pb, po, rfl, _⟩ := HR5.out.addr (by omega)
          obtain ⟨d0, d1, d2, d3, d4, d5⟩ := (HR5.out.below HQ.out.2).cell hlq
          obtain ⟨p1, p2⟩ := HLK.out.2 q hlq
          obtain ⟨P, hP⟩ : ∃ P : Nat, (z q).item = (P : Int) := ⟨(z q).item.toNat, by omega⟩
          have HPP : Hid ((z q).item = (P : Int)) := hP
          rw [hP] at d0 p1 p2
          have hPn : P < n := by omega
          have hPn2 : (P : Int) < (n : Int) := by omega
          have hkP : k ≠ P := by omega
          have HA := HBD.out q hq P
          have HE := HBD.out q hq k
          have HST : Hid (lvP L k z (q + 1) = upI (lvP L k z q) P (max (lvP L k z q P) (lvP L k z q k + 1))) := hid (by show upI _ (z q).item.toNat _ = _; rw [hP]; rfl)
          have ca := HQ.out.1.cell hPn
          have cb := HQ.out.1.cell hlt
          have hwl : LB < wi.heap.size := HQ.out.1.lt
          obtain ⟨A, hA⟩ : ∃ A, lvP L k z q P = A := ⟨_, rfl⟩
          obtain ⟨E, hE⟩ : ∃ A, lvP L k z q k = A := ⟨_, rfl⟩
          rw [hA] at ca HA HST
          have HEE : Hid (lvP L k z q k = E) := hE
          rw [hE] at cb HE HST
          obtain ⟨MX, hMX⟩ : ∃ M, max A (E + 1) = M := ⟨_, rfl⟩
          rw [hMX] at HST
          have HMX : Hid (max A (E + 1) = MX) := hMX
          have hmx1 : (if A < E + 1 then E + 1 else A) = MX := by rw [← hMX]; split <;> omega
          have hwE : IntKind.i64.wrap (E + 1) = E + 1 := IntWalk.i64_in _ ⟨by omega, by omega⟩
          clear hP p1 p2 hA hE hMX
          generalize (z q).qty = e1 at d1
          generalize (z q).scr = e2 at d2
          generalize (z q).fst = e3 at d3
          generalize (z q).lst = e4 at d4
          generalize (z q).grp = e5 at d5
          go_wp2
          have bb : Below wi.heap.size wi (wi.alloc (.cells #[.int .i64 (P : Int), .int .i64 e1, .int .i64 e2, .int .i64 e3, .int .i64 e4, .int .i64 e5] 28 (0, 0))) := (Below.refl _ _).alloc (Nat.le_refl _) _
          have HQ2 : Hid (IB (wi.alloc (.cells #[.int .i64 (P : Int), .int .i64 e1, .int .i64 e2, .int .i64 e3, .int .i64 e4, .int .i64 e5] 28 (0, 0))) LB n (lvP L k z q) ∧ Below w.heap.size w (wi.alloc (.cells #[.int .i64 (P : Int), .int .i64 e1, .int .i64 e2, .int .i64 e3, .int .i64 e4, .int .i64 e5] 28 (0, 0)))) := hid ⟨HQ.out.1.below bb, bel_on HQ.out.2 bb⟩
          have x0 : (wi.alloc (.cells #[.int .i64 (P : Int), .int .i64 e1, .int .i64 e2, .int .i64 e3, .int .i64 e4, .int .i64 e5] 28 (0, 0))).cell? ⟨wi.heap.size, 0, none⟩ = some (.int .i64 (P : Int)) := ((CB.new (w := wi) _ _).cell 0).trans rfl
          replace ca := keep_cell bb ca
          replace cb := keep_cell bb cb
          have nB : wi.heap.size ≠ LB := by omega
          clear hwl
          clear d0 d1 d2 d3 d4 d5 HQ bb
          generalize wi.alloc (.cells #[.int .i64 (P : Int), .int .i64 e1, .int .i64 e2, .int .i64 e3, .int .i64 e4, .int .i64 e5] 28 (0, 0)) = W9 at ca cb x0 HQ2 ⊢
          generalize wi.heap.size = NB at x0 nB ⊢
          have fa := HQ2.out.1.fr P
          have HX : Hid (W9.drew.cell? ⟨NB, 0, none⟩ = some (.int .i64 (P : Int)) ∧ W9.drew.cell? ⟨LB, k, none⟩ = some (.int .i64 E)) := hid ⟨x0, cb⟩
          have HY : Hid ((W9.setCell ⟨LB, P, none⟩ (.int .i64 MX)).drew.cell? ⟨NB, 0, none⟩ = some (.int .i64 (P : Int)) ∧ (W9.setCell ⟨LB, P, none⟩ (.int .i64 MX)).drew.cell? ⟨LB, k, none⟩ = some (.int .i64 E)) := hid ⟨cell_oth nB x0, by have := (HQ2.out.1.set hPn MX).cell hlt; rw [upI_ne hkP, HEE.out] at this; exact this⟩
          have HCE : Hid (W9.drew.cell? ⟨LB, P, none⟩ = some (.int .i64 A)) := ca
          clear x0 cb ca
          refine wp_region_noPanic ?_
          refine wp_region_held_drew (S := fun w' => w'.cell? ⟨NB, 0, none⟩ = some (.int .i64 (P : Int)) ∧ w'.cell? ⟨LB, k, none⟩ = some (.int .i64 E)) (by kernel_rfl) (by exact HX.out) (fun hHeld => ?_)
          refine wpAnyH_take (i := 0) (oi := { dst := some 25, op := Go.Op.move (Go.Operand.tmp 3), type := 24, pos := "l17_make.go:60", after := #[], guard := none }) (v := ?_) rfl (by kernel_rfl) (by kernel_rfl) (by kernel_rfl) (fun _ _ _ h => h) (Or.inl ⟨by rfl, ?_⟩) (by assumption) ?_
          rotate_left
          · (intro w hSw; (try dsimp only at hSw); go_simp <;> try with_reducible rfl)
          try simp only [Act.put, List.setIfInBounds_toArray, List.set_cons_zero, List.set_cons_succ]
          refine wpAnyH_take (i := 1) (oi := { dst := some 26, op := Go.Op.fieldAddr 28 (Go.Operand.tmp 7) 0, type := 0, pos := "l17_make.go:60", after := #[], guard := none }) (v := ?_) rfl (by kernel_rfl) (by kernel_rfl) (by kernel_rfl) (fun _ _ _ h => h) (Or.inl ⟨by rfl, ?_⟩) (by assumption) ?_
          rotate_left
          · (intro w hSw; (try dsimp only at hSw); go_simp <;> try with_reducible rfl)
          try simp only [Act.put, List.setIfInBounds_toArray, List.set_cons_zero, List.set_cons_succ]
          refine wpAnyH_take (i := 2) (oi := { dst := some 27, op := Go.Op.load 3 (Go.Operand.tmp 26), type := 3, pos := "l17_make.go:60", after := #[{ on := 1, ground := Go.Ground.data }], guard := none }) (v := ?_) rfl (by kernel_rfl) (by kernel_rfl) (by kernel_rfl) (fun _ _ _ h => h) (Or.inl ⟨by rfl, ?_⟩) (by assumption) ?_
          rotate_left
          · (intro w hSw; (try dsimp only at hSw); go_simp <;> try with_reducible rfl)
          try simp only [Act.put, List.setIfInBounds_toArray, List.set_cons_zero, List.set_cons_succ]
          refine wpAnyH_take (i := 3) (oi := { dst := some 28, op := Go.Op.move (Go.Operand.tmp 3), type := 24, pos := "l17_make.go:60", after := #[], guard := none }) (v := ?_) rfl (by kernel_rfl) (by kernel_rfl) (by kernel_rfl) (fun _ _ _ h => h) (Or.inl ⟨by rfl, ?_⟩) (by assumption) ?_
          rotate_left
          · (intro w hSw; (try dsimp only at hSw); go_simp <;> try with_reducible rfl)
          try simp only [Act.put, List.setIfInBounds_toArray, List.set_cons_zero, List.set_cons_succ]
          refine wpAnyH_take (i := 4) (oi := { dst := some 29, op := Go.Op.fieldAddr 28 (Go.Operand.tmp 7) 0, type := 0, pos := "l17_make.go:60", after := #[], guard := none }) (v := ?_) rfl (by kernel_rfl) (by kernel_rfl) (by kernel_rfl) (fun _ _ _ h => h) (Or.inl ⟨by rfl, ?_⟩) (by assumption) ?_
          rotate_left
          · (intro w hSw; (try dsimp only at hSw); go_simp <;> try with_reducible rfl)
          try simp only [Act.put, List.setIfInBounds_toArray, List.set_cons_zero, List.set_cons_succ]
          refine wpAnyH_take (i := 5) (oi := { dst := some 30, op := Go.Op.load 3 (Go.Operand.tmp 29), type := 3, pos := "l17_make.go:60", after := #[{ on := 4, ground := Go.Ground.data }], guard := none }) (v := ?_) rfl (by kernel_rfl) (by kernel_rfl) (by kernel_rfl) (fun _ _ _ h => h) (Or.inl ⟨by rfl, ?_⟩) (by assumption) ?_
          rotate_left
          · (intro w hSw; (try dsimp only at hSw); go_simp <;> try with_reducible rfl)
          try simp only [Act.put, List.setIfInBounds_toArray, List.set_cons_zero, List.set_cons_succ]
          refine wpAnyH_take (i := 6) (oi := { dst := some 31, op := Go.Op.indexAddr 24 (Go.Operand.tmp 28) (Go.Operand.tmp 30), type := 0, pos := "l17_make.go:60", after := #[{ on := 3, ground := Go.Ground.data }, { on := 5, ground := Go.Ground.data }], guard := none }) (v := ?_) rfl (by kernel_rfl) (by kernel_rfl) (by kernel_rfl) (fun _ _ _ h => h) (Or.inl ⟨by rfl, ?_⟩) (by assumption) ?_
          rotate_left
          · (intro w hSw; (try dsimp only at hSw); go_simp <;> try with_reducible rfl)
          try simp only [Act.put, List.setIfInBounds_toArray, List.set_cons_zero, List.set_cons_succ]
          refine wpAnyH_take (i := 8) (oi := { dst := some 33, op := Go.Op.move (Go.Operand.tmp 3), type := 24, pos := "l17_make.go:60", after := #[], guard := none }) (v := ?_) rfl (by kernel_rfl) (by kernel_rfl) (by kernel_rfl) (fun _ _ _ h => h) (Or.inl ⟨by rfl, ?_⟩) (by assumption) ?_
          rotate_left
          · (intro w hSw; (try dsimp only at hSw); go_simp <;> try with_reducible rfl)
          try simp only [Act.put, List.setIfInBounds_toArray, List.set_cons_zero, List.set_cons_succ]
          refine wpAnyH_take (i := 9) (oi := { dst := some 34, op := Go.Op.move (Go.Operand.tmp 4), type := 3, pos := "l17_make.go:60", after := #[], guard := none }) (v := ?_) rfl (by kernel_rfl) (by kernel_rfl) (by kernel_rfl) (fun _ _ _ h => h) (Or.inl ⟨by rfl, ?_⟩) (by assumption) ?_
          rotate_left
          · (intro w hSw; (try dsimp only at hSw); go_simp <;> try with_reducible rfl)
          try simp only [Act.put, List.setIfInBounds_toArray, List.set_cons_zero, List.set_cons_succ]
          refine wpAnyH_take (i := 10) (oi := { dst := some 35, op := Go.Op.indexAddr 24 (Go.Operand.tmp 33) (Go.Operand.tmp 34), type := 0, pos := "l17_make.go:60", after := #[{ on := 8, ground := Go.Ground.data }, { on := 9, ground := Go.Ground.data }], guard := none }) (v := ?_) rfl (by kernel_rfl) (by kernel_rfl) (by kernel_rfl) (fun _ _ _ h => h) (Or.inl ⟨by rfl, ?_⟩) (by assumption) ?_
          rotate_left
          · (intro w hSw; (try dsimp only at hSw); go_simp <;> try with_reducible rfl)
          try simp only [Act.put, List.setIfInBounds_toArray, List.set_cons_zero, List.set_cons_succ]
          refine wpAnyH_take (i := 11) (oi := { dst := some 36, op := Go.Op.load 3 (Go.Operand.tmp 35), type := 3, pos := "l17_make.go:60", after := #[{ on := 10, ground := Go.Ground.data }], guard := none }) (v := ?_) rfl (by kernel_rfl) (by kernel_rfl) (by kernel_rfl) (fun _ _ _ h => h) (Or.inl ⟨by rfl, ?_⟩) (by assumption) ?_
          rotate_left
          · (intro w hSw; (try dsimp only at hSw); go_simp <;> try with_reducible rfl)
          try simp only [Act.put, List.setIfInBounds_toArray, List.set_cons_zero, List.set_cons_succ]
          refine wpAnyH_take (i := 12) (oi := { dst := some 37, op := Go.Op.binOp Go.BinOp.add 3 (Go.Operand.tmp 36) (Go.Operand.const (Go.Value.int Go.IntKind.i64 1)) 3, type := 3, pos := "l17_make.go:60", after := #[{ on := 11, ground := Go.Ground.data }], guard := none }) (v := ?_) rfl (by kernel_rfl) (by kernel_rfl) (by kernel_rfl) (fun _ _ _ h => h) (Or.inl ⟨by rfl, ?_⟩) (by assumption) ?_
          rotate_left
          · (intro w hSw; (try dsimp only at hSw); go_simp <;> try with_reducible rfl)
          try simp only [Act.put, List.setIfInBounds_toArray, List.set_cons_zero, List.set_cons_succ]
          refine wpAnyH_ready (rs := [7]) (by kernel_rfl) (by simp) ?_
          refine AllReadyH.cons (o := { dst := some 32, op := Go.Op.load 3 (Go.Operand.tmp 31), type := 3, pos := "l17_make.go:60", after := #[{ on := 6, ground := Go.Ground.data }], guard := none }) rfl (fun K hK => ?_) (AllReadyH.nil)
          have hce := HCE.out
          go_simp
          refine hK.out _ _ (by exact HX.out) (fun hHeld => ?_)
          clear hK K hce
          try simp only [Act.put, List.setIfInBounds_toArray, List.set_cons_zero, List.set_cons_succ]
          refine wpAnyH_take (i := 13) (oi := { dst := some 38, op := Go.Op.call { callee := Go.Callee.builtin Go.Builtin.max, args := #[Go.Operand.tmp 32, Go.Operand.tmp 37], argTypes := #[3, 3] }, type := 3, pos := "l17_make.go:60", after := #[{ on := 7, ground := Go.Ground.data }, { on := 12, ground := Go.Ground.data }], guard := none }) (v := ?_) rfl (by kernel_rfl) (by kernel_rfl) (by kernel_rfl) (fun _ _ _ h => h) (Or.inl ⟨by rfl, ?_⟩) (by assumption) ?_
          rotate_left
          · (intro w hSw; (try dsimp only at hSw); go_simp <;> try with_reducible rfl)
          try simp only [Act.put, List.setIfInBounds_toArray, List.set_cons_zero, List.set_cons_succ]
          refine wpAnyH_take (i := 14) (oi := { dst := some 39, op := Go.Op.indexAddr 24 (Go.Operand.tmp 25) (Go.Operand.tmp 27), type := 0, pos := "l17_make.go:60", after := #[{ on := 0, ground := Go.Ground.data }, { on := 2, ground := Go.Ground.data }, { on := 0, ground := Go.Ground.phase }, { on := 1, ground := Go.Ground.phase }, { on := 2, ground := Go.Ground.phase }, { on := 3, ground := Go.Ground.phase }, { on := 4, ground := Go.Ground.phase }, { on := 5, ground := Go.Ground.phase }, { on := 6, ground := Go.Ground.phase }, { on := 7, ground := Go.Ground.phase }, { on := 8, ground := Go.Ground.phase }, { on := 9, ground := Go.Ground.phase }, { on := 10, ground := Go.Ground.phase }, { on := 11, ground := Go.Ground.phase }, { on := 12, ground := Go.Ground.phase }, { on := 13, ground := Go.Ground.phase }], guard := none }) (v := ?_) rfl (by kernel_rfl) (by kernel_rfl) (by kernel_rfl) (fun _ _ _ h => h) (Or.inl ⟨by rfl, ?_⟩) (by assumption) ?_
          rotate_left
          · (intro w hSw; (try dsimp only at hSw); go_simp <;> try with_reducible rfl)
          try simp only [Act.put, List.setIfInBounds_toArray, List.set_cons_zero, List.set_cons_succ]
          refine wpAnyH_ready (rs := [15]) (by kernel_rfl) (by simp) ?_
          refine AllReadyH.cons (o := { dst := none, op := Go.Op.store 3 (Go.Operand.tmp 39) (Go.Operand.tmp 38), type := 0, pos := "l17_make.go:60", after := #[{ on := 14, ground := Go.Ground.data }, { on := 13, ground := Go.Ground.data }, { on := 0, ground := Go.Ground.phase }, { on := 1, ground := Go.Ground.phase }, { on := 2, ground := Go.Ground.phase }, { on := 3, ground := Go.Ground.phase }, { on := 4, ground := Go.Ground.phase }, { on := 5, ground := Go.Ground.phase }, { on := 6, ground := Go.Ground.phase }, { on := 7, ground := Go.Ground.phase }, { on := 8, ground := Go.Ground.phase }, { on := 9, ground := Go.Ground.phase }, { on := 10, ground := Go.Ground.phase }, { on := 11, ground := Go.Ground.phase }, { on := 12, ground := Go.Ground.phase }, { on := 13, ground := Go.Ground.phase }], guard := none }) rfl (fun K hK => ?_) (AllReadyH.nil)
          have hce := HCE.out
          go_simp
          refine hK.out _ _ (by exact HY.out) (fun hHeld => ?_)
          clear hK K hce
          try simp only [Act.put, List.setIfInBounds_toArray, List.set_cons_zero, List.set_cons_succ]
          refine wpAnyH_done (by kernel_rfl) ?_ _
          refine NoPanic.normal ?_
          clear hHeld HX HY HCE
          have HN : Hid (IB (W9.setCell ⟨LB, P, none⟩ (.int .i64 MX)).drew LB n (lvP L k z (q + 1)) ∧ Below w.heap.size w (W9.setCell ⟨LB, P, none⟩ (.int .i64 MX)).drew) := hid ⟨IB.dr (by rw [HST.out]; exact HQ2.out.1.set hPn MX), (HQ2.out.2.setCell (by rw [HLB.out]; exact Nat.le_refl _) _).drew⟩
          clear HQ2 fa
          generalize (W9.setCell ⟨LB, P, none⟩ (.int .i64 MX)).drew = W10 at HN ⊢
          go_wp2
          go_roundw
          case rel => exact ⟨q + 1, by omega, by go_num, HN⟩
          case measure => simp [intOf]; omega
        · obtain rfl : q = m := by omega
          have lqq : ¬ (q : Int) < (q : Int) := by omega
          have HN : Hid (IB wi LB n (lvS c (k + 1)) ∧ Below w.heap.size w wi) := hid ⟨by rw [HNX.out]; exact HQ.out.1, HQ.out.2⟩
          clear HQ
          go_wp2
          go_roundw
          case rel => exact ⟨k + 1, by omega, by go_num, HN⟩
          case measure => simp [intOf]; omega
    · obtain rfl : k = n := by omega
      have lkk : ¬ (k : Int) < (k : Int) := by omega
      go_wp2
      go_returns
      exact ⟨by rw [HLB.out]; rfl, by rw [HLB.out]; exact HH.out.1, HH.out.2⟩
theorem l9Max_eq (a b v : Int) (w : World) (h : max a b = v) : Calls Try.prog 113 #[.int .i64 a, .int .i64 b] w fun e w' => e = .returned (.int .i64 v) ∧ w' = w := by
  subst h; exact l9Max_any a b w
set_option maxRecDepth 20000 in
set_option maxHeartbeats 8000000 in
theorem l17Levels_any (ad : Option Addr) (n cap : Nat) (c : Nat → IT) (w : World) (h : (n : Int) ≤ 60) (hr : ITr w ad n c) (hl : LvOk n c) :
    Calls Try.prog 72 #[.slice ad n cap] w fun e w' => e = .returned (.slice (some ⟨w.heap.size, 0, none⟩) n n) ∧ IB w' w.heap.size n (lvS c n) ∧ Below w.heap.size w w' := by
  have HR : Hid (ITr w ad n c) := hr
  have HL : Hid (LvOk n c) := hl
  have hmk := mkI n (by omega)
  clear hr hl
  go_enter Try.func72, Try.ntmps72
  go_wp2
  obtain ⟨LB, hLB⟩ : ∃ B, w.heap.size = B := ⟨_, rfl⟩
  have HLB : Hid (w.heap.size = LB) := hLB
  have HI0 : Hid (IB (w.alloc (.cells (zeros n) 3)) LB n (lvS c 0) ∧ Below w.heap.size w (w.alloc (.cells (zeros n) 3))) := hid ⟨⟨zeros n, CB.newAt hLB _ _, fun j hj => zeros_get hj⟩, (Below.refl _ _).alloc (Nat.le_refl _) _⟩
  rw [hLB]
  clear hmk hLB
  go_loopw [4] (fun i wr => ∃ (k : Nat), k ≤ n ∧ i = .int .i64 (k : Int) ∧ Hid (IB wr LB n (lvS c k) ∧ Below w.heap.size w wr)) (fun i _ => n - (intOf i).toNat)
  case atStart => exact ⟨0, Nat.zero_le _, rfl, HI0⟩
  case round =>
    clear HI0
    obtain ⟨k, hk, rfl, HH⟩ := hrel
    obtain ⟨wo, rfl⟩ : ∃ x, x = wr := ⟨wr, rfl⟩
    by_cases hlt : k < n
    · have hlt2 : (k : Int) < (n : Int) := by omega
      obtain ⟨kb, off, rfl, hkb⟩ := HR.out.addr (by omega)
      obtain ⟨ra, rc, sa, sc, _, _, c0, c1, c2, c3, c4, r5, r6⟩ := HR.out.cell hlt
      have hlk := HL.out k hlt
      have HLK : Hid ((c k).parn ≤ 30 ∧ ∀ q, q < (c k).parn → (k : Int) + 1 ≤ ((c k).parz q).item ∧ ((c k).parz q).item ≤ (n : Int) - 1) := hlk
      have hm30 : ((c k).parn : Int) ≤ 30 := by omega
      have HBD : Hid (∀ q, q ≤ (c k).parn → ∀ j, 0 ≤ lvP (lvS c k) k (c k).parz q j ∧ lvP (lvS c k) k (c k).parz q j ≤ (k : Int) + 1) := hid (fun q hq => lvM_bd HL.out hlt hq)
      have HNX : Hid (lvS c (k + 1) = lvP (lvS c k) k (c k).parz (c k).parn) := rfl
      have HR5 : Hid (PAr w ra (c k).parn (c k).parz) := r5
      have HI1 : Hid (IB wo LB n (lvP (lvS c k) k (c k).parz 0) ∧ Below w.heap.size w wo) := HH.out
      clear hlk r5 r6 HH c0 c1 c2 c4
      generalize lvS c k = L at HBD HNX HI1
      generalize (c k).parz = z at HLK HBD HNX HR5 HI1
      generalize (c k).parn = m at c3 HLK HBD HNX HR5 hm30
      have HC3 : Hid (w.cell? ⟨kb, off + k * 5 + 3, none⟩ = some (.slice ra m rc)) := c3
      clear c3
      go_wp2
      go_loopw [5] (fun i wr => ∃ (q : Nat), q ≤ m ∧ i = .int .i64 (q : Int) ∧ Hid (IB wr LB n (lvP L k z q) ∧ Below w.heap.size w wr)) (fun i _ => m - (intOf i).toNat)
      case atStart => exact ⟨0, Nat.zero_le _, rfl, HI1⟩
      case round =>
        clear HI1
        obtain ⟨q, hq, rfl, HQ⟩ := hrel
        obtain ⟨wi, rfl⟩ : ∃ x, x = wr := ⟨wr, rfl⟩
        have c3 := keep_cell HQ.out.2 HC3.out
        by_cases hlq : q < m
        · have hlq2 : (q : Int) < (m : Int) := by omega
          obtain ⟨pb, po, rfl, _⟩ := HR5.out.addr (by omega)
          obtain ⟨d0, _⟩ := (HR5.out.below HQ.out.2).cell hlq
          obtain ⟨p1, p2⟩ := HLK.out.2 q hlq
          obtain ⟨P, hP⟩ : ∃ P : Nat, (z q).item = (P : Int) := ⟨(z q).item.toNat, by omega⟩
          rw [hP] at d0 p1 p2
          have hPn : P < n := by omega
          have hPn2 : (P : Int) < (n : Int) := by omega
          have hkP : k ≠ P := by omega
          have HA := HBD.out q hq P
          have HE := HBD.out q hq k
          have HST : Hid (lvP L k z (q + 1) = upI (lvP L k z q) P (max (lvP L k z q P) (lvP L k z q k + 1))) := hid (by show upI _ (z q).item.toNat _ = _; rw [hP]; rfl)
          have ca := HQ.out.1.cell hPn
          have cb := HQ.out.1.cell hlt
          obtain ⟨A, hA⟩ : ∃ A, lvP L k z q P = A := ⟨_, rfl⟩
          obtain ⟨E, hE⟩ : ∃ A, lvP L k z q k = A := ⟨_, rfl⟩
          rw [hA] at ca HA HST
          have HEE : Hid (lvP L k z q k = E) := hE
          rw [hE] at cb HE HST
          obtain ⟨MX, hMX⟩ : ∃ M, max A (E + 1) = M := ⟨_, rfl⟩
          rw [hMX] at HST
          have HMX : Hid (max A (E + 1) = MX) := hMX
          have hwE : IntKind.i64.wrap (E + 1) = E + 1 := IntWalk.i64_in _ ⟨by omega, by omega⟩
          clear hP p1 p2 hA hE hMX
          go_wp2
          have fa := HQ.out.1.fr P
          have HX : Hid (wi.drew.cell? ⟨LB, k, none⟩ = some (.int .i64 E)) := cb
          have HY : Hid ((wi.setCell ⟨LB, P, none⟩ (.int .i64 MX)).drew.cell? ⟨LB, k, none⟩ = some (.int .i64 E)) := hid (by have := (HQ.out.1.set hPn MX).cell hlt; rw [upI_ne hkP, HEE.out] at this; exact this)
          have HCE : Hid (wi.drew.cell? ⟨LB, P, none⟩ = some (.int .i64 A)) := ca
          clear cb ca d0 c3
          refine wp_region_noPanic ?_
          refine wp_region_held_drew (S := fun w' => w'.cell? ⟨LB, k, none⟩ = some (.int .i64 E)) (by kernel_rfl) (by exact HX.out) (fun hHeld => ?_)
          refine wpAnyH_take (i := 0) (oi := { dst := some 35, op := Go.Op.move (Go.Operand.tmp 3), type := 24, pos := "l17_make.go:15", after := #[], guard := none }) (v := ?_) rfl (by kernel_rfl) (by kernel_rfl) (by kernel_rfl) (fun _ _ _ h => h) (Or.inl ⟨by rfl, ?_⟩) (by assumption) ?_
          rotate_left
          · (intro w hSw; (try dsimp only at hSw); go_simp <;> try with_reducible rfl)
          try simp only [Act.put, List.setIfInBounds_toArray, List.set_cons_zero, List.set_cons_succ]
          refine wpAnyH_take (i := 1) (oi := { dst := some 36, op := Go.Op.move (Go.Operand.tmp 6), type := 3, pos := "l17_make.go:15", after := #[], guard := none }) (v := ?_) rfl (by kernel_rfl) (by kernel_rfl) (by kernel_rfl) (fun _ _ _ h => h) (Or.inl ⟨by rfl, ?_⟩) (by assumption) ?_
          rotate_left
          · (intro w hSw; (try dsimp only at hSw); go_simp <;> try with_reducible rfl)
          try simp only [Act.put, List.setIfInBounds_toArray, List.set_cons_zero, List.set_cons_succ]
          refine wpAnyH_take (i := 2) (oi := { dst := some 37, op := Go.Op.move (Go.Operand.tmp 3), type := 24, pos := "l17_make.go:15", after := #[], guard := none }) (v := ?_) rfl (by kernel_rfl) (by kernel_rfl) (by kernel_rfl) (fun _ _ _ h => h) (Or.inl ⟨by rfl, ?_⟩) (by assumption) ?_
          rotate_left
          · (intro w hSw; (try dsimp only at hSw); go_simp <;> try with_reducible rfl)
          try simp only [Act.put, List.setIfInBounds_toArray, List.set_cons_zero, List.set_cons_succ]
          refine wpAnyH_take (i := 3) (oi := { dst := some 38, op := Go.Op.move (Go.Operand.tmp 6), type := 3, pos := "l17_make.go:15", after := #[], guard := none }) (v := ?_) rfl (by kernel_rfl) (by kernel_rfl) (by kernel_rfl) (fun _ _ _ h => h) (Or.inl ⟨by rfl, ?_⟩) (by assumption) ?_
          rotate_left
          · (intro w hSw; (try dsimp only at hSw); go_simp <;> try with_reducible rfl)
          try simp only [Act.put, List.setIfInBounds_toArray, List.set_cons_zero, List.set_cons_succ]
          refine wpAnyH_take (i := 4) (oi := { dst := some 39, op := Go.Op.indexAddr 24 (Go.Operand.tmp 37) (Go.Operand.tmp 38), type := 0, pos := "l17_make.go:15", after := #[{ on := 2, ground := Go.Ground.data }, { on := 3, ground := Go.Ground.data }], guard := none }) (v := ?_) rfl (by kernel_rfl) (by kernel_rfl) (by kernel_rfl) (fun _ _ _ h => h) (Or.inl ⟨by rfl, ?_⟩) (by assumption) ?_
          rotate_left
          · (intro w hSw; (try dsimp only at hSw); go_simp <;> try with_reducible rfl)
          try simp only [Act.put, List.setIfInBounds_toArray, List.set_cons_zero, List.set_cons_succ]
          refine wpAnyH_take (i := 6) (oi := { dst := some 41, op := Go.Op.move (Go.Operand.tmp 3), type := 24, pos := "l17_make.go:15", after := #[], guard := none }) (v := ?_) rfl (by kernel_rfl) (by kernel_rfl) (by kernel_rfl) (fun _ _ _ h => h) (Or.inl ⟨by rfl, ?_⟩) (by assumption) ?_
          rotate_left
          · (intro w hSw; (try dsimp only at hSw); go_simp <;> try with_reducible rfl)
          try simp only [Act.put, List.setIfInBounds_toArray, List.set_cons_zero, List.set_cons_succ]
          refine wpAnyH_take (i := 7) (oi := { dst := some 42, op := Go.Op.move (Go.Operand.tmp 4), type := 3, pos := "l17_make.go:15", after := #[], guard := none }) (v := ?_) rfl (by kernel_rfl) (by kernel_rfl) (by kernel_rfl) (fun _ _ _ h => h) (Or.inl ⟨by rfl, ?_⟩) (by assumption) ?_
          rotate_left
          · (intro w hSw; (try dsimp only at hSw); go_simp <;> try with_reducible rfl)
          try simp only [Act.put, List.setIfInBounds_toArray, List.set_cons_zero, List.set_cons_succ]
          refine wpAnyH_take (i := 8) (oi := { dst := some 43, op := Go.Op.indexAddr 24 (Go.Operand.tmp 41) (Go.Operand.tmp 42), type := 0, pos := "l17_make.go:15", after := #[{ on := 6, ground := Go.Ground.data }, { on := 7, ground := Go.Ground.data }], guard := none }) (v := ?_) rfl (by kernel_rfl) (by kernel_rfl) (by kernel_rfl) (fun _ _ _ h => h) (Or.inl ⟨by rfl, ?_⟩) (by assumption) ?_
          rotate_left
          · (intro w hSw; (try dsimp only at hSw); go_simp <;> try with_reducible rfl)
          try simp only [Act.put, List.setIfInBounds_toArray, List.set_cons_zero, List.set_cons_succ]
          refine wpAnyH_take (i := 9) (oi := { dst := some 44, op := Go.Op.load 3 (Go.Operand.tmp 43), type := 3, pos := "l17_make.go:15", after := #[{ on := 8, ground := Go.Ground.data }], guard := none }) (v := ?_) rfl (by kernel_rfl) (by kernel_rfl) (by kernel_rfl) (fun _ _ _ h => h) (Or.inl ⟨by rfl, ?_⟩) (by assumption) ?_
          rotate_left
          · (intro w hSw; (try dsimp only at hSw); go_simp <;> try with_reducible rfl)
          try simp only [Act.put, List.setIfInBounds_toArray, List.set_cons_zero, List.set_cons_succ]
          refine wpAnyH_take (i := 10) (oi := { dst := some 45, op := Go.Op.binOp Go.BinOp.add 3 (Go.Operand.tmp 44) (Go.Operand.const (Go.Value.int Go.IntKind.i64 1)) 3, type := 3, pos := "l17_make.go:15", after := #[{ on := 9, ground := Go.Ground.data }], guard := none }) (v := ?_) rfl (by kernel_rfl) (by kernel_rfl) (by kernel_rfl) (fun _ _ _ h => h) (Or.inl ⟨by rfl, ?_⟩) (by assumption) ?_
          rotate_left
          · (intro w hSw; (try dsimp only at hSw); go_simp <;> try with_reducible rfl)
          try simp only [Act.put, List.setIfInBounds_toArray, List.set_cons_zero, List.set_cons_succ]
          refine wpAnyH_ready (rs := [5]) (by kernel_rfl) (by simp) ?_
          refine AllReadyH.cons (o := { dst := some 40, op := Go.Op.load 3 (Go.Operand.tmp 39), type := 3, pos := "l17_make.go:15", after := #[{ on := 4, ground := Go.Ground.data }], guard := none }) rfl (fun K hK => ?_) (AllReadyH.nil)
          have hce := HCE.out
          go_simp
          refine hK.out _ _ (by exact HX.out) (fun hHeld => ?_)
          clear hK K hce
          try simp only [Act.put, List.setIfInBounds_toArray, List.set_cons_zero, List.set_cons_succ]
          refine wpAnyH_ready (rs := [11]) (by kernel_rfl) (by simp) ?_
          refine AllReadyH.cons (o := { dst := some 46, op := Go.Op.call { callee := Go.Callee.value (Go.Operand.func 113), args := #[Go.Operand.tmp 40, Go.Operand.tmp 45], argTypes := #[3, 3] }, type := 3, pos := "l17_make.go:15", after := #[{ on := 5, ground := Go.Ground.data }, { on := 10, ground := Go.Ground.data }], guard := none }) rfl (fun K hK => ?_) (AllReadyH.nil)
          go_simp
          refine (l9Max_eq A (E + 1) MX _ HMX.out).mono ?_
          rintro e w9 ⟨rfl, ew⟩
          replace ew := ew.symm
          subst ew
          refine hK.out _ _ (by exact HX.out) (fun hHeld => ?_)
          clear hK K
          try simp only [Act.put, List.setIfInBounds_toArray, List.set_cons_zero, List.set_cons_succ]
          refine wpAnyH_take (i := 12) (oi := { dst := some 47, op := Go.Op.indexAddr 24 (Go.Operand.tmp 35) (Go.Operand.tmp 36), type := 0, pos := "l17_make.go:15", after := #[{ on := 0, ground := Go.Ground.data }, { on := 1, ground := Go.Ground.data }, { on := 0, ground := Go.Ground.phase }, { on := 1, ground := Go.Ground.phase }, { on := 2, ground := Go.Ground.phase }, { on := 3, ground := Go.Ground.phase }, { on := 4, ground := Go.Ground.phase }, { on := 5, ground := Go.Ground.phase }, { on := 6, ground := Go.Ground.phase }, { on := 7, ground := Go.Ground.phase }, { on := 8, ground := Go.Ground.phase }, { on := 9, ground := Go.Ground.phase }, { on := 10, ground := Go.Ground.phase }, { on := 11, ground := Go.Ground.phase }], guard := none }) (v := ?_) rfl (by kernel_rfl) (by kernel_rfl) (by kernel_rfl) (fun _ _ _ h => h) (Or.inl ⟨by rfl, ?_⟩) (by assumption) ?_
          rotate_left
          · (intro w hSw; (try dsimp only at hSw); go_simp <;> try with_reducible rfl)
          try simp only [Act.put, List.setIfInBounds_toArray, List.set_cons_zero, List.set_cons_succ]
          refine wpAnyH_ready (rs := [13]) (by kernel_rfl) (by simp) ?_
          refine AllReadyH.cons (o := { dst := none, op := Go.Op.store 3 (Go.Operand.tmp 47) (Go.Operand.tmp 46), type := 0, pos := "l17_make.go:15", after := #[{ on := 12, ground := Go.Ground.data }, { on := 11, ground := Go.Ground.data }, { on := 11, ground := Go.Ground.chain }, { on := 0, ground := Go.Ground.phase }, { on := 1, ground := Go.Ground.phase }, { on := 2, ground := Go.Ground.phase }, { on := 3, ground := Go.Ground.phase }, { on := 4, ground := Go.Ground.phase }, { on := 5, ground := Go.Ground.phase }, { on := 6, ground := Go.Ground.phase }, { on := 7, ground := Go.Ground.phase }, { on := 8, ground := Go.Ground.phase }, { on := 9, ground := Go.Ground.phase }, { on := 10, ground := Go.Ground.phase }, { on := 11, ground := Go.Ground.phase }], guard := none }) rfl (fun K hK => ?_) (AllReadyH.nil)
          have hce := HCE.out
          go_simp
          refine hK.out _ _ (by exact HY.out) (fun hHeld => ?_)
          clear hK K hce
          try simp only [Act.put, List.setIfInBounds_toArray, List.set_cons_zero, List.set_cons_succ]
          refine wpAnyH_done (by kernel_rfl) ?_ _
          refine NoPanic.normal ?_
          clear hHeld HX HY HCE
          have HN : Hid (IB (wi.setCell ⟨LB, P, none⟩ (.int .i64 MX)).drew LB n (lvP L k z (q + 1)) ∧ Below w.heap.size w (wi.setCell ⟨LB, P, none⟩ (.int .i64 MX)).drew) := hid ⟨IB.dr (by rw [HST.out]; exact HQ.out.1.set hPn MX), (HQ.out.2.setCell (by rw [HLB.out]; exact Nat.le_refl _) _).drew⟩
          clear HQ fa
          generalize (wi.setCell ⟨LB, P, none⟩ (.int .i64 MX)).drew = W10 at HN ⊢
          go_wp2
          go_roundw
          case rel => exact ⟨q + 1, by omega, by go_num, HN⟩
          case measure => simp [intOf]; omega
        · obtain rfl : q = m := by omega
          have lqq : ¬ (q : Int) < (q : Int) := by omega
          have HN : Hid (IB wi LB n (lvS c (k + 1)) ∧ Below w.heap.size w wi) := hid ⟨by rw [HNX.out]; exact HQ.out.1, HQ.out.2⟩
          clear HQ
          go_wp2
          go_roundw
          case rel => exact ⟨k + 1, by omega, by go_num, HN⟩
          case measure => simp [intOf]; omega
    · obtain rfl : k = n := by omega
      have lkk : ¬ (k : Int) < (k : Int) := by omega
      go_wp2
      go_returns
      exact ⟨by rw [HLB.out]; rfl, by rw [HLB.out]; exact HH.out.1, HH.out.2⟩
set_option maxRecDepth 20000 in
set_option maxHeartbeats 2000000 in
theorem maxI_any (ad : Option Addr) (n cap : Nat) (z : Nat → Int) (w : World) (h0 : 0 < n) (h : (n : Int) ≤ 1048576) (hr : IR w ad n z) :
    Calls Try.prog 91 #[.slice ad n cap] w fun e w' => ∃ m : Int, e = .returned (.int .i64 m) ∧ ((∀ j, j < n → z j ≤ m) ∧ ∃ j, j < n ∧ z j = m) ∧ Below w.heap.size w w' := by
  have HR : Hid (IR w ad n z) := hr
  clear hr
  obtain ⟨kb, off, rfl, hkb⟩ := HR.out.addr h0
  have c0 := HR.out.cell h0
  have h1 : ¬ (n : Int) < 1 := by omega
  have h2 : (0 : Int) < (n : Int) := by omega
  obtain ⟨Z, hZ⟩ : ∃ x, z 0 = x := ⟨_, rfl⟩
  have HZ : Hid (z 0 = Z) := hZ
  rw [hZ] at c0
  simp only [Nat.add_zero] at c0
  clear hZ
  go_enter Try.func91, Try.ntmps91
  go_wp2
  go_loopw [3, 4] (fun v i wr => ∃ (k : Nat) (m : Int), 1 ≤ k ∧ k ≤ n ∧ i = .int .i64 (k : Int) ∧ v = .int .i64 m ∧ Hid ((∀ j, j < k → z j ≤ m) ∧ (∃ j, j < k ∧ z j = m) ∧ Below w.heap.size w wr)) (fun _ i _ => n - (intOf i).toNat)
  case atStart => exact ⟨1, Z, Nat.le_refl _, h0, rfl, rfl, hid ⟨fun j hj => (by obtain rfl : j = 0 := (by omega); rw [HZ.out]; exact Int.le_refl _), ⟨0, by omega, HZ.out⟩, Below.refl _ _⟩⟩
  case round =>
    obtain ⟨k, m, hk1, hk, rfl, rfl, HH⟩ := hrel
    by_cases hlt : k < n
    · have hlt2 : (k : Int) < (n : Int) := by omega
      have ck := keep_cell HH.out.2.2 (HR.out.cell hlt)
      obtain ⟨A, hA⟩ : ∃ x, z k = x := ⟨_, rfl⟩
      rw [hA] at ck
      obtain ⟨MX, hMX⟩ : ∃ M, max m A = M := ⟨_, rfl⟩
      have hmx1 : (if m < A then A else m) = MX := by rw [← hMX]; split <;> omega
      have HN : Hid ((∀ j, j < k + 1 → z j ≤ MX) ∧ (∃ j, j < k + 1 ∧ z j = MX) ∧ Below w.heap.size w wr) := by
        refine hid ⟨fun j hj => ?_, ?_, HH.out.2.2⟩
        · by_cases e : j = k
          · subst e; omega
          · have := HH.out.1 j (by omega); omega
        · by_cases e : m ≤ A
          · exact ⟨k, by omega, by omega⟩
          · obtain ⟨j, hj, e2⟩ := HH.out.2.1
            exact ⟨j, by omega, by omega⟩
      clear hA hMX HH
      go_wp2
      go_roundw
      case rel => exact ⟨k + 1, MX, by omega, by omega, by go_num, rfl, HN⟩
      case measure => simp [intOf]; omega
    · obtain rfl : k = n := by omega
      have lkk : ¬ (k : Int) < (k : Int) := by omega
      go_wp2
      go_returns
      exact ⟨m, rfl, ⟨HH.out.1, HH.out.2.1⟩, HH.out.2.2⟩
end Go.Proofs.Ytmbdeafpfdeigaa
