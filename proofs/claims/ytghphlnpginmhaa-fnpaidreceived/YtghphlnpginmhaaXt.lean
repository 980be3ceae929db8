/- Tolerances that are drawn: l12DrawTol. -/
import Derived.Test.YtghphlnpginmhaaXe
import Derived.Test.YtghphlnpginmhaaXq
namespace Go.Proofs.Ytghphlnpginmhaa
open Go Go.ChangeShapes Go.WideShapes Go.ChangeAt Go.RowKit
set_option linter.unusedVariables false
set_option linter.unusedSimpArgs false

theorem IntRow.madeAt {w : World} {b k : Nat} (hk : w.heap.size = k) (hb : b < w.heap.size) (cs : Array Value) (t : TypeId) (zs : List Int) (hz : cs.toList = zs.map (Value.int .i64)) : IntRow (w.alloc (.cells cs t)) b (some ⟨k, 0, none⟩) zs := hk ▸ IntRow.made hb cs t zs hz
/-- The cursor, and the cell of the result. -/
def TR (b : Nat) (w W : World) : Prop := Cursor W b ∧ Turns b w W ∧ CB W w.heap.size #[.int .i64 0, .int .i64 0, .int .i64 0] 40 ∧ b < w.heap.size
theorem TR.alloc {b : Nat} {w W : World} (h : TR b w W) (o : Obj) : TR b w (W.alloc o) := ⟨h.1.alloc o, h.2.1.alloc o, h.2.2.1.alloc o, h.2.2.2⟩
theorem TR.moved {b : Nat} {w W W' : World} (h : TR b w W) (m : Moved b W W') : TR b w W' := ⟨m.1, h.2.1.trans m.2, h.2.2.1.turns m.2 (by have := h.2.2.2; omega), h.2.2.2⟩
/-- And the local of the tolerance. -/
def TL (b : Nat) (w : World) (tb : Nat) (o p l : Int) (W : World) : Prop := TR b w W ∧ CB W tb #[.int .i64 o, .int .i64 p, .int .i64 l] 40 ∧ w.heap.size < tb
theorem TL.alloc {b : Nat} {w W : World} {tb : Nat} {o p l : Int} (h : TL b w tb o p l W) (x : Obj) : TL b w tb o p l (W.alloc x) := ⟨h.1.alloc x, h.2.1.alloc x, h.2.2⟩
theorem TL.moved {b : Nat} {w W W' : World} {tb : Nat} {o p l : Int} (h : TL b w tb o p l W) (m : Moved b W W') : TL b w tb o p l W' := ⟨h.1.moved m, h.2.1.turns m.2 (by have := h.1.2.2.2; have := h.2.2; omega), h.2.2⟩
theorem TR.put {b : Nat} {w W : World} (h : TR b w W) {tb : Nat} (ht : w.heap.size < tb) (o : Nat) (u : Value) : TR b w (W.setCell ⟨tb, o, none⟩ u) := by
  have hb := h.2.2.2
  exact ⟨h.1.low (by simp) (fun y hy => Below.heap_setCell _ _ _ _ (by show y ≠ tb; omega)), ⟨h.2.1.os, h.2.1.tape, h.2.1.output, by simpa using h.2.1.size, fun y hy hyb => (Below.heap_setCell _ _ _ _ (by show y ≠ tb; omega)).trans (h.2.1.block y hy hyb)⟩, CB.other h.2.2.1 _ (by omega), h.2.2.2⟩
theorem TL.put0 {b : Nat} {w W : World} {tb : Nat} {o p l : Int} (h : TL b w tb o p l W) (x : Int) : TL b w tb x p l (W.setCell ⟨tb, 0, none⟩ (.int .i64 x)) := ⟨h.1.put h.2.2 _ _, h.2.1.set _ _, h.2.2⟩
theorem TL.put2 {b : Nat} {w W : World} {tb : Nat} {o p l : Int} (h : TL b w tb o p l W) (x : Int) : TL b w tb o p x (W.setCell ⟨tb, 2, none⟩ (.int .i64 x)) := ⟨h.1.put h.2.2 _ _, h.2.1.set _ _, h.2.2⟩
theorem TL.fin {b : Nat} {w W : World} {tb : Nat} {o p l : Int} (h : TL b w tb o p l W) : Moved b w (((W.setCell ⟨w.heap.size, 0, none⟩ (.int .i64 o)).setCell ⟨w.heap.size, 1, none⟩ (.int .i64 p)).setCell ⟨w.heap.size, 2, none⟩ (.int .i64 l)) ∧ CB (((W.setCell ⟨w.heap.size, 0, none⟩ (.int .i64 o)).setCell ⟨w.heap.size, 1, none⟩ (.int .i64 p)).setCell ⟨w.heap.size, 2, none⟩ (.int .i64 l)) w.heap.size #[.int .i64 o, .int .i64 p, .int .i64 l] 40 := by
  have hb := h.1.2.2.2
  have st : ∀ (V : World) (i : Nat) (u : Value), Moved b w V → Moved b w (V.setCell ⟨w.heap.size, i, none⟩ u) := fun V i u m =>
    ⟨m.1.low (by simp) (fun y hy => Below.heap_setCell _ _ _ _ (by show y ≠ w.heap.size; omega)), ⟨m.2.os, m.2.tape, m.2.output, by simpa using m.2.size, fun y hy hyb => (Below.heap_setCell _ _ _ _ (by show y ≠ w.heap.size; omega)).trans (m.2.block y hy hyb)⟩⟩
  exact ⟨st _ _ _ (st _ _ _ (st _ _ _ ⟨h.1.1, h.1.2.1⟩)), ((h.1.2.2.1.set 0 _).set 1 _).set 2 _⟩
set_option maxRecDepth 20000 in
set_option maxHeartbeats 8000000 in
theorem drawTol_any (b : Nat) (w : World) (hc : Cursor w b) :
    Calls Try.prog 77 #[.pointer (some ⟨b, 0, none⟩)] w fun e w' => ∃ o p l : Int, e = .returned (.agg #[.int .i64 o, .int .i64 p, .int .i64 l]) ∧ Moved b w w' := by
  have R0 : Hid (TR b w (w.alloc (.cells #[.int .i64 0, .int .i64 0, .int .i64 0] 40 (0, 0)))) := hid ⟨hc.alloc _, (Turns.refl _ _).alloc _, CB.new _ _, hc.lt⟩
  clear hc
  have tk1 : True := trivial
  have tk2 : True := trivial
  have tk3 : True := trivial
  have tk4 : True := trivial
  have tk5 : True := trivial
  have tk6 : True := trivial
  go_enter Try.func77, Try.ntmps77
  go_wp2_with (first
    | (go_at_call 75; clear tk1; refine (pick_any b _ [0, 0, 50, 100, 1000] _ _ _ (R0.out.alloc _).1 (IntRow.madeAt (by simp) R0.out.1.lt _ _ _ rfl) rfl (by decide) (by decide)).mono ?_; rintro e w1 ⟨o, rfl, hv, m5⟩; have R1 := hid ((R0.out.alloc _).moved m5); clear m5 hv)
    | (go_at_call 75; clear tk2; refine (pick_any b _ [0, 20, 50] _ _ _ (R1.out.alloc _).1 (IntRow.madeAt (by simp) R1.out.1.lt _ _ _ rfl) rfl (by decide) (by decide)).mono ?_; rintro e w2 ⟨p, rfl, hv, m5⟩; have R2 := hid ((R1.out.alloc _).moved m5); clear m5 hv)
    | (go_at_call 59; clear tk3; refine (below_any b _ _ R2.out.1).mono ?_; rintro e w3 ⟨x, rfl, x0, x1, _, m3⟩; have x2 := x1 (by decide); have R3 := hid (R2.out.moved m3); clear m3 x1)
    | (go_at_call 59; clear tk4; refine (below_any b _ _ R3.out.1).mono ?_; rintro e w4 ⟨y, rfl, y0, x1, _, m3⟩; have y2 := x1 (by decide); have R4 := hid (R3.out.moved m3); clear m3 x1; have hxy0 : 0 ≤ x * y := Int.mul_nonneg x0 y0; have hxy1 : x * y ≤ 398 := (by have := Int.mul_le_mul (show x ≤ 2 by omega) (show y ≤ 199 by omega) y0 (by decide); omega); have hz4 : w.heap.size < w4.heap.size := (lt_of_block R4.out.2.2.1); have L4 : Hid (TL b w w4.heap.size o p (x * y) (w4.alloc (.cells #[.int .i64 o, .int .i64 p, .int .i64 (x * y)] 40 (0, 0)))) := hid ⟨R4.out.alloc _, CB.new _ _, hz4⟩; have k0 := (L4.out.2.1.cell 0).trans rfl; clear hz4)
    | (go_at_call 129; clear tk5; refine (spoil_any b _ _ [-1, 1001] _ _ _ (L4.out.alloc _).1.1 (IntRow.madeAt (by simp) L4.out.1.1.lt _ _ _ rfl) rfl (by decide) (by decide)).mono ?_; rintro e w5 ⟨o2, rfl, hv, m5⟩; have L5 := hid ((L4.out.alloc _).moved m5); have e0 := (L5.out.2.1.cell 0).trans rfl; have e2 := (L5.out.2.1.cell 2).trans rfl; have f0 := L5.out.2.1.fr 0; have L6 := hid (L5.out.put0 o2); clear m5 hv k0)
    | (go_at_call 129; clear tk6 e0 e2 f0; refine (spoil_any b _ _ [-1, 100000000001] _ _ _ (L6.out.alloc _).1.1 (IntRow.madeAt (by simp) L6.out.1.1.lt _ _ _ rfl) rfl (by decide) (by decide)).mono ?_; rintro e w6 ⟨l2, rfl, hv, m5⟩; have L7 := hid ((L6.out.alloc _).moved m5); have e0 := (L7.out.2.1.cell 0).trans rfl; have e1 := (L7.out.2.1.cell 1).trans rfl; have e2 := (L7.out.2.1.cell 2).trans rfl; have f2 := L7.out.2.1.fr 2; have r0 := (L7.out.1.2.2.1.cell 0).trans rfl; have r1 := (L7.out.1.2.2.1.cell 1).trans rfl; have r2 := (L7.out.1.2.2.1.cell 2).trans rfl; have g0 := L7.out.1.2.2.1.fr 0; have g1 := L7.out.1.2.2.1.fr 1; have g2 := L7.out.1.2.2.1.fr 2; have hne : w.heap.size < w4.heap.size := L7.out.2.2; have L8 := hid (L7.out.put2 l2); clear m5 hv))
  have D3 := L8.out.fin
  revert D3
  generalize ((((w6.setCell ⟨w4.heap.size, 2, none⟩ (.int .i64 l2)).setCell ⟨w.heap.size, 0, none⟩ (.int .i64 o2)).setCell ⟨w.heap.size, 1, none⟩ (.int .i64 p)).setCell ⟨w.heap.size, 2, none⟩ (.int .i64 l2)) = W
  intro D3
  clear e0 e1 e2 r0 r1 r2 g0 g1 g2 f2
  have e0 := (D3.2.cell 0).trans rfl
  have e1 := (D3.2.cell 1).trans rfl
  have e2 := (D3.2.cell 2).trans rfl
  try simp only [Exit.inBlock, Exit.then]
  refine bodyPost_ret (v := .agg #[.int .i64 o2, .int .i64 p, .int .i64 l2]) (by simp [results, Try.results77, go_sem, e0, e1, e2]; try rfl) rfl ?_
  exact ⟨_, _, _, rfl, D3.1⟩
end Go.Proofs.Ytghphlnpginmhaa
