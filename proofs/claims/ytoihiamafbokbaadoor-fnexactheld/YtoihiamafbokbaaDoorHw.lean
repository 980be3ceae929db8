/- What stands by in the law over Held. -/
import Derived.Test.YtoihiamafbokbaaDoorHi
import Derived.Test.YtoihiamafbokbaaDoorHk
namespace Go.Proofs.YtoihiamafbokbaaDoor
open Go Go.ChangeShapes Go.WideShapes Go.ChangeAt Go.RowKit
set_option linter.unusedVariables false
set_option linter.unusedSimpArgs false

structure HW (w : World) (fa : Option Addr) (len cap : Nat) (c : Nat → C3) (u : Int) (ra : Option Addr) (m rcap : Nat) (ms : Nat → M4) (mi sf : Int) (pb bc bm : Nat) (bt : Nat → Nat) (v0 v1 : Value) (M : Nat) (xs : List Value) (W : World) : Prop where
  g : GB w fa len cap c u ra m rcap ms mi sf W
  x : GX pb bc bm len m c u ms mi sf bt W
  r0 : W.ownsRow 0 3 1 v0 M xs
  r1 : W.ownsRow pb 3 1 v1 M xs
  l0 : ∀ y, v0.ownBlock = some y → y < bc
  hb : bm < pb ∧ ∀ j, j < m → bt j < pb
  lo : w.heap.size < bc
structure HV (w : World) (fa : Option Addr) (len cap : Nat) (c : Nat → C3) (u : Int) (ra : Option Addr) (m rcap : Nat) (ms : Nat → M4) (mi sf : Int) (pb : Nat) (v0 v1 : Value) (M : Nat) (xs : List Value) (W : World) : Prop where
  g : GB w fa len cap c u ra m rcap ms mi sf W
  r0 : W.ownsRow 0 3 1 v0 M xs
  r1 : W.ownsRow pb 3 1 v1 M xs
  l0 : ∀ y, v0.ownBlock = some y → y < pb
  lo : w.heap.size < pb
structure HU (w : World) (fa : Option Addr) (len cap : Nat) (c : Nat → C3) (u : Int) (ra : Option Addr) (m rcap : Nat) (ms : Nat → M4) (mi sf : Int) (v0 : Value) (a1 : Option Addr) (M : Nat) (xs : List Value) (W : World) : Prop where
  g : GB w fa len cap c u ra m rcap ms mi sf W
  r0 : W.ownsRow 0 3 1 v0 M xs
  i1 : IR W a1 M (fun j => (j : Int) + 1)
section
variable {w : World} {fa : Option Addr} {len cap : Nat} {c : Nat → C3} {u : Int} {ra : Option Addr} {m rcap : Nat} {ms : Nat → M4} {mi sf : Int} {pb bc bm : Nat} {bt : Nat → Nat} {v0 v1 : Value} {M : Nat} {xs : List Value} {W W' : World}
theorem GB.part {B : Nat} (h : GB w fa len cap c u ra m rcap ms mi sf W) (h0 : GB w fa len cap c u ra m rcap ms mi sf w ∨ True) (k : ∀ y, y ≤ w.heap.size → W'.heap[y]? = W.heap[y]?) (b : Below w.heap.size w W') (hc : CR w fa len c) (hm : MR w ra m ms) : GB w fa len cap c u ra m rcap ms mi sf W' :=
  ⟨h.xb.keep (k _ (Nat.le_refl _)), hc.below b, hm.below b, b⟩
theorem HW.below (h : HW w fa len cap c u ra m rcap ms mi sf pb bc bm bt v0 v1 M xs W) (b : Below W.heap.size W W') : HW w fa len cap c u ra m rcap ms mi sf pb bc bm bt v0 v1 M xs W' :=
  ⟨h.g.below b, h.x.below b, arow_keep h.r0 b, arow_keep h.r1 b, h.l0, h.hb, h.lo⟩
theorem HV.below (h : HV w fa len cap c u ra m rcap ms mi sf pb v0 v1 M xs W) (b : Below W.heap.size W W') : HV w fa len cap c u ra m rcap ms mi sf pb v0 v1 M xs W' :=
  ⟨h.g.below b, arow_keep h.r0 b, arow_keep h.r1 b, h.l0, h.lo⟩
theorem HU.below {a1 : Option Addr} (h : HU w fa len cap c u ra m rcap ms mi sf v0 a1 M xs W) (b : Below W.heap.size W W') : HU w fa len cap c u ra m rcap ms mi sf v0 a1 M xs W' :=
  ⟨h.g.below b, arow_keep h.r0 b, h.i1.below b⟩
/-- The marks on the group that was handed over leave all else. -/
theorem HW.marked (h : HW w fa len cap c u ra m rcap ms mi sf pb bc bm bt v0 v1 M xs W) (hc : CR w fa len c) (hm : MR w ra m ms) (k : ∀ y, y < W.heap.size → (y < bc ∨ pb ≤ y) → W'.heap[y]? = W.heap[y]?) (b : Below bc W W') : HV w fa len cap c u ra m rcap ms mi sf pb v0 v1 M xs W' := by
  have hlo := h.lo
  have hpb : bc < pb := Nat.lt_trans h.x.gr.lt h.hb.1
  have hx := h.g.xb.lt
  have hB : Below w.heap.size w W' := h.g.bel.trans (b.mono (by omega))
  refine ⟨⟨h.g.xb.keep (k _ hx (.inl hlo)), hc.below hB, hm.below hB, hB⟩, arow_block h.r0 (fun g hg => k g (h.r0.lt g hg).2 (.inl (h.l0 g hg))), arow_block h.r1 (fun g hg => k g (h.r1.lt g hg).2 (.inr (h.r1.lt g hg).1)), fun y hy => Nat.lt_trans (h.l0 y hy) hpb, by omega⟩
theorem HV.marked {a1 : Option Addr} {k1 : Nat} (h : HV w fa len cap c u ra m rcap ms mi sf pb v0 (.slice a1 M k1) M xs W) (hc : CR w fa len c) (hm : MR w ra m ms) (hi : IR W' a1 M (fun j => (j : Int) + 1)) (k : ∀ y, y < W.heap.size → some y ≠ Value.ownBlock (.slice a1 M k1) → W'.heap[y]? = W.heap[y]?) (b : Below pb W W') : HU w fa len cap c u ra m rcap ms mi sf v0 a1 M xs W' := by
  have hlo := h.lo
  have hx := h.g.xb.lt
  have hB : Below w.heap.size w W' := h.g.bel.trans (b.mono (by omega))
  have far : ∀ y, y < pb → some y ≠ Value.ownBlock (.slice a1 M k1) := fun y hy e => by have := (h.r1.lt y e.symm).1; omega
  exact ⟨⟨h.g.xb.keep (k _ hx (far _ hlo)), hc.below hB, hm.below hB, hB⟩, arow_block h.r0 (fun g hg => k g (h.r0.lt g hg).2 (far g (h.l0 g hg))), hi⟩
theorem HW.mk0 {a0 a1 : Option Addr} {k0 k1 : Nat} {w3 w4 : World} (hg : GB w fa len cap c u ra m rcap ms mi sf w4) (hx : GrAt w4 bc bm len m c ms bt) (hr0 : w3.ownsRow 0 3 1 (.slice a0 M k0) M xs) (h34 : Below w3.heap.size w3 w4) (hbc : w3.heap.size ≤ bc) (hxw : w.heap.size < w3.heap.size)
    (b : Below (w4.alloc (.cells #[.slice (some ⟨bc, 0, none⟩) len len, .int .i64 u, .slice (some ⟨bm, 0, none⟩) m m, .int .i64 mi, .int .i64 sf] 31 (0, 0))).heap.size (w4.alloc (.cells #[.slice (some ⟨bc, 0, none⟩) len len, .int .i64 u, .slice (some ⟨bm, 0, none⟩) m m, .int .i64 mi, .int .i64 sf] 31 (0, 0))) W)
    (hr1 : W.ownsRow (w4.alloc (.cells #[.slice (some ⟨bc, 0, none⟩) len len, .int .i64 u, .slice (some ⟨bm, 0, none⟩) m m, .int .i64 mi, .int .i64 sf] 31 (0, 0))).heap.size 3 1 (.slice a1 M k1) M xs) :
    HW w fa len cap c u ra m rcap ms mi sf w4.heap.size bc bm bt (.slice a0 M k0) (.slice a1 M k1) M xs W := by
  refine ⟨(hg.alloc _).below b, GX.mk0 hx b, arow_keep (arow_keep (arow_keep hr0 h34) ((Below.refl _ _).alloc (Nat.le_refl _) _)) b, row_base hr1 (by simp), fun y hy => Nat.lt_of_lt_of_le (hr0.lt y hy).2 hbc, ⟨hx.om.lt, fun j hj => (hx.om.t j hj).lt⟩, by omega⟩
end
theorem row_hL {w : World} {base M cap : Nat} {ad : Option Addr} {ms : Nat → M4} (h : w.ownsRow base 3 1 (.slice ad M cap) M (ivs (hL ms M))) : IR w ad M (hF ms) := row_IR h (fun j hj => hL_get hj)
end Go.Proofs.YtoihiamafbokbaaDoor
