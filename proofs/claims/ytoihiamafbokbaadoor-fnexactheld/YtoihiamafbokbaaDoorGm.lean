/- The program's GroupOk; what stands by in the laws over groups. -/
import Derived.Test.YtoihiamafbokbaaDoorGl
import Derived.Test.YtoihiamafbokbaaDoorGx
namespace Go.Proofs.YtoihiamafbokbaaDoor
open Go.ChangeShapes Go.WideShapes Go.ChangeAt Go.RowKit
set_option linter.unusedVariables false
set_option linter.unusedSimpArgs false

set_option maxRecDepth 20000 in
set_option maxHeartbeats 2000000 in
theorem implGroup_any (fa : Option Addr) (len cap : Nat) (c : Nat → C3) (u : Int) (ra : Option Addr) (m rcap : Nat) (ms : Nat → M4) (mi sf : Int) (w : World) (hl : (len : Int) ≤ 1048576) (hc : ∀ j, (c j).code.size ≤ maxLen) (hr : CR w fa len c) (hE : EL w) (hm : (m : Int) ≤ 1048576) (htn : ∀ j, j < m → ((ms j).tn : Int) ≤ 1048576) (HM : MR w ra m ms) :
    Calls Tryd.prog 8 #[gAgg fa len cap u ra m rcap mi sf] w fun e w' => e = .returned (.bool (grB len c u m ms mi sf)) ∧ Below w.heap.size w w' := by
  have HO : Hid (∀ W, Below w.heap.size w W → Calls Tryd.prog 24 #[gAgg fa len cap u ra m rcap mi sf] W fun e w' => ∃ T, e = .returned (.tuple #[.agg (oAgg fa len cap u T ra m rcap mi sf), .bool (grB len c u m ms mi sf)]) ∧ Tree w' T len c ∧ Below W.heap.size W w') := fun W hW => open_any fa len cap c u ra m rcap ms mi sf W hl hc (hr.below hW) (hE.below hW hE.nine) hm htn (HM.below hW)
  unfold gAgg oAgg at HO
  unfold gAgg
  clear hr hE HM hc htn
  generalize grB len c u m ms mi sf = v at HO ⊢
  go_enter Tryd.func8, Tryd.ntmps8
  go_wp2_with (go_at_call 24; go_loud (refine (HO.out _ (by go_grown)).mono ?_; rintro e w1 ⟨T, rfl, _, b1⟩; have HB : Hid (Below w.heap.size w w1) := bel_on ((Below.refl _ _).alloc (Nat.le_refl _) _) b1; clear b1))
  go_returns
  exact ⟨rfl, HB.out.alloc HB.out.size _⟩

structure GB (w : World) (fa : Option Addr) (len cap : Nat) (c : Nat → C3) (u : Int) (ra : Option Addr) (m rcap : Nat) (ms : Nat → M4) (mi sf : Int) (W : World) : Prop where
  xb : CB W w.heap.size #[.slice fa len cap, .int .i64 u, .slice ra m rcap, .int .i64 mi, .int .i64 sf] 25
  cr : CR W fa len c
  mr : MR W ra m ms
  bel : Below w.heap.size w W
section
variable {w : World} {fa : Option Addr} {len cap : Nat} {c : Nat → C3} {u : Int} {ra : Option Addr} {m rcap : Nat} {ms : Nat → M4} {mi sf : Int} {W W' : World}
theorem GB.below (h : GB w fa len cap c u ra m rcap ms mi sf W) (b : Below W.heap.size W W') : GB w fa len cap c u ra m rcap ms mi sf W' := ⟨h.xb.below b h.xb.lt, h.cr.below b, h.mr.below b, bel_on h.bel b⟩
theorem GB.alloc (h : GB w fa len cap c u ra m rcap ms mi sf W) (o : Obj) : GB w fa len cap c u ra m rcap ms mi sf (W.alloc o) := h.below ((Below.refl _ _).alloc (Nat.le_refl _) o)
theorem GB.mk0 (h1 : CR w fa len c) (h2 : MR w ra m ms) (b : Below (w.alloc (.cells #[.slice fa len cap, .int .i64 u, .slice ra m rcap, .int .i64 mi, .int .i64 sf] 25 (0, 0))).heap.size (w.alloc (.cells #[.slice fa len cap, .int .i64 u, .slice ra m rcap, .int .i64 mi, .int .i64 sf] 25 (0, 0))) W) : GB w fa len cap c u ra m rcap ms mi sf W :=
  ⟨(CB.new _ _).below b (by simp), (h1.alloc _).below b, (h2.alloc _).below b, bel_on ((Below.refl _ _).alloc (Nat.le_refl _) _) b⟩
end
structure GX (pb bc bm len m : Nat) (c : Nat → C3) (u : Int) (ms : Nat → M4) (mi sf : Int) (bt : Nat → Nat) (W : World) : Prop where
  yb : CB W pb #[.slice (some ⟨bc, 0, none⟩) len len, .int .i64 u, .slice (some ⟨bm, 0, none⟩) m m, .int .i64 mi, .int .i64 sf] 31
  gr : GrAt W bc bm len m c ms bt
section
variable {pb bc bm len m : Nat} {c : Nat → C3} {u : Int} {ms : Nat → M4} {mi sf : Int} {bt : Nat → Nat} {w W W' : World}
theorem GX.below (h : GX pb bc bm len m c u ms mi sf bt W) (b : Below W.heap.size W W') : GX pb bc bm len m c u ms mi sf bt W' := ⟨h.yb.below b h.yb.lt, h.gr.below b⟩
theorem GX.mk0 (h : GrAt w bc bm len m c ms bt) (b : Below (w.alloc (.cells #[.slice (some ⟨bc, 0, none⟩) len len, .int .i64 u, .slice (some ⟨bm, 0, none⟩) m m, .int .i64 mi, .int .i64 sf] 31 (0, 0))).heap.size (w.alloc (.cells #[.slice (some ⟨bc, 0, none⟩) len len, .int .i64 u, .slice (some ⟨bm, 0, none⟩) m m, .int .i64 mi, .int .i64 sf] 31 (0, 0))) W) : GX w.heap.size bc bm len m c u ms mi sf bt W :=
  ⟨(CB.new _ _).below b (by simp), (h.below ((Below.refl _ _).alloc (Nat.le_refl _) _)).below b⟩
end
end Go.Proofs.YtoihiamafbokbaaDoor
