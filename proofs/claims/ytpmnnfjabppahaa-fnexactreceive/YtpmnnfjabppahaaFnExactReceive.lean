/- At every stock and every cell, Receive of the program answers as the model does; it leaves the stock as it was, and its answer owns its memory. -/
import Derived.Test.YtpmnnfjabppahaaRows
import Derived.WalkKit
import Derived.ProofKit
import Derived.OpenShut
import Derived.ShutString
import Derived.ChangeOld
import Derived.Below
import Derived.Handy
import Derived.Carry
import Derived.Lib.SmallJoins
import Derived.Deep.SlicePairs
import Derived.Test.YtpmnnfjabppahaaBg
import Derived.Test.YtpmnnfjabppahaaBh
namespace Go.Proofs.Ytpmnnfjabppahaa.fnExactReceive
open Go.ChangeShapes Go.WideShapes Go.ChangeAt Go.RowKit
set_option linter.unusedVariables false
set_option linter.unusedSimpArgs false

theorem own : ownKnob Try.prog.godebug = none := by kernel_rfl
theorem laidOut : laidOutB Try.prog = true := by kernel_rfl

set_option maxRecDepth 20000 in
set_option maxHeartbeats 4000000 in
theorem walk (ad : Option Addr) (len cap : Nat) (c : Nat → CE6) (x : CE6) (w : World) (hl : len ≤ maxLen) (hc : CZ c) (hr : CEr w ad len c) (hx : x.item.size ≤ maxLen ∧ x.place.size ≤ maxLen ∧ x.lot.size ≤ maxLen) :
    Calls Try.prog 9 #[.slice ad len cap, .agg #[.string x.item, .string x.place, .string x.lot, .int .i64 x.exp, .int .i64 x.qty, .int .i64 x.hld]] w fun e w' => e = .returned (.bool true) ∧ Below w.heap.size w w' := by
  have HC : Hid (CZ c) := hc
  have hc2 : Hid (∀ j, ((c j).item.size : Int) ≤ 9223372036854775807 ∧ ((c j).place.size : Int) ≤ 9223372036854775807 ∧ ((c j).lot.size : Int) ≤ 9223372036854775807) := fun j => by have := hc j; unfold maxLen at this; omega
  have HXZ : Hid (x.item.size ≤ maxLen ∧ x.place.size ≤ maxLen ∧ x.lot.size ≤ maxLen) := hx
  have hx0 : Hid ((x.item.size : Int) ≤ 9223372036854775807 ∧ (x.place.size : Int) ≤ 9223372036854775807 ∧ (x.lot.size : Int) ≤ 9223372036854775807) := by have h := hx; unfold maxLen at h; exact ⟨by omega, by omega, by omega⟩
  have hl0 : (len : Int) ≤ 9223372036854775807 := by have := hl; unfold maxLen at this; omega
  have HR00 : Hid (CEr w ad len c) := hr
  clear hc hx hr hl
  go_enter Try.func9, Try.ntmps9
  go_wp2_with (go_at_call 34; fail)
  have HB00 : Hid (Below w.heap.size w (w.alloc (.cells #[.string x.item, .string x.place, .string x.lot, .int .i64 x.exp, .int .i64 x.qty, .int .i64 x.hld] 63 (0, 0)))) := hid ((Below.refl _ _).alloc (Nat.le_refl _) _)
  have HR0 : Hid (CEr (w.alloc (.cells #[.string x.item, .string x.place, .string x.lot, .int .i64 x.exp, .int .i64 x.qty, .int .i64 x.hld] 63 (0, 0))) ad len c) := hid (HR00.out.alloc _)
  have HXC0 : Hid (CB (w.alloc (.cells #[.string x.item, .string x.place, .string x.lot, .int .i64 x.exp, .int .i64 x.qty, .int .i64 x.hld] 63 (0, 0))) w.heap.size #[.string x.item, .string x.place, .string x.lot, .int .i64 x.exp, .int .i64 x.qty, .int .i64 x.hld] 63) := hid (CB.new _ _)
  have HWW : Hid (w.heap.size < (w.alloc (.cells #[.string x.item, .string x.place, .string x.lot, .int .i64 x.exp, .int .i64 x.qty, .int .i64 x.hld] 63 (0, 0))).heap.size) := hid (by simp)
  generalize w.alloc (.cells #[.string x.item, .string x.place, .string x.lot, .int .i64 x.exp, .int .i64 x.qty, .int .i64 x.hld] 63 (0, 0)) = wB at HB00 HR0 HXC0 HWW ⊢
  obtain ⟨xb, hxb⟩ : ∃ b, w.heap.size = b := ⟨_, rfl⟩
  have HXB := hid hxb
  rw [hxb] at HXC0 HWW ⊢
  clear hxb
  have HXC : Hid (∀ W, Below wB.heap.size wB W → (W.cell? ⟨xb, 0, none⟩ = some (.string x.item)) ∧ (W.cell? ⟨xb, 1, none⟩ = some (.string x.place)) ∧ (W.cell? ⟨xb, 2, none⟩ = some (.string x.lot)) ∧ (W.cell? ⟨xb, 3, none⟩ = some (.int .i64 x.exp)) ∧ (W.cell? ⟨xb, 4, none⟩ = some (.int .i64 x.qty)) ∧ (W.cell? ⟨xb, 5, none⟩ = some (.int .i64 x.hld))) := hid (fun W hW => by have h := HXC0.out.below hW HWW.out; exact ⟨h.cell 0, h.cell 1, h.cell 2, h.cell 3, h.cell 4, h.cell 5⟩)
  refine (szCE6S_any _ _ _ c _ _ (by omega) (by omega) hl0 hc2.out HR0.out).mono ?_
  rintro e w1 ⟨v0, rfl, hv0, b1⟩
  have HS0 : Hid (Below wB.heap.size wB w1) := hid b1
  clear b1
  have x0 : w1.cell? ⟨xb, 0, none⟩ = some (.string x.item) := (HXC.out _ HS0.out).1
  have x1 : w1.cell? ⟨xb, 1, none⟩ = some (.string x.place) := (HXC.out _ HS0.out).2.1
  have x2 : w1.cell? ⟨xb, 2, none⟩ = some (.string x.lot) := (HXC.out _ HS0.out).2.2.1
  have x3 : w1.cell? ⟨xb, 3, none⟩ = some (.int .i64 x.exp) := (HXC.out _ HS0.out).2.2.2.1
  have x4 : w1.cell? ⟨xb, 4, none⟩ = some (.int .i64 x.qty) := (HXC.out _ HS0.out).2.2.2.2.1
  have x5 : w1.cell? ⟨xb, 5, none⟩ = some (.int .i64 x.hld) := (HXC.out _ HS0.out).2.2.2.2.2
  rcases hv0 with rfl | ⟨hv0, hvv0, hb0, _⟩
  · go_wp2
    go_returns
    exact ⟨rfl, HB00.out.trans (HS0.out.mono (by have := HB00.out.size; exact this))⟩
  go_wp2_with (go_at_call 40; refine (szCE6_any _ _ _ _ _ _ _ _ hv0 hvv0 hx0.out.1 hx0.out.2.1 hx0.out.2.2).mono ?_; rintro e w2 ⟨v1, rfl, hv1, b2⟩; have HS1 : Hid (Below wB.heap.size wB w2) := hid (bel_on HS0.out b2); clear b2 x0 x1 x2 x3 x4 x5; rcases hv1 with rfl | ⟨hv1, hvv1, _⟩)
  · go_returns
    exact ⟨rfl, HB00.out.trans (HS1.out.mono (by have := HB00.out.size; exact this))⟩
  have hvn0 : ¬ v0 < 0 := by omega
  have hvn1 : ¬ v1 < 0 := by omega
  obtain ⟨M, hM⟩ : ∃ M, rcM len c x = M := ⟨_, rfl⟩
  obtain ⟨F, hF⟩ : ∃ F, rcC len c x = F := ⟨_, rfl⟩
  obtain ⟨TV, hTV⟩ : ∃ TV, rcV len c x = TV := ⟨_, rfl⟩
  have hM1 : (M : Int) ≤ 1073741824 := by
      rw [← hM]; unfold rcM brN
      split
      · split
        · split <;> omega
        · omega
      · omega
  have HSP : Hid (∀ (a1 : Option Addr) (k1 : Nat) (W : World), (∃ y, a1 = some y) → CEr W a1 len c → Calls Try.prog 41 #[.slice a1 len k1, .agg #[.string x.item, .string x.place, .string x.lot, .int .i64 x.exp, .int .i64 x.qty, .int .i64 x.hld]] W fun e w' => ∃ ad cap, e = .returned (.tuple #[.slice ad M cap, .int .i64 TV]) ∧ OwnCE6 w' W.heap.size ad M F ∧ Below W.heap.size W w') := fun a1 k1 W hy g1 => by
    obtain ⟨y, rfl⟩ := hy
    have := specReceive_any y len k1 c x W hb0 g1 HC.out HXZ.out
    rw [hM, hTV, hF] at this; exact this
  have HIM : Hid (∀ (a1 : Option Addr) (k1 : Nat) (W : World), (∃ y, a1 = some y) → CEr W a1 len c → Calls Try.prog 43 #[.slice a1 len k1, .agg #[.string x.item, .string x.place, .string x.lot, .int .i64 x.exp, .int .i64 x.qty, .int .i64 x.hld]] W fun e w' => ∃ ad cap, e = .returned (.tuple #[.slice ad M cap, .int .i64 TV]) ∧ OwnCE6 w' W.heap.size ad M F ∧ Below W.heap.size W w') := fun a1 k1 W hy g1 => by
    obtain ⟨y, rfl⟩ := hy
    have := implReceive_any y len k1 c x W hb0 g1 HC.out HXZ.out
    rw [hM, hTV, hF] at this; exact this
  have htv : (TV != TV) = false := by simp
  clear hM hF hTV
  have HS2 : Hid (Below wB.heap.size wB w2.drew) := hid HS1.out.drew
  refine wp_region_noPanic ?_
  refine wp_region_held_drew (S := fun w' => (w'.cell? ⟨xb, 0, none⟩ = some (.string x.item)) ∧ (w'.cell? ⟨xb, 1, none⟩ = some (.string x.place)) ∧ (w'.cell? ⟨xb, 2, none⟩ = some (.string x.lot)) ∧ (w'.cell? ⟨xb, 3, none⟩ = some (.int .i64 x.exp)) ∧ (w'.cell? ⟨xb, 4, none⟩ = some (.int .i64 x.qty)) ∧ (w'.cell? ⟨xb, 5, none⟩ = some (.int .i64 x.hld))) (by kernel_rfl) (by exact HXC.out _ HS2.out) (fun hHeld => ?_)
  refine wpAnyH_take (i := 0) (oi := { dst := some 27, op := Go.Op.move (Go.Operand.tmp 0), type := 56, pos := "exact.go:9490", after := #[], guard := none }) (v := ?_) rfl (by kernel_rfl) (by kernel_rfl) (by kernel_rfl) (fun _ _ _ h => h) (Or.inl ⟨by rfl, ?_⟩) (by assumption) ?_
  rotate_left
  · (intro wB hSw; (try dsimp only at hSw); go_simp <;> try with_reducible rfl)
  try simp only [Act.put, List.setIfInBounds_toArray, List.set_cons_zero, List.set_cons_succ]
  refine wpAnyH_take (i := 2) (oi := { dst := some 29, op := Go.Op.load 63 (Go.Operand.tmp 3), type := 63, pos := "exact.go:9490", after := #[], guard := none }) (v := ?_) rfl (by kernel_rfl) (by kernel_rfl) (by kernel_rfl) (fun _ _ _ h => h) (Or.inl ⟨by rfl, ?_⟩) (by assumption) ?_
  rotate_left
  · (intro wB hSw; (try dsimp only at hSw); go_simp <;> try with_reducible rfl)
  try simp only [Act.put, List.setIfInBounds_toArray, List.set_cons_zero, List.set_cons_succ]
  refine wpAnyH_ready (rs := [1]) (by kernel_rfl) (by simp) ?_
  refine AllReadyH.cons (o := { dst := some 28, op := Go.Op.call { callee := Go.Callee.value (Go.Operand.func 36), args := #[Go.Operand.tmp 27], argTypes := #[56] }, type := 24, pos := "exact.go:9490", after := #[{ on := 0, ground := Go.Ground.data }], guard := none }) rfl (fun K hK => ?_) (AllReadyH.nil)
  go_simp
  refine (toCE6S_any _ _ _ c _ hb0 (HR0.out.below HS2.out)).mono ?_
  rintro e w101 ⟨rfl, i_w101, b_w101⟩
  have HI_s_0 : Hid (ACE6 w101 w2.heap.size len c) := hid i_w101
  have HLT_s_0 := hid HI_s_0.out.lt
  have HB_w101 : Hid (Below wB.heap.size wB w101) := hid (bel_on HS2.out b_w101)
  clear i_w101 b_w101
  first | refine hK.out _ _ (by exact HXC.out _ HB_w101.out) (fun hHeld => ?_) | (go_wp2_with fail; refine hK.out _ _ (by exact HXC.out _ HB_w101.out) (fun hHeld => ?_))
  clear hK K
  try simp only [Act.put, List.setIfInBounds_toArray, List.set_cons_zero, List.set_cons_succ]
  refine wpAnyH_ready (rs := [3]) (by kernel_rfl) (by simp) ?_
  refine AllReadyH.cons (o := { dst := some 30, op := Go.Op.call { callee := Go.Callee.value (Go.Operand.func 42), args := #[Go.Operand.tmp 29], argTypes := #[63] }, type := 28, pos := "exact.go:9490", after := #[{ on := 2, ground := Go.Ground.data }, { on := 1, ground := Go.Ground.chain }], guard := none }) rfl (fun K hK => ?_) (AllReadyH.nil)
  go_simp
  refine (toCE6_any x.item x.place x.lot x.exp x.qty x.hld _).mono ?_
  rintro e wC ⟨rfl, b_c⟩
  have HB_wC : Hid (Below wB.heap.size wB wC) := hid (bel_on HB_w101.out b_c)
  replace HI_s_0 := hid (HI_s_0.out.below b_c)
  clear b_c
  first | refine hK.out _ _ (by exact HXC.out _ HB_wC.out) (fun hHeld => ?_) | (go_wp2_with fail; refine hK.out _ _ (by exact HXC.out _ HB_wC.out) (fun hHeld => ?_))
  clear hK K
  try simp only [Act.put, List.setIfInBounds_toArray, List.set_cons_zero, List.set_cons_succ]
  refine wpAnyH_ready (rs := [4]) (by kernel_rfl) (by simp) ?_
  refine AllReadyH.cons (o := { dst := some 31, op := Go.Op.call { callee := Go.Callee.value (Go.Operand.func 41), args := #[Go.Operand.tmp 28, Go.Operand.tmp 30], argTypes := #[24, 28] }, type := 25, pos := "exact.go:9490", after := #[{ on := 1, ground := Go.Ground.data }, { on := 3, ground := Go.Ground.data }, { on := 3, ground := Go.Ground.chain }], guard := none }) rfl (fun K hK => ?_) (AllReadyH.nil)
  go_simp
  refine (HSP.out _ _ _ ⟨_, rfl⟩ HI_s_0.out.1).mono ?_
  rintro e w102 ⟨ado, capo, rfl, o_s, b_s⟩
  have HO : Hid (OwnM w102 wB.heap.size w102.heap.size ado M F) := hid ((ownM_of o_s).lower HB_wC.out.size)
  have HB_w102 : Hid (Below wB.heap.size wB w102) := hid (bel_on HB_wC.out b_s)
  clear o_s b_s
  first | refine hK.out _ _ (by exact HXC.out _ HB_w102.out) (fun hHeld => ?_) | (go_wp2_with fail; refine hK.out _ _ (by exact HXC.out _ HB_w102.out) (fun hHeld => ?_))
  clear hK K
  try simp only [Act.put, List.setIfInBounds_toArray, List.set_cons_zero, List.set_cons_succ]
  refine wpAnyH_take (i := 5) (oi := { dst := some 26, op := Go.Op.move (Go.Operand.tmp 31), type := 25, pos := "exact.go:9490", after := #[{ on := 4, ground := Go.Ground.data }], guard := none }) (v := ?_) rfl (by kernel_rfl) (by kernel_rfl) (by kernel_rfl) (fun _ _ _ h => h) (Or.inl ⟨by rfl, ?_⟩) (by assumption) ?_
  rotate_left
  · (intro wB hSw; (try dsimp only at hSw); go_simp <;> try with_reducible rfl)
  try simp only [Act.put, List.setIfInBounds_toArray, List.set_cons_zero, List.set_cons_succ]
  refine wpAnyH_take (i := 6) (oi := { dst := some 32, op := Go.Op.extract (Go.Operand.tmp 26) 0, type := 24, pos := "exact.go:9490", after := #[{ on := 5, ground := Go.Ground.data }], guard := none }) (v := ?_) rfl (by kernel_rfl) (by kernel_rfl) (by kernel_rfl) (fun _ _ _ h => h) (Or.inl ⟨by rfl, ?_⟩) (by assumption) ?_
  rotate_left
  · (intro wB hSw; (try dsimp only at hSw); go_simp <;> try with_reducible rfl)
  try simp only [Act.put, List.setIfInBounds_toArray, List.set_cons_zero, List.set_cons_succ]
  refine wpAnyH_take (i := 7) (oi := { dst := some 33, op := Go.Op.extract (Go.Operand.tmp 26) 1, type := 3, pos := "exact.go:9490", after := #[{ on := 5, ground := Go.Ground.data }, { on := 8, ground := Go.Ground.gcOnly Go.Departure.lateStores }], guard := none }) (v := ?_) rfl (by kernel_rfl) (by kernel_rfl) (by kernel_rfl) (fun _ _ _ h => h) (Or.inl ⟨by rfl, ?_⟩) (by assumption) ?_
  rotate_left
  · (intro wB hSw; (try dsimp only at hSw); go_simp <;> try with_reducible rfl)
  try simp only [Act.put, List.setIfInBounds_toArray, List.set_cons_zero, List.set_cons_succ]
  refine wpAnyH_take (i := 8) (oi := { dst := some 6, op := Go.Op.assign (Go.Operand.tmp 32), type := 24, pos := "exact.go:9490", after := #[{ on := 6, ground := Go.Ground.data }, { on := 4, ground := Go.Ground.chain }, { on := 0, ground := Go.Ground.phase }, { on := 1, ground := Go.Ground.phase }, { on := 2, ground := Go.Ground.phase }, { on := 3, ground := Go.Ground.phase }, { on := 4, ground := Go.Ground.phase }, { on := 5, ground := Go.Ground.phase }, { on := 6, ground := Go.Ground.phase }, { on := 7, ground := Go.Ground.textOnly Go.Departure.lateStores }], guard := none }) (v := ?_) rfl (by kernel_rfl) (by kernel_rfl) (by kernel_rfl) (fun _ _ _ h => h) (Or.inl ⟨by rfl, ?_⟩) (by assumption) ?_
  rotate_left
  · (intro wB hSw; (try dsimp only at hSw); go_simp <;> try with_reducible rfl)
  try simp only [Act.put, List.setIfInBounds_toArray, List.set_cons_zero, List.set_cons_succ]
  refine wpAnyH_take (i := 9) (oi := { dst := some 7, op := Go.Op.assign (Go.Operand.tmp 33), type := 3, pos := "exact.go:9490", after := #[{ on := 7, ground := Go.Ground.data }, { on := 8, ground := Go.Ground.chain }, { on := 0, ground := Go.Ground.phase }, { on := 1, ground := Go.Ground.phase }, { on := 2, ground := Go.Ground.phase }, { on := 3, ground := Go.Ground.phase }, { on := 4, ground := Go.Ground.phase }, { on := 5, ground := Go.Ground.phase }, { on := 6, ground := Go.Ground.phase }, { on := 7, ground := Go.Ground.phase }, { on := 8, ground := Go.Ground.phase }], guard := none }) (v := ?_) rfl (by kernel_rfl) (by kernel_rfl) (by kernel_rfl) (fun _ _ _ h => h) (Or.inl ⟨by rfl, ?_⟩) (by assumption) ?_
  rotate_left
  · (intro wB hSw; (try dsimp only at hSw); go_simp <;> try with_reducible rfl)
  try simp only [Act.put, List.setIfInBounds_toArray, List.set_cons_zero, List.set_cons_succ]
  refine wpAnyH_done (by kernel_rfl) ?_ _
  refine NoPanic.normal ?_
  clear hHeld
  have tc0 : True := trivial
  have tc1 : True := trivial
  have tc2 : True := trivial
  have tc3 : True := trivial
  have tc4 : True := trivial
  have tc5 : True := trivial
  have tc6 : True := trivial
  have tc7 : True := trivial
  have tc8 : True := trivial
  have tc9 : True := trivial
  have hkk : ¬ (1 + 6 * (len : Int)) < 0 := by omega
  go_wp2_with (first
      | (go_at_call 36; clear tc0; refine (toCE6S_any _ _ _ c _ hb0 (HR0.out.below HB_w102.out)).mono ?_; rintro e w103 ⟨rfl, i_w103, b_w103⟩; have HI_x_0 : Hid (ACE6 w103 w102.heap.size len c) := hid i_w103; have HLT_x_0 := hid HI_x_0.out.lt; have HB_w103 : Hid (Below wB.heap.size wB w103) := hid (bel_on HB_w102.out b_w103); replace HO := hid (HO.out.below b_w103); clear i_w103 b_w103; have x0 : w103.cell? ⟨xb, 0, none⟩ = some (.string x.item) := (HXC.out _ HB_w103.out).1; have x1 : w103.cell? ⟨xb, 1, none⟩ = some (.string x.place) := (HXC.out _ HB_w103.out).2.1; have x2 : w103.cell? ⟨xb, 2, none⟩ = some (.string x.lot) := (HXC.out _ HB_w103.out).2.2.1; have x3 : w103.cell? ⟨xb, 3, none⟩ = some (.int .i64 x.exp) := (HXC.out _ HB_w103.out).2.2.2.1; have x4 : w103.cell? ⟨xb, 4, none⟩ = some (.int .i64 x.qty) := (HXC.out _ HB_w103.out).2.2.2.2.1; have x5 : w103.cell? ⟨xb, 5, none⟩ = some (.int .i64 x.hld) := (HXC.out _ HB_w103.out).2.2.2.2.2)
      | (go_at_call 42; clear tc1; refine (toCE6_any x.item x.place x.lot x.exp x.qty x.hld _).mono ?_; rintro e wD ⟨rfl, b_c⟩; have HB_wD : Hid (Below wB.heap.size wB wD) := hid (bel_on HB_w103.out b_c); replace HI_x_0 := hid (HI_x_0.out.below b_c); replace HO := hid (HO.out.below b_c); have HDS : Hid (w103.heap.size ≤ wD.heap.size) := hid b_c.size; clear x0 x1 x2 x3 x4 x5; clear b_c)
      | (go_at_call 43; clear tc2; have HLX : Hid (wB.heap.size ≤ w102.heap.size ∧ w102.heap.size ≤ w102.heap.size ∧ w102.heap.size < wD.heap.size) := hid ⟨HB_w102.out.size, Nat.le_refl _, Nat.lt_of_lt_of_le HLT_x_0.out HDS.out⟩; refine (HIM.out _ _ _ ⟨_, rfl⟩ HI_x_0.out.1).mono ?_; rintro e w104 ⟨adg, capg, rfl, o_g, b_g⟩; have HU : Hid (KR0 wB M F ado adg (w102.heap.size) (wD.heap.size) w104.heap.size (w102.heap.size) len c w104) := hid ⟨bel_on HB_wD.out b_g, HO.out.below b_g, ownM_of o_g, HI_x_0.out.below b_g, HLX.out⟩; clear o_g b_g)
      | (go_at_call 37; clear tc3; refine (eqCE6S_big _ _ _ _ _ F _ hM1 HU.out.g.row HU.out.o.row).mono ?_; rintro e w105 ⟨rfl, b_w105⟩; replace HU := hid (HU.out.below b_w105); clear b_w105)
      | (go_at_call 36; clear tc4; refine (toCE6S_any _ _ _ c _ hb0 (HR0.out.below HU.out.bl)).mono ?_; rintro e w106 ⟨rfl, i_w106, b_w106⟩; replace HU := hid (HU.out.below b_w106); have HJ0 := hid i_w106.1; clear i_w106 b_w106)
      | (go_at_call 37; clear tc5; refine (eqCE6S_same _ _ _ _ _ c _ hb0 HU.out.r0.1 HJ0.out).mono ?_; rintro e w107 ⟨rfl, b_w107⟩; replace HU := hid (HU.out.below b_w107); clear b_w107)
      | (go_at_call 38; clear tc6; obtain ⟨_, cx, hcx, hsx⟩ := HU.out.r0; refine (markCE6S_is _ _ _ _ cx _ hb0 (by omega) (by omega) hcx (by omega)).mono ?_; rintro e w108 ⟨rfl, _, _, kk, b_w108⟩; have HU1 := hid (HU.out.marked kk b_w108); clear hcx hsx kk b_w108)
      | (go_at_call 37; clear tc7; refine (eqCE6S_big _ _ _ _ _ F _ hM1 HU1.out.g.row HU1.out.o.row).mono ?_; rintro e w109 ⟨rfl, b_w109⟩; replace HU1 := hid (HU1.out.below b_w109); clear b_w109)
      | (go_at_call 38; clear tc8; refine (markM_big _ _ _ _ _ F _ hM1 HU1.out.g).mono ?_; rintro e w110 ⟨rfl, r_w110, kk, b_w110⟩; have HZ := hid (HU1.out.marked r_w110 kk b_w110); clear r_w110 kk b_w110)
      | (go_at_call 39; clear tc9; refine (heldCE6S_big _ _ _ 1 _ hM1 (by omega) (by omega) HZ.out.h).mono ?_; rintro e w111 ⟨rfl, b_w111⟩; replace HZ := hid (HZ.out.below b_w111); clear b_w111))
  replace HZ := hid (HZ.out.below ((Below.refl _ _).drew))
  refine wp_region_noPanic ?_
  refine wp_region_held_drew (S := fun w' => (w'.cell? ⟨xb, 0, none⟩ = some (.string x.item)) ∧ (w'.cell? ⟨xb, 1, none⟩ = some (.string x.place)) ∧ (w'.cell? ⟨xb, 2, none⟩ = some (.string x.lot)) ∧ (w'.cell? ⟨xb, 3, none⟩ = some (.int .i64 x.exp)) ∧ (w'.cell? ⟨xb, 4, none⟩ = some (.int .i64 x.qty)) ∧ (w'.cell? ⟨xb, 5, none⟩ = some (.int .i64 x.hld))) (by kernel_rfl) (by exact HXC.out _ HZ.out.bl) (fun hHeld => ?_)
  refine wpAnyH_take (i := 0) (oi := { dst := some 85, op := Go.Op.move (Go.Operand.tmp 0), type := 56, pos := "exact.go:9514", after := #[], guard := none }) (v := ?_) rfl (by kernel_rfl) (by kernel_rfl) (by kernel_rfl) (fun _ _ _ h => h) (Or.inl ⟨by rfl, ?_⟩) (by assumption) ?_
  rotate_left
  · (intro wB hSw; (try dsimp only at hSw); go_simp <;> try with_reducible rfl)
  try simp only [Act.put, List.setIfInBounds_toArray, List.set_cons_zero, List.set_cons_succ]
  refine wpAnyH_take (i := 2) (oi := { dst := some 87, op := Go.Op.load 63 (Go.Operand.tmp 3), type := 63, pos := "exact.go:9514", after := #[], guard := none }) (v := ?_) rfl (by kernel_rfl) (by kernel_rfl) (by kernel_rfl) (fun _ _ _ h => h) (Or.inl ⟨by rfl, ?_⟩) (by assumption) ?_
  rotate_left
  · (intro wB hSw; (try dsimp only at hSw); go_simp <;> try with_reducible rfl)
  try simp only [Act.put, List.setIfInBounds_toArray, List.set_cons_zero, List.set_cons_succ]
  refine wpAnyH_ready (rs := [1]) (by kernel_rfl) (by simp) ?_
  refine AllReadyH.cons (o := { dst := some 86, op := Go.Op.call { callee := Go.Callee.value (Go.Operand.func 36), args := #[Go.Operand.tmp 85], argTypes := #[56] }, type := 24, pos := "exact.go:9514", after := #[{ on := 0, ground := Go.Ground.data }], guard := none }) rfl (fun K hK => ?_) (AllReadyH.nil)
  go_simp
  refine (toCE6S_any _ _ _ c _ hb0 (HR0.out.below HZ.out.bl)).mono ?_
  rintro e w112 ⟨rfl, i_w112, b_w112⟩
  replace HZ := hid (HZ.out.below b_w112)
  have HY0 := hid i_w112.1
  clear i_w112 b_w112
  first | refine hK.out _ _ (by exact HXC.out _ HZ.out.bl) (fun hHeld => ?_) | (go_wp2_with fail; refine hK.out _ _ (by exact HXC.out _ HZ.out.bl) (fun hHeld => ?_))
  clear hK K
  try simp only [Act.put, List.setIfInBounds_toArray, List.set_cons_zero, List.set_cons_succ]
  refine wpAnyH_ready (rs := [3]) (by kernel_rfl) (by simp) ?_
  refine AllReadyH.cons (o := { dst := some 88, op := Go.Op.call { callee := Go.Callee.value (Go.Operand.func 42), args := #[Go.Operand.tmp 87], argTypes := #[63] }, type := 28, pos := "exact.go:9514", after := #[{ on := 2, ground := Go.Ground.data }, { on := 1, ground := Go.Ground.chain }], guard := none }) rfl (fun K hK => ?_) (AllReadyH.nil)
  go_simp
  refine (toCE6_any x.item x.place x.lot x.exp x.qty x.hld _).mono ?_
  rintro e wE ⟨rfl, b_c⟩
  replace HZ := hid (HZ.out.below b_c)
  replace HY0 := hid (HY0.out.below b_c)
  clear b_c
  first | refine hK.out _ _ (by exact HXC.out _ HZ.out.bl) (fun hHeld => ?_) | (go_wp2_with fail; refine hK.out _ _ (by exact HXC.out _ HZ.out.bl) (fun hHeld => ?_))
  clear hK K
  try simp only [Act.put, List.setIfInBounds_toArray, List.set_cons_zero, List.set_cons_succ]
  refine wpAnyH_ready (rs := [4]) (by kernel_rfl) (by simp) ?_
  refine AllReadyH.cons (o := { dst := some 89, op := Go.Op.call { callee := Go.Callee.value (Go.Operand.func 43), args := #[Go.Operand.tmp 86, Go.Operand.tmp 88], argTypes := #[24, 28] }, type := 25, pos := "exact.go:9514", after := #[{ on := 1, ground := Go.Ground.data }, { on := 3, ground := Go.Ground.data }, { on := 3, ground := Go.Ground.chain }], guard := none }) rfl (fun K hK => ?_) (AllReadyH.nil)
  go_simp
  refine (HIM.out _ _ _ ⟨_, rfl⟩ HY0.out).mono ?_
  rintro e w113 ⟨adh, caph, rfl, o_h, b_h⟩
  have HE := hid o_h.row
  replace HZ := hid (HZ.out.below b_h)
  clear o_h b_h
  first | refine hK.out _ _ (by exact HXC.out _ HZ.out.bl) (fun hHeld => ?_) | (go_wp2_with fail; refine hK.out _ _ (by exact HXC.out _ HZ.out.bl) (fun hHeld => ?_))
  clear hK K
  try simp only [Act.put, List.setIfInBounds_toArray, List.set_cons_zero, List.set_cons_succ]
  refine wpAnyH_take (i := 5) (oi := { dst := some 84, op := Go.Op.move (Go.Operand.tmp 89), type := 25, pos := "exact.go:9514", after := #[{ on := 4, ground := Go.Ground.data }], guard := none }) (v := ?_) rfl (by kernel_rfl) (by kernel_rfl) (by kernel_rfl) (fun _ _ _ h => h) (Or.inl ⟨by rfl, ?_⟩) (by assumption) ?_
  rotate_left
  · (intro wB hSw; (try dsimp only at hSw); go_simp <;> try with_reducible rfl)
  try simp only [Act.put, List.setIfInBounds_toArray, List.set_cons_zero, List.set_cons_succ]
  refine wpAnyH_take (i := 6) (oi := { dst := some 90, op := Go.Op.extract (Go.Operand.tmp 84) 0, type := 24, pos := "exact.go:9514", after := #[{ on := 5, ground := Go.Ground.data }], guard := none }) (v := ?_) rfl (by kernel_rfl) (by kernel_rfl) (by kernel_rfl) (fun _ _ _ h => h) (Or.inl ⟨by rfl, ?_⟩) (by assumption) ?_
  rotate_left
  · (intro wB hSw; (try dsimp only at hSw); go_simp <;> try with_reducible rfl)
  try simp only [Act.put, List.setIfInBounds_toArray, List.set_cons_zero, List.set_cons_succ]
  refine wpAnyH_take (i := 7) (oi := { dst := some 91, op := Go.Op.extract (Go.Operand.tmp 84) 1, type := 3, pos := "exact.go:9514", after := #[{ on := 5, ground := Go.Ground.data }, { on := 8, ground := Go.Ground.gcOnly Go.Departure.lateStores }], guard := none }) (v := ?_) rfl (by kernel_rfl) (by kernel_rfl) (by kernel_rfl) (fun _ _ _ h => h) (Or.inl ⟨by rfl, ?_⟩) (by assumption) ?_
  rotate_left
  · (intro wB hSw; (try dsimp only at hSw); go_simp <;> try with_reducible rfl)
  try simp only [Act.put, List.setIfInBounds_toArray, List.set_cons_zero, List.set_cons_succ]
  refine wpAnyH_take (i := 8) (oi := { dst := some 14, op := Go.Op.assign (Go.Operand.tmp 90), type := 24, pos := "exact.go:9514", after := #[{ on := 6, ground := Go.Ground.data }, { on := 4, ground := Go.Ground.chain }, { on := 0, ground := Go.Ground.phase }, { on := 1, ground := Go.Ground.phase }, { on := 2, ground := Go.Ground.phase }, { on := 3, ground := Go.Ground.phase }, { on := 4, ground := Go.Ground.phase }, { on := 5, ground := Go.Ground.phase }, { on := 6, ground := Go.Ground.phase }, { on := 7, ground := Go.Ground.textOnly Go.Departure.lateStores }], guard := none }) (v := ?_) rfl (by kernel_rfl) (by kernel_rfl) (by kernel_rfl) (fun _ _ _ h => h) (Or.inl ⟨by rfl, ?_⟩) (by assumption) ?_
  rotate_left
  · (intro wB hSw; (try dsimp only at hSw); go_simp <;> try with_reducible rfl)
  try simp only [Act.put, List.setIfInBounds_toArray, List.set_cons_zero, List.set_cons_succ]
  refine wpAnyH_take (i := 9) (oi := { dst := some 15, op := Go.Op.assign (Go.Operand.tmp 91), type := 3, pos := "exact.go:9514", after := #[{ on := 7, ground := Go.Ground.data }, { on := 8, ground := Go.Ground.chain }, { on := 0, ground := Go.Ground.phase }, { on := 1, ground := Go.Ground.phase }, { on := 2, ground := Go.Ground.phase }, { on := 3, ground := Go.Ground.phase }, { on := 4, ground := Go.Ground.phase }, { on := 5, ground := Go.Ground.phase }, { on := 6, ground := Go.Ground.phase }, { on := 7, ground := Go.Ground.phase }, { on := 8, ground := Go.Ground.phase }], guard := none }) (v := ?_) rfl (by kernel_rfl) (by kernel_rfl) (by kernel_rfl) (fun _ _ _ h => h) (Or.inl ⟨by rfl, ?_⟩) (by assumption) ?_
  rotate_left
  · (intro wB hSw; (try dsimp only at hSw); go_simp <;> try with_reducible rfl)
  try simp only [Act.put, List.setIfInBounds_toArray, List.set_cons_zero, List.set_cons_succ]
  refine wpAnyH_done (by kernel_rfl) ?_ _
  refine NoPanic.normal ?_
  clear hHeld
  have te13 : True := trivial
  have te14 : True := trivial
  go_wp2_with (first
      | (go_at_call 37; clear te13; refine (eqCE6S_big _ _ _ _ _ F _ hM1 HE.out HZ.out.o.row).mono ?_; rintro e w114 ⟨rfl, b_w114⟩; replace HZ := hid (HZ.out.below b_w114); clear b_w114)
      | (go_at_call 39; clear te14; refine (heldCE6S_big _ _ _ 1 _ hM1 (by omega) (by omega) HZ.out.h).mono ?_; rintro e w115 ⟨rfl, b_w115⟩; replace HZ := hid (HZ.out.below b_w115); clear b_w115))
  go_returns
  exact ⟨rfl, HB00.out.trans (HZ.out.bl.mono (by have := HB00.out.size; exact this))⟩

set_option maxRecDepth 100000 in
theorem lifted (os : Os) (started : os.Started) (H : Type) (enc : TypeId × Value → H) :
    ReturnsInHanded {} Try.checked os 9 .any (Rows.fnExactReceiveSpec.pre6 enc Try.prog Try.f9 Rows.fnExactReceiveRow.domain false) (Rows.fnExactReceiveSpec.post enc Try.prog Try.f9 false true false false) := by
  refine returnsInHanded_of_change (C := Try.checked) own started (by kernel_rfl) Try.func9
    (ChangeSpec.witness6 (enc := enc) (C := Try.checked) false ⟨#[], #[.slice none 0 0, .agg #[.string ByteArray.empty, .string ByteArray.empty, .string ByteArray.empty, .int .i64 0, .int .i64 0, .int .i64 0]], []⟩ 8 (by kernel_rfl) (by kernel_rfl) (by kernel_rfl) (by kernel_rfl)) ?_
  intro W base args ds gs before hval0 hW hcnd _
  have hval : ∀ (j : Nat) t v, Try.f9.params[j]? = some t → args[j]? = some v → Value.okWide Try.prog W .any base t v := hval0
  have hW' := hW
  obtain ⟨p, q, hA0, hV, rfl, hfz, hnd⟩ := hW
  have hA : DataW.TrodAll enc Try.prog W 0 (fun _ => true) true Try.f9.params.toList args.toList ds p := hA0
  rw [Try.params9] at hA hval
  obtain ⟨v0, vs0, d0, ds0, p0, q0, hargs, rfl, rfl, h0, r0⟩ := trodAll_cons hA
  obtain ⟨v1, vs1, d1, ds1, p1, q1, rfl, rfl, rfl, h1, r1⟩ := trodAll_cons r0
  obtain ⟨rfl, rfl, rfl⟩ := trodAll_nil r1
  obtain rfl : args = #[v0, v1] := by cases args; simp_all
  obtain ⟨rfl, rfl⟩ := trodVars_none hV
  have k0 := h0
  have lt0 : ∀ x ∈ p0, x.block < W.heap.size := by obtain ⟨m, hm⟩ := k0; exact DataW.trod_lt m _ _ _ hm
  have k1 := h1
  have lt1 : ∀ x ∈ p1, x.block < W.heap.size := by obtain ⟨m, hm⟩ := k1; exact DataW.trod_lt m _ _ _ hm
  obtain ⟨ad, len, cap, rfl⟩ := okWide_slice Try.underlying56 (hval 0 56 v0 rfl rfl)
  obtain ⟨c, hl, hc0, hc1, hc2, hr⟩ := CE6_of Try.underlying56 Try.underlying63 (by kernel_rfl) ⟨rfl, rfl, rfl, rfl, rfl, rfl⟩ ⟨by kernel_rfl, by kernel_rfl, by kernel_rfl, by kernel_rfl, by kernel_rfl, by kernel_rfl⟩ Try.underlying9 Try.underlying9 Try.underlying9 Try.underlying3 Try.underlying3 Try.underlying3 h0
  have hc : CZ c := fun j => ⟨hc0 j, hc1 j, hc2 j⟩
  obtain ⟨cx0, cx1, cx2, cx3, cx4, cx5, cy0, cy1, cy2, cy3, cy4, cy5, cnn, rfl, cg0, cg1, cg2, cg3, cg4, cg5⟩ := open_six Try.underlying63 (by kernel_rfl) ⟨rfl, rfl, rfl, rfl, rfl, rfl⟩ ⟨by kernel_rfl, by kernel_rfl, by kernel_rfl, by kernel_rfl, by kernel_rfl, by kernel_rfl⟩ (hval 1 63 v1 rfl rfl) h1
  obtain ⟨ca0, ce0, _, cz0⟩ := DataW.trod_string Try.underlying9 cg0
  obtain rfl : cx0 = .string ca0 := by simpa using ce0
  obtain ⟨ca1, ce1, _, cz1⟩ := DataW.trod_string Try.underlying9 cg1
  obtain rfl : cx1 = .string ca1 := by simpa using ce1
  obtain ⟨ca2, ce2, _, cz2⟩ := DataW.trod_string Try.underlying9 cg2
  obtain rfl : cx2 = .string ca2 := by simpa using ce2
  obtain ⟨ca3, ce3, _, _⟩ := DataW.trod_int Try.underlying3 cg3
  obtain rfl : cx3 = .int .i64 ca3 := by simpa using ce3
  obtain ⟨ca4, ce4, _, _⟩ := DataW.trod_int Try.underlying3 cg4
  obtain rfl : cx4 = .int .i64 ca4 := by simpa using ce4
  obtain ⟨ca5, ce5, _, _⟩ := DataW.trod_int Try.underlying3 cg5
  obtain rfl : cx5 = .int .i64 ca5 := by simpa using ce5
  clear hA0 hval0
  refine (walk ad len cap c ⟨ca0, ca1, ca2, ca3, ca4, ca5⟩ W hl hc hr ⟨cz0, cz1, cz2⟩).mono fun e W' ⟨he, hg⟩ => ?_
  subst he
  exact ⟨_, rfl, _, _, _, [], _, [], hW', (trodAll_cons_mk (shut_bool Try.underlying4 _) trodAll_mk0), (trodAll_cons_mk (Below.trod laidOut (by kernel_rfl) (of_decide_eq_true (by kernel_rfl)) k0 hg lt0) (trodAll_cons_mk (Below.trod laidOut (by kernel_rfl) (of_decide_eq_true (by kernel_rfl)) k1 hg lt1) trodAll_mk0)), rfl, hg.frame _, fun h => by cases h⟩

theorem over : Rows.fnExactReceiveRow.holds Try.pinned (OpenSpec.ofChange Rows.fnExactReceiveSpec) :=
  OpenClaim.holds_of_wide 9 Try.f9 rfl rfl rfl rfl rfl rfl rfl ⟨rfl, rfl, rfl, rfl, rfl⟩ rfl rfl rfl rfl rfl (by kernel_rfl) Try.func9 (by kernel_rfl)
    (of_decide_eq_true (by kernel_rfl)) (by unfold Func.isWrapper; first | (rw [if_pos (by decide +kernel)]; kernel_rfl) | (rw [if_neg (by decide +kernel)]; exact ⟨rfl, rfl⟩))
    (fun os started H enc _ => lifted os started H enc)

end Go.Proofs.Ytpmnnfjabppahaa.fnExactReceive

namespace Go.Proofs.Ytpmnnfjabppahaa
theorem fnExactReceive_holds : Rows.FnExactReceiveSaid := fnExactReceive.over
#print axioms fnExactReceive_holds
end Go.Proofs.Ytpmnnfjabppahaa
