/- A group that is opened; the program's GroupOk. -/
import Derived.Test.YtoihiamafbokbaaDoorGk
import Derived.Deep.RegionHeld3
import Derived.Deep.Cut
namespace Go.Proofs.YtoihiamafbokbaaDoor
open Go.ChangeShapes Go.WideShapes Go.ChangeAt Go.RowKit
set_option linter.unusedVariables false
set_option linter.unusedSimpArgs false

structure SO (fa : Option Addr) (len cap : Nat) (u : Int) (ra : Option Addr) (m rcap : Nat) (mi sf : Int) (w W : World) : Prop where
  cg : CB W w.heap.size #[.slice fa len cap, .int .i64 u, .slice ra m rcap, .int .i64 mi, .int .i64 sf] 31
  cz : CB W (w.heap.size + 1) #[.slice none 0 0, .int .i64 0, .int .i64 0, .pointer none, .slice none 0 0, .int .i64 0, .int .i64 0] 56
  cf : CB W (w.heap.size + 1 + 1) #[.slice fa len cap, .int .i64 1, .int .i64 u] 51
  bel : Below w.heap.size w W
section
variable {fa : Option Addr} {len cap : Nat} {u : Int} {ra : Option Addr} {m rcap : Nat} {mi sf : Int} {w W W' : World}
theorem SO.below (h : SO fa len cap u ra m rcap mi sf w W) (b : Below W.heap.size W W') : SO fa len cap u ra m rcap mi sf w W' := ⟨h.cg.below b h.cg.lt, h.cz.below b h.cz.lt, h.cf.below b h.cf.lt, bel_on h.bel b⟩
theorem SO.alloc (h : SO fa len cap u ra m rcap mi sf w W) (o : Obj) : SO fa len cap u ra m rcap mi sf w (W.alloc o) := h.below ((Below.refl _ _).alloc (Nat.le_refl _) o)
theorem SO.drewS (h : SO fa len cap u ra m rcap mi sf w W) : SO fa len cap u ra m rcap mi sf w W.drew := h.below (Below.refl _ _).drew
theorem SO.other (h : SO fa len cap u ra m rcap mi sf w W) {b : Nat} (o : Nat) (v : Value) (hb : w.heap.size + 1 + 1 < b) : SO fa len cap u ra m rcap mi sf w (W.setCell ⟨b, o, none⟩ v) := ⟨h.cg.other _ (by omega), h.cz.other _ (by omega), h.cf.other _ (by omega), h.bel.setCell (by show w.heap.size ≤ b; omega) _⟩
theorem SO.cells (h : SO fa len cap u ra m rcap mi sf w W) : W.cell? ⟨w.heap.size, 2, none⟩ = some (.slice ra m rcap) ∧ W.cell? ⟨w.heap.size, 3, none⟩ = some (.int .i64 mi) ∧ W.cell? ⟨w.heap.size, 4, none⟩ = some (.int .i64 sf) ∧ W.cell? ⟨w.heap.size + 1 + 1, 0, none⟩ = some (.slice fa len cap) ∧ W.cell? ⟨w.heap.size + 1 + 1, 1, none⟩ = some (.int .i64 1) ∧ W.cell? ⟨w.heap.size + 1 + 1, 2, none⟩ = some (.int .i64 u) := ⟨(h.cg.cell 2).trans rfl, (h.cg.cell 3).trans rfl, (h.cg.cell 4).trans rfl, (h.cf.cell 0).trans rfl, (h.cf.cell 1).trans rfl, (h.cf.cell 2).trans rfl⟩
end
set_option maxRecDepth 20000 in
set_option maxHeartbeats 4000000 in
theorem open_any (fa : Option Addr) (len cap : Nat) (c : Nat → C3) (u : Int) (ra : Option Addr) (m rcap : Nat) (ms : Nat → M4) (mi sf : Int) (w : World) (hl : (len : Int) ≤ 1048576) (hc : ∀ j, (c j).code.size ≤ maxLen) (hr : CR w fa len c) (hE : EL w) (hm : (m : Int) ≤ 1048576) (htn : ∀ j, j < m → ((ms j).tn : Int) ≤ 1048576) (HM : MR w ra m ms) :
    Calls Tryd.prog 24 #[gAgg fa len cap u ra m rcap mi sf] w fun e w' => ∃ T, e = .returned (.tuple #[.agg (oAgg fa len cap u T ra m rcap mi sf), .bool (grB len c u m ms mi sf)]) ∧ Tree w' T len c ∧ Below w.heap.size w w' := by
  unfold gAgg oAgg
  have HC : Hid (∀ j, (c j).code.size ≤ maxLen) := hc
  have HGR : Hid (∀ (W : World) (T : Nat), Tree W T len c → Below w.heap.size w W → Calls Tryd.prog 40 #[.agg (oAgg fa len cap u T ra m rcap mi sf)] W fun e w' => e = .returned (.bool (grB len c u m ms mi sf)) ∧ Below W.heap.size W w') := fun W T hT hB => groupRight_any fa len cap c u T ra m rcap ms mi sf W hl hT hm htn (HM.below hB)
  unfold oAgg at HGR
  have hso : SO fa len cap u ra m rcap mi sf w (((w.alloc (.cells #[.slice fa len cap, .int .i64 u, .slice ra m rcap, .int .i64 mi, .int .i64 sf] 31 (0, 0))).alloc (.cells #[.slice none 0 0, .int .i64 0, .int .i64 0, .pointer none, .slice none 0 0, .int .i64 0, .int .i64 0] 56 (0, 0))).alloc (.cells #[.slice fa len cap, .int .i64 1, .int .i64 u] 51 (0, 0))) := ⟨((CB.new _ _).alloc _).alloc _, (CB.newAt (by simp) _ _).alloc _, CB.newAt (by simp) _ _, (((Below.refl _ _).alloc (Nat.le_refl _) _).alloc (by simp) _).alloc (by simp; omega) _⟩
  have hr0 : CR (((w.alloc (.cells #[.slice fa len cap, .int .i64 u, .slice ra m rcap, .int .i64 mi, .int .i64 sf] 31 (0, 0))).alloc (.cells #[.slice none 0 0, .int .i64 0, .int .i64 0, .pointer none, .slice none 0 0, .int .i64 0, .int .i64 0] 56 (0, 0))).alloc (.cells #[.slice fa len cap, .int .i64 1, .int .i64 u] 51 (0, 0))).drew fa len c := (((hr.alloc _).alloc _).alloc _).drew'
  have he0 : EL (((w.alloc (.cells #[.slice fa len cap, .int .i64 u, .slice ra m rcap, .int .i64 mi, .int .i64 sf] 31 (0, 0))).alloc (.cells #[.slice none 0 0, .int .i64 0, .int .i64 0, .pointer none, .slice none 0 0, .int .i64 0, .int .i64 0] 56 (0, 0))).alloc (.cells #[.slice fa len cap, .int .i64 1, .int .i64 u] 51 (0, 0))).drew := (((hE.alloc' _).alloc' _).alloc' _).drew'
  have hsz : (((w.alloc (.cells #[.slice fa len cap, .int .i64 u, .slice ra m rcap, .int .i64 mi, .int .i64 sf] 31 (0, 0))).alloc (.cells #[.slice none 0 0, .int .i64 0, .int .i64 0, .pointer none, .slice none 0 0, .int .i64 0, .int .i64 0] 56 (0, 0))).alloc (.cells #[.slice fa len cap, .int .i64 1, .int .i64 u] 51 (0, 0))).heap.size = w.heap.size + 1 + 1 + 1 := by simp
  clear hc hr hE HM htn
  go_enter Tryd.func24, Tryd.ntmps24
  go_wp2
  generalize ((w.alloc (.cells #[.slice fa len cap, .int .i64 u, .slice ra m rcap, .int .i64 mi, .int .i64 sf] 31 (0, 0))).alloc (.cells #[.slice none 0 0, .int .i64 0, .int .i64 0, .pointer none, .slice none 0 0, .int .i64 0, .int .i64 0] 56 (0, 0))).alloc (.cells #[.slice fa len cap, .int .i64 1, .int .i64 u] 51 (0, 0)) = W0 at hso hr0 he0 hsz ⊢
  have SO0 : Hid (SO fa len cap u ra m rcap mi sf w W0) := hso
  have HR : Hid (CR W0.drew fa len c) := hr0
  have HE : Hid (EL W0.drew) := he0
  have HSZ : Hid (W0.heap.size = w.heap.size + 1 + 1 + 1) := hsz
  clear hso hr0 he0 hsz
  go_cut [5] from 11 (fun s5 wx => ∃ p5 T, s5 = .pointer (some ⟨p5, 0, none⟩) ∧ CB wx p5 #[.slice fa len cap, .int .i64 1, .int .i64 u, .pointer (some ⟨T, 0, none⟩), .slice ra m rcap, .int .i64 mi, .int .i64 sf] 56 ∧ CB wx (w.heap.size + 1) #[.slice none 0 0, .int .i64 0, .int .i64 0, .pointer none, .slice none 0 0, .int .i64 0, .int .i64 0] 56 ∧ w.heap.size + 1 < p5 ∧ TreeF wx (w.heap.size + 1 + 1) T len c ∧ Below w.heap.size w wx)
  case first =>
    refine wp_region_held_drew (S := fun w' => w'.cell? ⟨w.heap.size, 2, none⟩ = some (.slice ra m rcap) ∧ w'.cell? ⟨w.heap.size, 3, none⟩ = some (.int .i64 mi) ∧ w'.cell? ⟨w.heap.size, 4, none⟩ = some (.int .i64 sf) ∧ w'.cell? ⟨w.heap.size + 1 + 1, 0, none⟩ = some (.slice fa len cap) ∧ w'.cell? ⟨w.heap.size + 1 + 1, 1, none⟩ = some (.int .i64 1) ∧ w'.cell? ⟨w.heap.size + 1 + 1, 2, none⟩ = some (.int .i64 u)) (by kernel_rfl) (by exact SO0.out.drewS.cells) (fun hHeld => ?_)
    refine wpAnyH_take (i := 0) (oi := { dst := some 11, op := Go.Op.load 51 (Go.Operand.tmp 4), type := 51, pos := "l08_group.go:44", after := #[], guard := none }) (v := ?_) rfl (by kernel_rfl) (by kernel_rfl) (by kernel_rfl) (fun _ _ _ h => h) (Or.inl ⟨by rfl, ?_⟩) (by assumption) ?_
    rotate_left
    · (intro w hSw; (try dsimp only at hSw); go_simp <;> try with_reducible rfl)
    try simp only [Act.put, List.setIfInBounds_toArray, List.set_cons_zero, List.set_cons_succ]
    refine wpAnyH_take (i := 2) (oi := { dst := some 13, op := Go.Op.fieldAddr 31 (Go.Operand.tmp 1) 2, type := 0, pos := "l08_group.go:44", after := #[], guard := none }) (v := ?_) rfl (by kernel_rfl) (by kernel_rfl) (by kernel_rfl) (fun _ _ _ h => h) (Or.inl ⟨by rfl, ?_⟩) (by assumption) ?_
    rotate_left
    · (intro w hSw; (try dsimp only at hSw); go_simp <;> try with_reducible rfl)
    try simp only [Act.put, List.setIfInBounds_toArray, List.set_cons_zero, List.set_cons_succ]
    refine wpAnyH_take (i := 3) (oi := { dst := some 14, op := Go.Op.load 29 (Go.Operand.tmp 13), type := 29, pos := "l08_group.go:44", after := #[{ on := 2, ground := Go.Ground.data }], guard := none }) (v := ?_) rfl (by kernel_rfl) (by kernel_rfl) (by kernel_rfl) (fun _ _ _ h => h) (Or.inl ⟨by rfl, ?_⟩) (by assumption) ?_
    rotate_left
    · (intro w hSw; (try dsimp only at hSw); go_simp <;> try with_reducible rfl)
    try simp only [Act.put, List.setIfInBounds_toArray, List.set_cons_zero, List.set_cons_succ]
    refine wpAnyH_take (i := 4) (oi := { dst := some 15, op := Go.Op.fieldAddr 31 (Go.Operand.tmp 1) 3, type := 0, pos := "l08_group.go:44", after := #[], guard := none }) (v := ?_) rfl (by kernel_rfl) (by kernel_rfl) (by kernel_rfl) (fun _ _ _ h => h) (Or.inl ⟨by rfl, ?_⟩) (by assumption) ?_
    rotate_left
    · (intro w hSw; (try dsimp only at hSw); go_simp <;> try with_reducible rfl)
    try simp only [Act.put, List.setIfInBounds_toArray, List.set_cons_zero, List.set_cons_succ]
    refine wpAnyH_take (i := 5) (oi := { dst := some 16, op := Go.Op.load 3 (Go.Operand.tmp 15), type := 3, pos := "l08_group.go:44", after := #[{ on := 4, ground := Go.Ground.data }], guard := none }) (v := ?_) rfl (by kernel_rfl) (by kernel_rfl) (by kernel_rfl) (fun _ _ _ h => h) (Or.inl ⟨by rfl, ?_⟩) (by assumption) ?_
    rotate_left
    · (intro w hSw; (try dsimp only at hSw); go_simp <;> try with_reducible rfl)
    try simp only [Act.put, List.setIfInBounds_toArray, List.set_cons_zero, List.set_cons_succ]
    refine wpAnyH_take (i := 6) (oi := { dst := some 17, op := Go.Op.fieldAddr 31 (Go.Operand.tmp 1) 4, type := 0, pos := "l08_group.go:44", after := #[], guard := none }) (v := ?_) rfl (by kernel_rfl) (by kernel_rfl) (by kernel_rfl) (fun _ _ _ h => h) (Or.inl ⟨by rfl, ?_⟩) (by assumption) ?_
    rotate_left
    · (intro w hSw; (try dsimp only at hSw); go_simp <;> try with_reducible rfl)
    try simp only [Act.put, List.setIfInBounds_toArray, List.set_cons_zero, List.set_cons_succ]
    refine wpAnyH_take (i := 7) (oi := { dst := some 18, op := Go.Op.load 3 (Go.Operand.tmp 17), type := 3, pos := "l08_group.go:44", after := #[{ on := 6, ground := Go.Ground.data }], guard := none }) (v := ?_) rfl (by kernel_rfl) (by kernel_rfl) (by kernel_rfl) (fun _ _ _ h => h) (Or.inl ⟨by rfl, ?_⟩) (by assumption) ?_
    rotate_left
    · (intro w hSw; (try dsimp only at hSw); go_simp <;> try with_reducible rfl)
    try simp only [Act.put, List.setIfInBounds_toArray, List.set_cons_zero, List.set_cons_succ]
    refine wpAnyH_ready (rs := [1, 9]) (by kernel_rfl) (by simp) ?_
    refine AllReadyH.cons (o := { dst := some 12, op := Go.Op.call { callee := Go.Callee.value (Go.Operand.func 39), args := #[Go.Operand.tmp 11], argTypes := #[51] }, type := 54, pos := "l08_group.go:44", after := #[{ on := 0, ground := Go.Ground.data }], guard := none }) rfl (fun K hK => ?_) (AllReadyH.cons (o := { dst := some 5, op := Go.Op.alloc 56, type := 0, pos := "l08_group.go:44", after := #[], guard := none }) rfl (fun K hK => ?_) (AllReadyH.nil))
    · go_simp
      refine (lay_any _ _ _ c _ _ _ hl HC.out HR.out HE.out).mono ?_
      rintro e w1 ⟨T, rfl, hT, b1⟩
      have bb : Below W0.heap.size W0 w1 := ⟨b1.os, b1.tape, b1.output, b1.size, b1.block⟩
      have SA : Hid (SO fa len cap u ra m rcap mi sf w w1) := SO0.out.below bb
      have HTr : Hid (TreeF w1 W0.drew.heap.size T len c) := hT
      have hw1 : w.heap.size + 1 + 1 + 1 ≤ w1.heap.size := by have := bb.size; rw [HSZ.out] at this; exact this
      clear hT b1 bb
      first | refine hK.out _ _ (by exact SA.out.cells) (fun hHeld => ?_) | (go_wp2_with fail; refine hK.out _ _ (by exact SA.out.cells) (fun hHeld => ?_))
      clear hK K
      try simp only [Act.put, List.setIfInBounds_toArray, List.set_cons_zero, List.set_cons_succ]
      refine wpAnyH_take (i := 8) (oi := { dst := some 19, op := Go.Op.build 56 #[(0, Go.Operand.tmp 12), (1, Go.Operand.tmp 14), (2, Go.Operand.tmp 16), (3, Go.Operand.tmp 18)], type := 56, pos := "l08_group.go:44", after := #[{ on := 1, ground := Go.Ground.data }, { on := 3, ground := Go.Ground.data }, { on := 5, ground := Go.Ground.data }, { on := 7, ground := Go.Ground.data }], guard := none }) (v := ?_) rfl (by kernel_rfl) (by kernel_rfl) (by kernel_rfl) (fun _ _ _ h => h) (Or.inl ⟨by rfl, ?_⟩) (by assumption) ?_
      rotate_left
      · (intro w hSw; (try dsimp only at hSw); go_simp <;> try with_reducible rfl)
      try simp only [Act.put, List.setIfInBounds_toArray, List.set_cons_zero, List.set_cons_succ]
      refine wpAnyH_ready (rs := [9]) (by kernel_rfl) (by simp) ?_
      refine AllReadyH.cons (o := { dst := some 5, op := Go.Op.alloc 56, type := 0, pos := "l08_group.go:44", after := #[], guard := none }) rfl (fun K hK => ?_) (AllReadyH.nil)
      go_simp
      first | refine hK.out _ _ (by exact (SA.out.alloc _).cells) (fun hHeld => ?_) | (go_wp2_with fail; refine hK.out _ _ (by exact (SA.out.alloc _).cells) (fun hHeld => ?_))
      clear hK K
      try simp only [Act.put, List.setIfInBounds_toArray, List.set_cons_zero, List.set_cons_succ]
      refine wpAnyH_ready (rs := [10]) (by kernel_rfl) (by simp) ?_
      refine AllReadyH.cons (o := { dst := none, op := Go.Op.store 56 (Go.Operand.tmp 5) (Go.Operand.tmp 19), type := 0, pos := "l08_group.go:44", after := #[{ on := 9, ground := Go.Ground.data }, { on := 8, ground := Go.Ground.data }, { on := 1, ground := Go.Ground.chain }, { on := 0, ground := Go.Ground.phase }, { on := 1, ground := Go.Ground.phase }, { on := 2, ground := Go.Ground.phase }, { on := 3, ground := Go.Ground.phase }, { on := 4, ground := Go.Ground.phase }, { on := 5, ground := Go.Ground.phase }, { on := 6, ground := Go.Ground.phase }, { on := 7, ground := Go.Ground.phase }, { on := 8, ground := Go.Ground.phase }, { on := 9, ground := Go.Ground.phase }], guard := none }) rfl (fun K hK => ?_) (AllReadyH.nil)
      go_simp
      first | refine hK.out _ _ (by exact (SA.out.alloc _).cells) (fun hHeld => ?_) | (go_wp2_with fail; refine hK.out _ _ (by exact (SA.out.alloc _).cells) (fun hHeld => ?_))
      clear hK K
      try simp only [Act.put, List.setIfInBounds_toArray, List.set_cons_zero, List.set_cons_succ]
      refine wpAnyH_done (by kernel_rfl) ?_ _
      clear hHeld
      go_wp2_with fail
      go_meet
      exact ⟨_, T, rfl, CB.new _ _, SA.out.cz.alloc _, by omega, (HTr.out.lower (by have := HSZ.out; show w.heap.size + 1 + 1 ≤ W0.heap.size; omega)).alloc _, SA.out.bel.alloc SA.out.bel.size _⟩
    · go_simp
      first | refine hK.out _ _ (by exact (SO0.out.drewS.alloc _).cells) (fun hHeld => ?_) | (go_wp2_with fail; refine hK.out _ _ (by exact (SO0.out.drewS.alloc _).cells) (fun hHeld => ?_))
      clear hK K
      try simp only [Act.put, List.setIfInBounds_toArray, List.set_cons_zero, List.set_cons_succ]
      refine wpAnyH_ready (rs := [1]) (by kernel_rfl) (by simp) ?_
      refine AllReadyH.cons (o := { dst := some 12, op := Go.Op.call { callee := Go.Callee.value (Go.Operand.func 39), args := #[Go.Operand.tmp 11], argTypes := #[51] }, type := 54, pos := "l08_group.go:44", after := #[{ on := 0, ground := Go.Ground.data }], guard := none }) rfl (fun K hK => ?_) (AllReadyH.nil)
      go_simp
      refine (lay_any _ _ _ c _ _ _ hl HC.out (HR.out.alloc _) (HE.out.alloc' _)).mono ?_
      rintro e w1 ⟨T, rfl, hT, b1⟩
      have bb : Below W0.heap.size W0 w1 := by have b0 : Below W0.drew.heap.size W0.drew w1 := bel_on ((Below.refl _ _).alloc (Nat.le_refl _) _) b1; exact ⟨b0.os, b0.tape, b0.output, b0.size, b0.block⟩
      have SA : Hid (SO fa len cap u ra m rcap mi sf w w1) := SO0.out.below bb
      have HTr : Hid (TreeF w1 (W0.drew.alloc (.cells #[.slice none 0 0, .int .i64 0, .int .i64 0, .pointer none, .slice none 0 0, .int .i64 0, .int .i64 0] 56 (0, 0))).heap.size T len c) := hT
      have C5 : CB w1 W0.heap.size #[.slice none 0 0, .int .i64 0, .int .i64 0, .pointer none, .slice none 0 0, .int .i64 0, .int .i64 0] 56 := (CB.newAt (by rfl) _ _).below b1 (by simp)
      have HC5 : Hid (CB w1 W0.heap.size #[.slice none 0 0, .int .i64 0, .int .i64 0, .pointer none, .slice none 0 0, .int .i64 0, .int .i64 0] 56) := C5
      have m0 := (C5.cell 0).trans rfl
      have m1 := (C5.cell 1).trans rfl
      have m2 := (C5.cell 2).trans rfl
      have m3 := (C5.cell 3).trans rfl
      have m4 := (C5.cell 4).trans rfl
      have m5 := (C5.cell 5).trans rfl
      have m6 := (C5.cell 6).trans rfl
      have f0 := C5.fr 0
      have f1 := C5.fr 1
      have f2 := C5.fr 2
      have f3 := C5.fr 3
      have f4 := C5.fr 4
      have f5 := C5.fr 5
      have f6 := C5.fr 6
      clear C5
      have hw1 : w.heap.size + 1 + 1 + 1 ≤ w1.heap.size := by have := bb.size; rw [HSZ.out] at this; exact this
      clear hT b1 bb
      first | refine hK.out _ _ (by exact SA.out.cells) (fun hHeld => ?_) | (go_wp2_with fail; refine hK.out _ _ (by exact SA.out.cells) (fun hHeld => ?_))
      clear hK K
      try simp only [Act.put, List.setIfInBounds_toArray, List.set_cons_zero, List.set_cons_succ]
      refine wpAnyH_take (i := 8) (oi := { dst := some 19, op := Go.Op.build 56 #[(0, Go.Operand.tmp 12), (1, Go.Operand.tmp 14), (2, Go.Operand.tmp 16), (3, Go.Operand.tmp 18)], type := 56, pos := "l08_group.go:44", after := #[{ on := 1, ground := Go.Ground.data }, { on := 3, ground := Go.Ground.data }, { on := 5, ground := Go.Ground.data }, { on := 7, ground := Go.Ground.data }], guard := none }) (v := ?_) rfl (by kernel_rfl) (by kernel_rfl) (by kernel_rfl) (fun _ _ _ h => h) (Or.inl ⟨by rfl, ?_⟩) (by assumption) ?_
      rotate_left
      · (intro w hSw; (try dsimp only at hSw); go_simp <;> try with_reducible rfl)
      try simp only [Act.put, List.setIfInBounds_toArray, List.set_cons_zero, List.set_cons_succ]
      refine wpAnyH_ready (rs := [10]) (by kernel_rfl) (by simp) ?_
      refine AllReadyH.cons (o := { dst := none, op := Go.Op.store 56 (Go.Operand.tmp 5) (Go.Operand.tmp 19), type := 0, pos := "l08_group.go:44", after := #[{ on := 9, ground := Go.Ground.data }, { on := 8, ground := Go.Ground.data }, { on := 1, ground := Go.Ground.chain }, { on := 0, ground := Go.Ground.phase }, { on := 1, ground := Go.Ground.phase }, { on := 2, ground := Go.Ground.phase }, { on := 3, ground := Go.Ground.phase }, { on := 4, ground := Go.Ground.phase }, { on := 5, ground := Go.Ground.phase }, { on := 6, ground := Go.Ground.phase }, { on := 7, ground := Go.Ground.phase }, { on := 8, ground := Go.Ground.phase }, { on := 9, ground := Go.Ground.phase }], guard := none }) rfl (fun K hK => ?_) (AllReadyH.nil)
      have hp5 : w.heap.size + 1 + 1 < W0.heap.size := by rw [HSZ.out]; omega
      have SX : Hid (SO fa len cap u ra m rcap mi sf w (((((((w1.setCell ⟨W0.heap.size, 0, none⟩ (.slice fa len cap)).setCell ⟨W0.heap.size, 1, none⟩ (.int .i64 1)).setCell ⟨W0.heap.size, 2, none⟩ (.int .i64 u)).setCell ⟨W0.heap.size, 3, none⟩ (.pointer (some ⟨T, 0, none⟩))).setCell ⟨W0.heap.size, 4, none⟩ (.slice ra m rcap)).setCell ⟨W0.heap.size, 5, none⟩ (.int .i64 mi)).setCell ⟨W0.heap.size, 6, none⟩ (.int .i64 sf))) := (((((((SA.out.other 0 (.slice fa len cap) hp5).other 1 (.int .i64 1) hp5).other 2 (.int .i64 u) hp5).other 3 (.pointer (some ⟨T, 0, none⟩)) hp5).other 4 (.slice ra m rcap) hp5).other 5 (.int .i64 mi) hp5).other 6 (.int .i64 sf) hp5)
      have HX5 : Hid (CB (((((((w1.setCell ⟨W0.heap.size, 0, none⟩ (.slice fa len cap)).setCell ⟨W0.heap.size, 1, none⟩ (.int .i64 1)).setCell ⟨W0.heap.size, 2, none⟩ (.int .i64 u)).setCell ⟨W0.heap.size, 3, none⟩ (.pointer (some ⟨T, 0, none⟩))).setCell ⟨W0.heap.size, 4, none⟩ (.slice ra m rcap)).setCell ⟨W0.heap.size, 5, none⟩ (.int .i64 mi)).setCell ⟨W0.heap.size, 6, none⟩ (.int .i64 sf)) (W0.heap.size) #[.slice fa len cap, .int .i64 1, .int .i64 u, .pointer (some ⟨T, 0, none⟩), .slice ra m rcap, .int .i64 mi, .int .i64 sf] 56) := (((((((HC5.out.set 0 (.slice fa len cap)).set 1 (.int .i64 1)).set 2 (.int .i64 u)).set 3 (.pointer (some ⟨T, 0, none⟩))).set 4 (.slice ra m rcap)).set 5 (.int .i64 mi)).set 6 (.int .i64 sf))
      have h5 : W0.heap.size < (W0.drew.alloc (.cells #[.slice none 0 0, .int .i64 0, .int .i64 0, .pointer none, .slice none 0 0, .int .i64 0, .int .i64 0] 56 (0, 0))).heap.size := by simp
      have HTX : Hid (TreeF (((((((w1.setCell ⟨W0.heap.size, 0, none⟩ (.slice fa len cap)).setCell ⟨W0.heap.size, 1, none⟩ (.int .i64 1)).setCell ⟨W0.heap.size, 2, none⟩ (.int .i64 u)).setCell ⟨W0.heap.size, 3, none⟩ (.pointer (some ⟨T, 0, none⟩))).setCell ⟨W0.heap.size, 4, none⟩ (.slice ra m rcap)).setCell ⟨W0.heap.size, 5, none⟩ (.int .i64 mi)).setCell ⟨W0.heap.size, 6, none⟩ (.int .i64 sf)) (w.heap.size + 1 + 1) T len c) := (((((((HTr.out.other 0 (.slice fa len cap) h5).other 1 (.int .i64 1) h5).other 2 (.int .i64 u) h5).other 3 (.pointer (some ⟨T, 0, none⟩)) h5).other 4 (.slice ra m rcap) h5).other 5 (.int .i64 mi) h5).other 6 (.int .i64 sf) h5).lower (by omega)
      clear h5 hp5
      go_simp
      first | refine hK.out _ _ (by exact SX.out.cells) (fun hHeld => ?_) | (go_wp2_with fail; refine hK.out _ _ (by exact SX.out.cells) (fun hHeld => ?_))
      clear hK K
      try simp only [Act.put, List.setIfInBounds_toArray, List.set_cons_zero, List.set_cons_succ]
      refine wpAnyH_done (by kernel_rfl) ?_ _
      clear hHeld m0 m1 m2 m3 m4 m5 m6 f0 f1 f2 f3 f4 f5 f6
      go_wp2_with fail
      go_meet
      exact ⟨_, T, rfl, HX5.out, SX.out.cz, by have := HSZ.out; omega, HTX.out, SX.out.bel⟩
  case rest =>
    obtain ⟨wd, hwd⟩ : ∃ wd, wd = wc := ⟨_, rfl⟩
    subst hwd
    obtain ⟨p5, T, rfl, hc5, hcz, hp5, htr, hbx⟩ := hcut
    have HP : Hid (CB wd.drew p5 #[.slice fa len cap, .int .i64 1, .int .i64 u, .pointer (some ⟨T, 0, none⟩), .slice ra m rcap, .int .i64 mi, .int .i64 sf] 56) := hc5
    have HQ : Hid (CB wd.drew (w.heap.size + 1) #[.slice none 0 0, .int .i64 0, .int .i64 0, .pointer none, .slice none 0 0, .int .i64 0, .int .i64 0] 56) := hcz
    have HTr : Hid (TreeF wd.drew (w.heap.size + 1 + 1) T len c) := htr.below (Below.refl _ _).drew
    have HBx : Hid (Below w.heap.size w wd.drew) := hbx.drew
    clear hc5 hcz htr hbx
    go_wp2_with fail
    refine wp_region_held_drew (S := fun w' => w'.cell? ⟨p5, 0, none⟩ = some (.slice fa len cap) ∧ w'.cell? ⟨p5, 1, none⟩ = some (.int .i64 1) ∧ w'.cell? ⟨p5, 2, none⟩ = some (.int .i64 u) ∧ w'.cell? ⟨p5, 3, none⟩ = some (.pointer (some ⟨T, 0, none⟩)) ∧ w'.cell? ⟨p5, 4, none⟩ = some (.slice ra m rcap) ∧ w'.cell? ⟨p5, 5, none⟩ = some (.int .i64 mi) ∧ w'.cell? ⟨p5, 6, none⟩ = some (.int .i64 sf)) (by kernel_rfl) (by exact ⟨(HP.out.cell 0).trans rfl, (HP.out.cell 1).trans rfl, (HP.out.cell 2).trans rfl, (HP.out.cell 3).trans rfl, (HP.out.cell 4).trans rfl, (HP.out.cell 5).trans rfl, (HP.out.cell 6).trans rfl⟩) (fun hHeld => ?_)
    refine wpAnyH_take (i := 0) (oi := { dst := some 20, op := Go.Op.load 56 (Go.Operand.tmp 5), type := 56, pos := "l08_group.go:45", after := #[], guard := none }) (v := ?_) rfl (by kernel_rfl) (by kernel_rfl) (by kernel_rfl) (fun _ _ _ h => h) (Or.inl ⟨by rfl, ?_⟩) (by assumption) ?_
    rotate_left
    · (intro w hSw; (try dsimp only at hSw); go_simp <;> try with_reducible rfl)
    try simp only [Act.put, List.setIfInBounds_toArray, List.set_cons_zero, List.set_cons_succ]
    refine wpAnyH_take (i := 1) (oi := { dst := some 21, op := Go.Op.load 56 (Go.Operand.tmp 5), type := 56, pos := "l08_group.go:45", after := #[], guard := none }) (v := ?_) rfl (by kernel_rfl) (by kernel_rfl) (by kernel_rfl) (fun _ _ _ h => h) (Or.inl ⟨by rfl, ?_⟩) (by assumption) ?_
    rotate_left
    · (intro w hSw; (try dsimp only at hSw); go_simp <;> try with_reducible rfl)
    try simp only [Act.put, List.setIfInBounds_toArray, List.set_cons_zero, List.set_cons_succ]
    refine wpAnyH_ready (rs := [2]) (by kernel_rfl) (by simp) ?_
    refine AllReadyH.cons (o := { dst := some 22, op := Go.Op.call { callee := Go.Callee.value (Go.Operand.func 40), args := #[Go.Operand.tmp 21], argTypes := #[56] }, type := 4, pos := "l08_group.go:45", after := #[{ on := 1, ground := Go.Ground.data }], guard := none }) rfl (fun K hK => ?_) (AllReadyH.nil)
    go_simp
    refine (HGR.out _ T HTr.out.tree HBx.out).mono ?_
    rintro e w2 ⟨rfl, b2⟩
    have HP2 : Hid (CB w2 p5 #[.slice fa len cap, .int .i64 1, .int .i64 u, .pointer (some ⟨T, 0, none⟩), .slice ra m rcap, .int .i64 mi, .int .i64 sf] 56) := HP.out.below b2 HP.out.lt
    have HQ2 : Hid (CB w2 (w.heap.size + 1) #[.slice none 0 0, .int .i64 0, .int .i64 0, .pointer none, .slice none 0 0, .int .i64 0, .int .i64 0] 56) := HQ.out.below b2 HQ.out.lt
    have HT2 : Hid (TreeF w2 (w.heap.size + 1 + 1) T len c) := HTr.out.below b2
    have HB2 : Hid (Below w.heap.size w w2) := bel_on HBx.out b2
    clear b2
    first | refine hK.out _ _ (by exact ⟨(HP2.out.cell 0).trans rfl, (HP2.out.cell 1).trans rfl, (HP2.out.cell 2).trans rfl, (HP2.out.cell 3).trans rfl, (HP2.out.cell 4).trans rfl, (HP2.out.cell 5).trans rfl, (HP2.out.cell 6).trans rfl⟩) (fun hHeld => ?_) | (go_wp2_with fail; refine hK.out _ _ (by exact ⟨(HP2.out.cell 0).trans rfl, (HP2.out.cell 1).trans rfl, (HP2.out.cell 2).trans rfl, (HP2.out.cell 3).trans rfl, (HP2.out.cell 4).trans rfl, (HP2.out.cell 5).trans rfl, (HP2.out.cell 6).trans rfl⟩) (fun hHeld => ?_))
    clear hK K
    try simp only [Act.put, List.setIfInBounds_toArray, List.set_cons_zero, List.set_cons_succ]
    refine wpAnyH_ready (rs := [3]) (by kernel_rfl) (by simp) ?_
    refine AllReadyH.cons (o := { dst := none, op := Go.Op.store 56 (Go.Operand.tmp 2) (Go.Operand.tmp 20), type := 0, pos := "l08_group.go:45", after := #[{ on := 0, ground := Go.Ground.data }, { on := 2, ground := Go.Ground.chain }, { on := 0, ground := Go.Ground.phase }, { on := 1, ground := Go.Ground.textOnly Go.Departure.lateStores }, { on := 2, ground := Go.Ground.textOnly Go.Departure.lateStoresUnsure }], guard := none }) rfl (fun K hK => ?_) (AllReadyH.nil)
    have t0 : w2.cell? ⟨w.heap.size + 1, 0, none⟩ = _ := (HQ2.out.cell 0).trans rfl
    have t1 : w2.cell? ⟨w.heap.size + 1, 1, none⟩ = _ := (HQ2.out.cell 1).trans rfl
    have t2 : w2.cell? ⟨w.heap.size + 1, 2, none⟩ = _ := (HQ2.out.cell 2).trans rfl
    have t3 : w2.cell? ⟨w.heap.size + 1, 3, none⟩ = _ := (HQ2.out.cell 3).trans rfl
    have t4 : w2.cell? ⟨w.heap.size + 1, 4, none⟩ = _ := (HQ2.out.cell 4).trans rfl
    have t5 : w2.cell? ⟨w.heap.size + 1, 5, none⟩ = _ := (HQ2.out.cell 5).trans rfl
    have t6 : w2.cell? ⟨w.heap.size + 1, 6, none⟩ = _ := (HQ2.out.cell 6).trans rfl
    have f0 : w2.frozen? ⟨w.heap.size + 1, 0, none⟩ = false := HQ2.out.fr 0
    have f1 : w2.frozen? ⟨w.heap.size + 1, 1, none⟩ = false := HQ2.out.fr 1
    have f2 : w2.frozen? ⟨w.heap.size + 1, 2, none⟩ = false := HQ2.out.fr 2
    have f3 : w2.frozen? ⟨w.heap.size + 1, 3, none⟩ = false := HQ2.out.fr 3
    have f4 : w2.frozen? ⟨w.heap.size + 1, 4, none⟩ = false := HQ2.out.fr 4
    have f5 : w2.frozen? ⟨w.heap.size + 1, 5, none⟩ = false := HQ2.out.fr 5
    have f6 : w2.frozen? ⟨w.heap.size + 1, 6, none⟩ = false := HQ2.out.fr 6
    have HP3 : Hid (CB (((((((w2.setCell ⟨w.heap.size + 1, 0, none⟩ (.slice fa len cap)).setCell ⟨w.heap.size + 1, 1, none⟩ (.int .i64 1)).setCell ⟨w.heap.size + 1, 2, none⟩ (.int .i64 u)).setCell ⟨w.heap.size + 1, 3, none⟩ (.pointer (some ⟨T, 0, none⟩))).setCell ⟨w.heap.size + 1, 4, none⟩ (.slice ra m rcap)).setCell ⟨w.heap.size + 1, 5, none⟩ (.int .i64 mi)).setCell ⟨w.heap.size + 1, 6, none⟩ (.int .i64 sf)) p5 #[.slice fa len cap, .int .i64 1, .int .i64 u, .pointer (some ⟨T, 0, none⟩), .slice ra m rcap, .int .i64 mi, .int .i64 sf] 56) := (((((((HP2.out.other (c := w.heap.size + 1) (o := 0) (.slice fa len cap) (by omega)).other (c := w.heap.size + 1) (o := 1) (.int .i64 1) (by omega)).other (c := w.heap.size + 1) (o := 2) (.int .i64 u) (by omega)).other (c := w.heap.size + 1) (o := 3) (.pointer (some ⟨T, 0, none⟩)) (by omega)).other (c := w.heap.size + 1) (o := 4) (.slice ra m rcap) (by omega)).other (c := w.heap.size + 1) (o := 5) (.int .i64 mi) (by omega)).other (c := w.heap.size + 1) (o := 6) (.int .i64 sf) (by omega))
    have HQ3 : Hid (CB (((((((w2.setCell ⟨w.heap.size + 1, 0, none⟩ (.slice fa len cap)).setCell ⟨w.heap.size + 1, 1, none⟩ (.int .i64 1)).setCell ⟨w.heap.size + 1, 2, none⟩ (.int .i64 u)).setCell ⟨w.heap.size + 1, 3, none⟩ (.pointer (some ⟨T, 0, none⟩))).setCell ⟨w.heap.size + 1, 4, none⟩ (.slice ra m rcap)).setCell ⟨w.heap.size + 1, 5, none⟩ (.int .i64 mi)).setCell ⟨w.heap.size + 1, 6, none⟩ (.int .i64 sf)) (w.heap.size + 1) #[.slice fa len cap, .int .i64 1, .int .i64 u, .pointer (some ⟨T, 0, none⟩), .slice ra m rcap, .int .i64 mi, .int .i64 sf] 56) := (((((((HQ2.out.set 0 (.slice fa len cap)).set 1 (.int .i64 1)).set 2 (.int .i64 u)).set 3 (.pointer (some ⟨T, 0, none⟩))).set 4 (.slice ra m rcap)).set 5 (.int .i64 mi)).set 6 (.int .i64 sf))
    have HB3 : Hid (Below w.heap.size w (((((((w2.setCell ⟨w.heap.size + 1, 0, none⟩ (.slice fa len cap)).setCell ⟨w.heap.size + 1, 1, none⟩ (.int .i64 1)).setCell ⟨w.heap.size + 1, 2, none⟩ (.int .i64 u)).setCell ⟨w.heap.size + 1, 3, none⟩ (.pointer (some ⟨T, 0, none⟩))).setCell ⟨w.heap.size + 1, 4, none⟩ (.slice ra m rcap)).setCell ⟨w.heap.size + 1, 5, none⟩ (.int .i64 mi)).setCell ⟨w.heap.size + 1, 6, none⟩ (.int .i64 sf))) := (((((((HB2.out.setCell (p := ⟨w.heap.size + 1, 0, none⟩) (by simp) (.slice fa len cap)).setCell (p := ⟨w.heap.size + 1, 1, none⟩) (by simp) (.int .i64 1)).setCell (p := ⟨w.heap.size + 1, 2, none⟩) (by simp) (.int .i64 u)).setCell (p := ⟨w.heap.size + 1, 3, none⟩) (by simp) (.pointer (some ⟨T, 0, none⟩))).setCell (p := ⟨w.heap.size + 1, 4, none⟩) (by simp) (.slice ra m rcap)).setCell (p := ⟨w.heap.size + 1, 5, none⟩) (by simp) (.int .i64 mi)).setCell (p := ⟨w.heap.size + 1, 6, none⟩) (by simp) (.int .i64 sf))
    have HT3 : Hid (TreeF (((((((w2.setCell ⟨w.heap.size + 1, 0, none⟩ (.slice fa len cap)).setCell ⟨w.heap.size + 1, 1, none⟩ (.int .i64 1)).setCell ⟨w.heap.size + 1, 2, none⟩ (.int .i64 u)).setCell ⟨w.heap.size + 1, 3, none⟩ (.pointer (some ⟨T, 0, none⟩))).setCell ⟨w.heap.size + 1, 4, none⟩ (.slice ra m rcap)).setCell ⟨w.heap.size + 1, 5, none⟩ (.int .i64 mi)).setCell ⟨w.heap.size + 1, 6, none⟩ (.int .i64 sf)) (w.heap.size + 1 + 1) T len c) := (((((((HT2.out.other 0 (.slice fa len cap) (by omega)).other 1 (.int .i64 1) (by omega)).other 2 (.int .i64 u) (by omega)).other 3 (.pointer (some ⟨T, 0, none⟩)) (by omega)).other 4 (.slice ra m rcap) (by omega)).other 5 (.int .i64 mi) (by omega)).other 6 (.int .i64 sf) (by omega))
    go_simp
    first | refine hK.out _ _ (by exact ⟨(HP3.out.cell 0).trans rfl, (HP3.out.cell 1).trans rfl, (HP3.out.cell 2).trans rfl, (HP3.out.cell 3).trans rfl, (HP3.out.cell 4).trans rfl, (HP3.out.cell 5).trans rfl, (HP3.out.cell 6).trans rfl⟩) (fun hHeld => ?_) | (go_wp2_with fail; refine hK.out _ _ (by exact ⟨(HP3.out.cell 0).trans rfl, (HP3.out.cell 1).trans rfl, (HP3.out.cell 2).trans rfl, (HP3.out.cell 3).trans rfl, (HP3.out.cell 4).trans rfl, (HP3.out.cell 5).trans rfl, (HP3.out.cell 6).trans rfl⟩) (fun hHeld => ?_))
    clear hK K
    try simp only [Act.put, List.setIfInBounds_toArray, List.set_cons_zero, List.set_cons_succ]
    clear t0 f0 t1 f1 t2 f2 t3 f3 t4 f4 t5 f5 t6 f6
    refine wpAnyH_take (i := 4) (oi := { dst := some 3, op := Go.Op.assign (Go.Operand.tmp 22), type := 4, pos := "l08_group.go:45", after := #[{ on := 2, ground := Go.Ground.data }, { on := 3, ground := Go.Ground.chain }, { on := 0, ground := Go.Ground.phase }, { on := 1, ground := Go.Ground.phase }, { on := 2, ground := Go.Ground.phase }, { on := 3, ground := Go.Ground.phase }], guard := none }) (v := ?_) rfl (by kernel_rfl) (by kernel_rfl) (by kernel_rfl) (fun _ _ _ h => h) (Or.inl ⟨by rfl, ?_⟩) (by assumption) ?_
    rotate_left
    · (intro w hSw; (try dsimp only at hSw); go_simp <;> try with_reducible rfl)
    try simp only [Act.put, List.setIfInBounds_toArray, List.set_cons_zero, List.set_cons_succ]
    refine wpAnyH_done (by kernel_rfl) ?_ _
    clear hHeld
    go_wp2_with fail
    generalize (((((((w2.setCell ⟨w.heap.size + 1, 0, none⟩ (.slice fa len cap)).setCell ⟨w.heap.size + 1, 1, none⟩ (.int .i64 1)).setCell ⟨w.heap.size + 1, 2, none⟩ (.int .i64 u)).setCell ⟨w.heap.size + 1, 3, none⟩ (.pointer (some ⟨T, 0, none⟩))).setCell ⟨w.heap.size + 1, 4, none⟩ (.slice ra m rcap)).setCell ⟨w.heap.size + 1, 5, none⟩ (.int .i64 mi)).setCell ⟨w.heap.size + 1, 6, none⟩ (.int .i64 sf)) = W5 at HQ3 HB3 HT3 ⊢
    have e0 := (HQ3.out.cell 0).trans rfl
    have e1 := (HQ3.out.cell 1).trans rfl
    have e2 := (HQ3.out.cell 2).trans rfl
    have e3 := (HQ3.out.cell 3).trans rfl
    have e4 := (HQ3.out.cell 4).trans rfl
    have e5 := (HQ3.out.cell 5).trans rfl
    have e6 := (HQ3.out.cell 6).trans rfl
    refine bodyPost_ret (by simp [results, Tryd.results24, go_sem, e0, e1, e2, e3, e4, e5, e6]; try rfl) rfl ?_
    exact ⟨T, rfl, HT3.out.tree, HB3.out⟩
end Go.Proofs.YtoihiamafbokbaaDoor
