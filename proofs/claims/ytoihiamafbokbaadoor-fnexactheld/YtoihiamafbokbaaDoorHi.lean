/- The program's Held. -/
import Derived.Test.YtoihiamafbokbaaDoorHe
import Derived.Test.YtoihiamafbokbaaDoorMj
namespace Go.Proofs.YtoihiamafbokbaaDoor
open Go Go.ChangeShapes Go.WideShapes Go.ChangeAt Go.RowKit
set_option linter.unusedVariables false
set_option linter.unusedSimpArgs false

theorem row_of_block {w : World} {b m base : Nat} {cs : Array Value} {ms : Nat → M4} (h : CB w b cs 3) (hs : cs.size = m) (hm : (m : Int) ≤ 1048576) (hb : base ≤ b) (hc : ∀ j, j < m → cs[j]? = some (.int .i64 (hF ms j))) : w.ownsRow base 3 1 (.slice (some ⟨b, 0, none⟩) m m) m (ivs (hL ms m)) := by
  refine ⟨by simp [ivs, hL], .inr ⟨b, m, cs, rfl, hb, h, by first | omega | (unfold maxLen; omega), by first | omega | (unfold maxLen; omega), by first | omega | (unfold maxLen; omega), ?_⟩⟩
  apply List.ext_getElem?
  intro j
  by_cases hj : j < m
  · rw [hL_get hj, List.getElem?_take, if_pos (by omega)]
    simpa using hc j hj
  · rw [List.getElem?_eq_none (by simp; omega), List.getElem?_eq_none (by simp [ivs, hL]; omega)]

set_option maxRecDepth 20000 in
set_option maxHeartbeats 4000000 in
theorem held_any (fa : Option Addr) (len cap : Nat) (u : Int) (T : Nat) (ra : Option Addr) (m rcap : Nat) (ms : Nat → M4) (mi sf : Int) (w : World) (hm : (m : Int) ≤ 1048576) (hm1 : 0 < m) (HMH0 : ∀ i, i < m → MHeld i (ms i)) (HM : MR w ra m ms) :
    Calls Tryd.prog 28 #[.agg (oAgg fa len cap u T ra m rcap mi sf)] w fun e w' => ∃ adv capv, e = .returned (.slice adv m capv) ∧ w'.ownsRow w.heap.size 3 1 (.slice adv m capv) m (ivs (hL ms m)) ∧ Below w.heap.size w w' := by
  unfold oAgg
  have HME : Hid (MR w ra m ms) := HM
  have HMH : Hid (∀ i, i < m → MHeld i (ms i)) := HMH0
  have hmk := mkI m hm
  have hm2 : (0 : Int) < (m : Int) := by omega
  have hc0 : CB ((w.alloc (.cells #[.slice fa len cap, .int .i64 1, .int .i64 u, .pointer (some ⟨T, 0, none⟩), .slice ra m rcap, .int .i64 mi, .int .i64 sf] 56 (0, 0))).alloc (.cells (zeros m) 3 (0, 0))) (w.heap.size + 1) (zeros m) 3 := CB.newAt (by simp) _ _
  obtain ⟨v0, hv0⟩ : ∃ v, (zeros m)[0]? = some v := ⟨(zeros m)[0]'(by rw [zeros_size]; omega), Array.getElem?_eq_getElem _⟩
  have k0 := (hc0.cell 0).trans hv0
  have k1 := hc0.fr 0
  have HC0 : Hid (CB ((w.alloc (.cells #[.slice fa len cap, .int .i64 1, .int .i64 u, .pointer (some ⟨T, 0, none⟩), .slice ra m rcap, .int .i64 mi, .int .i64 sf] 56 (0, 0))).alloc (.cells (zeros m) 3 (0, 0))) (w.heap.size + 1) (zeros m) 3) := hc0
  have HO0 : Hid (CB ((w.alloc (.cells #[.slice fa len cap, .int .i64 1, .int .i64 u, .pointer (some ⟨T, 0, none⟩), .slice ra m rcap, .int .i64 mi, .int .i64 sf] 56 (0, 0))).alloc (.cells (zeros m) 3 (0, 0))) w.heap.size #[.slice fa len cap, .int .i64 1, .int .i64 u, .pointer (some ⟨T, 0, none⟩), .slice ra m rcap, .int .i64 mi, .int .i64 sf] 56) := (CB.new _ _).alloc _
  have HB0 : Hid (Below w.heap.size w ((w.alloc (.cells #[.slice fa len cap, .int .i64 1, .int .i64 u, .pointer (some ⟨T, 0, none⟩), .slice ra m rcap, .int .i64 mi, .int .i64 sf] 56 (0, 0))).alloc (.cells (zeros m) 3 (0, 0)))) := ((Below.refl _ _).alloc (Nat.le_refl _) _).alloc (by simp) _
  clear HM HMH0 hc0 hv0
  go_enter Tryd.func28, Tryd.ntmps28
  go_wp2
  clear hmk
  go_loopw [4] (fun i wr => ∃ (k : Nat) (cs : Array Value), 0 < k ∧ k ≤ m ∧ i = .int .i64 (k : Int) ∧ Hid (CB wr (w.heap.size + 1) cs 3 ∧ cs.size = m ∧ (∀ j, j < k → cs[j]? = some (.int .i64 (hF ms j))) ∧ CB wr w.heap.size #[.slice fa len cap, .int .i64 1, .int .i64 u, .pointer (some ⟨T, 0, none⟩), .slice ra m rcap, .int .i64 mi, .int .i64 sf] 56 ∧ Below w.heap.size w wr)) (fun i _ => m - (intOf i).toNat)
  case atStart =>
    refine ⟨1, (zeros m).setIfInBounds 0 (.int .i64 10000), by omega, by omega, rfl, CB.newAt (by simp) _ _, by simp [zeros_size], fun j hj => ?_, (CB.new _ _).alloc _, ((Below.refl _ _).alloc (Nat.le_refl _) _).alloc (by simp) _⟩
    obtain rfl : j = 0 := by omega
    rw [get_set_eq (by rw [zeros_size]; omega), hF_zero]
  case round =>
    clear k0 k1 HC0 HO0 HB0
    obtain ⟨k, cs, hk0, hk, rfl, HK⟩ := hrel
    have y4 := (HK.out.2.2.2.1.cell 4).trans rfl
    by_cases hlt : k < m
    · have hlt2 : (k : Int) < (m : Int) := by omega
      have hmh := HMH.out k hlt
      obtain ⟨p, hp⟩ : ∃ p : Nat, (ms k).par = (p : Int) := ⟨(ms k).par.toNat, by unfold MHeld at hmh; omega⟩
      have hpk : p < k := by unfold MHeld at hmh; omega
      have hpm : (p : Int) < (m : Int) := by omega
      have hst := hF_step hk0 hp hpk
      obtain ⟨kb, off, rfl, hkb, hru⟩ := HME.out.get hlt
      obtain ⟨ta, tc, c1, c2, c3, c4, r5⟩ := hru.below hkb HK.out.2.2.2.2
      obtain ⟨x, hx⟩ : ∃ x, hF ms p = x := ⟨_, rfl⟩
      obtain ⟨s, hs⟩ : ∃ x, (ms k).sh = x := ⟨_, rfl⟩
      obtain ⟨cu, hcu⟩ : ∃ x, (ms k).cur = x := ⟨_, rfl⟩
      obtain ⟨tl, htl⟩ : ∃ x, (ms k).tn = x := ⟨_, rfl⟩
      obtain ⟨y, hy⟩ : ∃ y, mdV x s 10000 3 = y := ⟨_, rfl⟩
      rw [hx, hs, hy] at hst
      have HST : Hid (hF ms k = y) := hst
      have HY : Hid (mdV x s 10000 3 = y) := hy
      have HXP : Hid (cs[p]? = some (.int .i64 x)) := by show cs[p]? = _; rw [HK.out.2.2.1 p hpk, hx]
      rw [hp] at c1
      rw [hs] at c2
      rw [hcu] at c3
      rw [htl] at c4
      obtain ⟨vk, hvk⟩ : ∃ v, cs[k]? = some v := ⟨cs[k]'(by have := HK.out.2.1; omega), Array.getElem?_eq_getElem _⟩
      have HVK : Hid (cs[k]? = some vk) := hvk
      clear hmh hst hx hs hcu htl hy hru r5 hvk hp
      go_upto_region 7 with (fail)
      have HCW : Hid (CB (wr.alloc (.cells #[.int .i64 (p : Int), .int .i64 s, .int .i64 cu, .slice ta tl tc] 46 (0, 0))).drew (w.heap.size + 1) cs 3) := (HK.out.1.alloc _)
      have HOW : Hid (CB (wr.alloc (.cells #[.int .i64 (p : Int), .int .i64 s, .int .i64 cu, .slice ta tl tc] 46 (0, 0))).drew w.heap.size #[.slice fa len cap, .int .i64 1, .int .i64 u, .pointer (some ⟨T, 0, none⟩), .slice (some ⟨kb, off, none⟩) m rcap, .int .i64 mi, .int .i64 sf] 56) := (HK.out.2.2.2.1.alloc _)
      have HMW : Hid (CB (wr.alloc (.cells #[.int .i64 (p : Int), .int .i64 s, .int .i64 cu, .slice ta tl tc] 46 (0, 0))).drew wr.heap.size #[.int .i64 (p : Int), .int .i64 s, .int .i64 cu, .slice ta tl tc] 46) := CB.new _ _
      have HBW : Hid (Below w.heap.size w (wr.alloc (.cells #[.int .i64 (p : Int), .int .i64 s, .int .i64 cu, .slice ta tl tc] 46 (0, 0))).drew) := (HK.out.2.2.2.2.alloc HK.out.2.2.2.2.size _).drew
      have b0 := (HMW.out.cell 0).trans rfl
      have b1 := (HMW.out.cell 1).trans rfl
      have o1 := (HCW.out.cell p).trans HXP.out
      have hBne : wr.heap.size ≠ w.heap.size + 1 := by have := HK.out.1.lt; omega
      clear c1 c2 c3 c4 y4
      obtain ⟨B, hB⟩ : ∃ B, wr.heap.size = B := ⟨_, rfl⟩
      rw [hB] at HMW b0 b1 hBne ⊢
      clear hB
      refine wp_region_held_drew (S := fun w' => w'.cell? ⟨B, 0, none⟩ = some (.int .i64 (p : Int)) ∧ w'.cell? ⟨B, 1, none⟩ = some (.int .i64 s) ∧ w'.cell? ⟨w.heap.size + 1, p, none⟩ = some (.int .i64 x)) (by kernel_rfl) (by exact ⟨b0, b1, o1⟩) (fun hHeld => ?_)
      refine wpAnyH_take (i := 0) (oi := { dst := some 24, op := Go.Op.move (Go.Operand.tmp 3), type := 35, pos := "l08_group.go:99", after := #[], guard := none }) (v := ?_) rfl (by kernel_rfl) (by kernel_rfl) (by kernel_rfl) (fun _ _ _ h => h) (Or.inl ⟨by rfl, ?_⟩) (by assumption) ?_
      rotate_left
      · (intro w hSw; (try dsimp only at hSw); go_simp <;> try with_reducible rfl)
      try simp only [Act.put, List.setIfInBounds_toArray, List.set_cons_zero, List.set_cons_succ]
      refine wpAnyH_take (i := 1) (oi := { dst := some 25, op := Go.Op.move (Go.Operand.tmp 4), type := 3, pos := "l08_group.go:99", after := #[], guard := none }) (v := ?_) rfl (by kernel_rfl) (by kernel_rfl) (by kernel_rfl) (fun _ _ _ h => h) (Or.inl ⟨by rfl, ?_⟩) (by assumption) ?_
      rotate_left
      · (intro w hSw; (try dsimp only at hSw); go_simp <;> try with_reducible rfl)
      try simp only [Act.put, List.setIfInBounds_toArray, List.set_cons_zero, List.set_cons_succ]
      refine wpAnyH_take (i := 2) (oi := { dst := some 26, op := Go.Op.move (Go.Operand.tmp 3), type := 35, pos := "l08_group.go:99", after := #[], guard := none }) (v := ?_) rfl (by kernel_rfl) (by kernel_rfl) (by kernel_rfl) (fun _ _ _ h => h) (Or.inl ⟨by rfl, ?_⟩) (by assumption) ?_
      rotate_left
      · (intro w hSw; (try dsimp only at hSw); go_simp <;> try with_reducible rfl)
      try simp only [Act.put, List.setIfInBounds_toArray, List.set_cons_zero, List.set_cons_succ]
      refine wpAnyH_take (i := 3) (oi := { dst := some 27, op := Go.Op.fieldAddr 46 (Go.Operand.tmp 5) 0, type := 0, pos := "l08_group.go:99", after := #[], guard := none }) (v := ?_) rfl (by kernel_rfl) (by kernel_rfl) (by kernel_rfl) (fun _ _ _ h => h) (Or.inl ⟨by rfl, ?_⟩) (by assumption) ?_
      rotate_left
      · (intro w hSw; (try dsimp only at hSw); go_simp <;> try with_reducible rfl)
      try simp only [Act.put, List.setIfInBounds_toArray, List.set_cons_zero, List.set_cons_succ]
      refine wpAnyH_take (i := 4) (oi := { dst := some 28, op := Go.Op.load 3 (Go.Operand.tmp 27), type := 3, pos := "l08_group.go:99", after := #[{ on := 3, ground := Go.Ground.data }], guard := none }) (v := ?_) rfl (by kernel_rfl) (by kernel_rfl) (by kernel_rfl) (fun _ _ _ h => h) (Or.inl ⟨by rfl, ?_⟩) (by assumption) ?_
      rotate_left
      · (intro w hSw; (try dsimp only at hSw); go_simp <;> try with_reducible rfl)
      try simp only [Act.put, List.setIfInBounds_toArray, List.set_cons_zero, List.set_cons_succ]
      refine wpAnyH_take (i := 5) (oi := { dst := some 29, op := Go.Op.indexAddr 35 (Go.Operand.tmp 26) (Go.Operand.tmp 28), type := 0, pos := "l08_group.go:99", after := #[{ on := 2, ground := Go.Ground.data }, { on := 4, ground := Go.Ground.data }], guard := none }) (v := ?_) rfl (by kernel_rfl) (by kernel_rfl) (by kernel_rfl) (fun _ _ _ h => h) (Or.inl ⟨by rfl, ?_⟩) (by assumption) ?_
      rotate_left
      · (intro w hSw; (try dsimp only at hSw); go_simp <;> try with_reducible rfl)
      try simp only [Act.put, List.setIfInBounds_toArray, List.set_cons_zero, List.set_cons_succ]
      refine wpAnyH_take (i := 6) (oi := { dst := some 30, op := Go.Op.load 3 (Go.Operand.tmp 29), type := 3, pos := "l08_group.go:99", after := #[{ on := 5, ground := Go.Ground.data }], guard := none }) (v := ?_) rfl (by kernel_rfl) (by kernel_rfl) (by kernel_rfl) (fun _ _ _ h => h) (Or.inl ⟨by rfl, ?_⟩) (by assumption) ?_
      rotate_left
      · (intro w hSw; (try dsimp only at hSw); go_simp <;> try with_reducible rfl)
      try simp only [Act.put, List.setIfInBounds_toArray, List.set_cons_zero, List.set_cons_succ]
      refine wpAnyH_take (i := 7) (oi := { dst := some 31, op := Go.Op.fieldAddr 46 (Go.Operand.tmp 5) 1, type := 0, pos := "l08_group.go:99", after := #[], guard := none }) (v := ?_) rfl (by kernel_rfl) (by kernel_rfl) (by kernel_rfl) (fun _ _ _ h => h) (Or.inl ⟨by rfl, ?_⟩) (by assumption) ?_
      rotate_left
      · (intro w hSw; (try dsimp only at hSw); go_simp <;> try with_reducible rfl)
      try simp only [Act.put, List.setIfInBounds_toArray, List.set_cons_zero, List.set_cons_succ]
      refine wpAnyH_take (i := 8) (oi := { dst := some 32, op := Go.Op.load 3 (Go.Operand.tmp 31), type := 3, pos := "l08_group.go:99", after := #[{ on := 7, ground := Go.Ground.data }], guard := none }) (v := ?_) rfl (by kernel_rfl) (by kernel_rfl) (by kernel_rfl) (fun _ _ _ h => h) (Or.inl ⟨by rfl, ?_⟩) (by assumption) ?_
      rotate_left
      · (intro w hSw; (try dsimp only at hSw); go_simp <;> try with_reducible rfl)
      try simp only [Act.put, List.setIfInBounds_toArray, List.set_cons_zero, List.set_cons_succ]
      refine wpAnyH_ready (rs := [9]) (by kernel_rfl) (by simp) ?_
      refine AllReadyH.cons (o := { dst := some 33, op := Go.Op.call { callee := Go.Callee.value (Go.Operand.func 45), args := #[Go.Operand.tmp 30, Go.Operand.tmp 32, Go.Operand.const (Go.Value.int Go.IntKind.i64 10000), Go.Operand.const (Go.Value.int Go.IntKind.i64 3)], argTypes := #[3, 3, 3, 3] }, type := 61, pos := "l08_group.go:99", after := #[{ on := 6, ground := Go.Ground.data }, { on := 8, ground := Go.Ground.data }], guard := none }) rfl (fun K hK => ?_) (AllReadyH.nil)
      go_simp
      refine (implMulDiv_any _ _ _ _ _).mono ?_
      rintro e w5 ⟨rfl, b5⟩
      rw [HY.out]
      have HC5 : Hid (CB w5 (w.heap.size + 1) cs 3) := HCW.out.below b5 HCW.out.lt
      have HO5 : Hid (CB w5 w.heap.size #[.slice fa len cap, .int .i64 1, .int .i64 u, .pointer (some ⟨T, 0, none⟩), .slice (some ⟨kb, off, none⟩) m rcap, .int .i64 mi, .int .i64 sf] 56) := HOW.out.below b5 HOW.out.lt
      have HB5 : Hid (Below w.heap.size w w5) := bel_on HBW.out b5
      have HM5 : Hid (CB w5 B #[.int .i64 (p : Int), .int .i64 s, .int .i64 cu, .slice ta tl tc] 46) := HMW.out.below b5 HMW.out.lt
      have o5 : w5.cell? ⟨w.heap.size + 1, p, none⟩ = some (.int .i64 x) := (HC5.out.cell p).trans HXP.out
      clear b5
      first | refine hK.out _ _ (by exact ⟨(HM5.out.cell 0).trans rfl, (HM5.out.cell 1).trans rfl, o5⟩) (fun hHeld => ?_) | (go_wp2_with fail; refine hK.out _ _ (by exact ⟨(HM5.out.cell 0).trans rfl, (HM5.out.cell 1).trans rfl, o5⟩) (fun hHeld => ?_))
      clear hK K
      try simp only [Act.put, List.setIfInBounds_toArray, List.set_cons_zero, List.set_cons_succ]
      refine wpAnyH_take (i := 10) (oi := { dst := some 23, op := Go.Op.move (Go.Operand.tmp 33), type := 61, pos := "l08_group.go:99", after := #[{ on := 9, ground := Go.Ground.data }], guard := none }) (v := ?_) rfl (by kernel_rfl) (by kernel_rfl) (by kernel_rfl) (fun _ _ _ h => h) (Or.inl ⟨by rfl, ?_⟩) (by assumption) ?_
      rotate_left
      · (intro w hSw; (try dsimp only at hSw); go_simp <;> try with_reducible rfl)
      try simp only [Act.put, List.setIfInBounds_toArray, List.set_cons_zero, List.set_cons_succ]
      refine wpAnyH_take (i := 11) (oi := { dst := some 34, op := Go.Op.extract (Go.Operand.tmp 23) 0, type := 3, pos := "l08_group.go:99", after := #[{ on := 10, ground := Go.Ground.data }], guard := none }) (v := ?_) rfl (by kernel_rfl) (by kernel_rfl) (by kernel_rfl) (fun _ _ _ h => h) (Or.inl ⟨by rfl, ?_⟩) (by assumption) ?_
      rotate_left
      · (intro w hSw; (try dsimp only at hSw); go_simp <;> try with_reducible rfl)
      try simp only [Act.put, List.setIfInBounds_toArray, List.set_cons_zero, List.set_cons_succ]
      refine wpAnyH_take (i := 12) (oi := { dst := some 35, op := Go.Op.extract (Go.Operand.tmp 23) 1, type := 4, pos := "l08_group.go:99", after := #[{ on := 10, ground := Go.Ground.data }, { on := 14, ground := Go.Ground.gcOnly Go.Departure.lateStores }], guard := none }) (v := ?_) rfl (by kernel_rfl) (by kernel_rfl) (by kernel_rfl) (fun _ _ _ h => h) (Or.inl ⟨by rfl, ?_⟩) (by assumption) ?_
      rotate_left
      · (intro w hSw; (try dsimp only at hSw); go_simp <;> try with_reducible rfl)
      try simp only [Act.put, List.setIfInBounds_toArray, List.set_cons_zero, List.set_cons_succ]
      refine wpAnyH_take (i := 13) (oi := { dst := some 36, op := Go.Op.indexAddr 35 (Go.Operand.tmp 24) (Go.Operand.tmp 25), type := 0, pos := "l08_group.go:99", after := #[{ on := 0, ground := Go.Ground.data }, { on := 1, ground := Go.Ground.data }, { on := 0, ground := Go.Ground.phase }, { on := 1, ground := Go.Ground.phase }, { on := 2, ground := Go.Ground.phase }, { on := 3, ground := Go.Ground.phase }, { on := 4, ground := Go.Ground.phase }, { on := 5, ground := Go.Ground.phase }, { on := 6, ground := Go.Ground.phase }, { on := 7, ground := Go.Ground.phase }, { on := 8, ground := Go.Ground.phase }, { on := 9, ground := Go.Ground.phase }, { on := 10, ground := Go.Ground.phase }, { on := 11, ground := Go.Ground.phase }, { on := 12, ground := Go.Ground.textOnly Go.Departure.lateStores }], guard := none }) (v := ?_) rfl (by kernel_rfl) (by kernel_rfl) (by kernel_rfl) (fun _ _ _ h => h) (Or.inl ⟨by rfl, ?_⟩) (by assumption) ?_
      rotate_left
      · (intro w hSw; (try dsimp only at hSw); go_simp <;> try with_reducible rfl)
      try simp only [Act.put, List.setIfInBounds_toArray, List.set_cons_zero, List.set_cons_succ]
      refine wpAnyH_ready (rs := [14]) (by kernel_rfl) (by simp) ?_
      refine AllReadyH.cons (o := { dst := none, op := Go.Op.store 3 (Go.Operand.tmp 36) (Go.Operand.tmp 34), type := 0, pos := "l08_group.go:99", after := #[{ on := 13, ground := Go.Ground.data }, { on := 11, ground := Go.Ground.data }, { on := 9, ground := Go.Ground.chain }, { on := 0, ground := Go.Ground.phase }, { on := 1, ground := Go.Ground.phase }, { on := 2, ground := Go.Ground.phase }, { on := 3, ground := Go.Ground.phase }, { on := 4, ground := Go.Ground.phase }, { on := 5, ground := Go.Ground.phase }, { on := 6, ground := Go.Ground.phase }, { on := 7, ground := Go.Ground.phase }, { on := 8, ground := Go.Ground.phase }, { on := 9, ground := Go.Ground.phase }, { on := 10, ground := Go.Ground.phase }, { on := 11, ground := Go.Ground.phase }, { on := 12, ground := Go.Ground.textOnly Go.Departure.lateStores }], guard := none }) rfl (fun K hK => ?_) (AllReadyH.nil)
      have z1 : w5.cell? ⟨w.heap.size + 1, k, none⟩ = some vk := (HC5.out.cell k).trans HVK.out
      have z2 := HC5.out.fr k
      go_simp
      have h6a : (w5.setCell ⟨w.heap.size + 1, k, none⟩ (.int .i64 y)).cell? ⟨B, 0, none⟩ = some (.int .i64 (p : Int)) := ((HM5.out.other _ hBne).cell 0).trans rfl
      have h6b : (w5.setCell ⟨w.heap.size + 1, k, none⟩ (.int .i64 y)).cell? ⟨B, 1, none⟩ = some (.int .i64 s) := ((HM5.out.other _ hBne).cell 1).trans rfl
      have h6c : (w5.setCell ⟨w.heap.size + 1, k, none⟩ (.int .i64 y)).cell? ⟨w.heap.size + 1, p, none⟩ = some (.int .i64 x) := by rw [(HC5.out.set k _).cell, get_set_ne (by omega)]; exact HXP.out
      first | refine hK.out _ _ (by exact ⟨h6a, h6b, h6c⟩) (fun hHeld => ?_) | (go_wp2_with fail; refine hK.out _ _ (by exact ⟨h6a, h6b, h6c⟩) (fun hHeld => ?_))
      clear hK K
      try simp only [Act.put, List.setIfInBounds_toArray, List.set_cons_zero, List.set_cons_succ]
      refine wpAnyH_done (by kernel_rfl) ?_ _
      clear hHeld
      clear z1 z2 h6a h6b h6c o5 b0 b1 o1
      go_wp2
      go_roundw
      case rel =>
        refine ⟨k + 1, _, by omega, by omega, by go_num, HC5.out.set k _, by simpa using HK.out.2.1, fun j hj => ?_, HO5.out.other _ (by omega), HB5.out.setCell (by simp) _⟩
        by_cases e : j = k
        · subst e; rw [get_set_eq (by have := HK.out.2.1; omega), HST.out]
        · rw [get_set_ne (by omega)]; exact HK.out.2.2.1 j (by omega)
      case measure => simp [intOf]; omega
    · obtain rfl : k = m := by omega
      have lkk : ¬ (k : Int) < (k : Int) := by omega
      go_wp2
      go_returns
      exact ⟨_, _, rfl, row_of_block HK.out.1 HK.out.2.1 hm (by omega) HK.out.2.2.1, HK.out.2.2.2.2⟩

set_option maxRecDepth 20000 in
set_option maxHeartbeats 2000000 in
theorem implHeld_any (fa : Option Addr) (len cap : Nat) (c : Nat → C3) (u : Int) (ra : Option Addr) (m rcap : Nat) (ms : Nat → M4) (mi sf : Int) (w : World) (hl : (len : Int) ≤ 1048576) (hc : ∀ j, (c j).code.size ≤ maxLen) (hr : CR w fa len c) (hE : EL w) (hm : (m : Int) ≤ 1048576) (htn : ∀ j, j < m → ((ms j).tn : Int) ≤ 1048576) (HM : MR w ra m ms) (M : Nat) (hM : M = if grB len c u m ms mi sf = true then m else 0) :
    Calls Tryd.prog 11 #[gAgg fa len cap u ra m rcap mi sf] w fun e w' => ∃ adv capv, e = .returned (.slice adv M capv) ∧ w'.ownsRow w.heap.size 3 1 (.slice adv M capv) M (ivs (hL ms M)) ∧ Below w.heap.size w w' := by
  have HO : Hid (∀ W, Below w.heap.size w W → Calls Tryd.prog 24 #[gAgg fa len cap u ra m rcap mi sf] W fun e w' => ∃ T, e = .returned (.tuple #[.agg (oAgg fa len cap u T ra m rcap mi sf), .bool (grB len c u m ms mi sf)]) ∧ Tree w' T len c ∧ Below W.heap.size W w') := fun W hW => open_any fa len cap c u ra m rcap ms mi sf W hl hc (hr.below hW) (hE.below hW hE.nine) hm htn (HM.below hW)
  unfold gAgg oAgg at HO
  unfold gAgg
  have HME : Hid (MR w ra m ms) := HM
  clear hr hE HM hc htn
  cases hg : grB len c u m ms mi sf with
  | false =>
    rw [hg] at HO
    obtain rfl : M = 0 := by rw [hM, hg]; rfl
    clear hM
    go_enter Tryd.func11, Tryd.ntmps11
    go_wp2_with (go_at_call 24; go_loud (refine (HO.out _ (by go_grown)).mono ?_; rintro e w1 ⟨T, rfl, _, b1⟩; have HB : Hid (Below w.heap.size w w1) := bel_on ((Below.refl _ _).alloc (Nat.le_refl _) _) b1; clear b1))
    go_returns
    have hbs := HB.out.size
    exact ⟨_, _, rfl, ⟨rfl, .inr ⟨w1.heap.size + 1, 0, #[], rfl, by omega, CB.newAt (by simp) _ _, Nat.le_refl _, Nat.zero_le _, rfl, rfl⟩⟩, (HB.out.alloc HB.out.size _).alloc (by simp; omega) _⟩
  | true =>
    have hgr := grB_iff.1 hg
    rw [hg] at HO
    obtain rfl : M = m := by rw [hM, hg]; rfl
    have hm1 : 0 < M := by have := inB_iff.1 hgr.2.1; omega
    have HMH : Hid (∀ i, i < M → MHeld i (ms i)) := fun i hi => (hgr.2.2.2.2.2 i hi).1
    clear hgr hM
    go_enter Tryd.func11, Tryd.ntmps11
    go_wp2_with (first
      | (go_at_call 24; go_loud (refine (HO.out _ (by go_grown)).mono ?_; rintro e w1 ⟨T, rfl, _, b1⟩; have HB : Hid (Below w.heap.size w w1) := bel_on ((Below.refl _ _).alloc (Nat.le_refl _) _) b1; clear b1))
      | (go_at_call 28; go_loud (refine (held_any fa len cap u T ra M rcap ms mi sf _ hm hm1 HMH.out (HME.out.below (HB.out.alloc HB.out.size _))).mono ?_; rintro e w2 ⟨adv, capv, rfl, o2, b2⟩; have HO2 : Hid (w2.ownsRow w.heap.size 3 1 (.slice adv M capv) M (ivs (hL ms M))) := row_base o2 (by have := HB.out.size; simp; omega); have HB2 : Hid (Below w.heap.size w w2) := bel_on (HB.out.alloc HB.out.size _) b2; clear o2 b2)))
    go_returns
    exact ⟨adv, capv, rfl, HO2.out, HB2.out⟩
end Go.Proofs.YtoihiamafbokbaaDoor
