/- The program's matrices. -/
import Derived.Test.YtjlniinahfgakaaMy
import Derived.Deep.RegionHeld3
import Derived.Deep.Cut
namespace Go.Proofs.Ytjlniinahfgakaa
open Go Go.ChangeShapes Go.WideShapes Go.ChangeAt Go.RowKit
set_option linter.unusedVariables false
set_option linter.unusedSimpArgs false

set_option maxRecDepth 20000 in
set_option maxHeartbeats 1000000 in
theorem determinant_any (f : Nat → Nat → Int) (hf : ∀ i j, -100 ≤ f i j ∧ f i j ≤ 100) (w : World) :
    Calls Try.prog 80 #[.agg (mcs f)] w fun e w' => e = .returned (.int .i64 (dl f 3 (oF false false false))) ∧ Below w.heap.size w w' := by
  have hmf : ∀ (fn : Fn) (first cap : Array Value) (w : World), (Instr.makeFunc fn first cap).run Try.prog w = .ok (.func fn first cap) w := fun _ _ _ _ => rfl
  have hsf : ∀ (a : Addr) (fn : Fn) (x y : Array Value) (W : World), (store a (.func fn x y)).run Try.prog W = stored Try.prog W a (.func fn x y) .plain := fun a fn x y W => run_store _ _ _ _ _ rfl
  have HB : Hid (Below w.heap.size w ((w.alloc (.cells (mcs f) 104 (0, 0))).alloc (.cells #[.func (Fn.func 87) #[] #[.pointer (some ⟨w.heap.size, 0, none⟩), .pointer (some ⟨w.heap.size + 1, 0, none⟩)]] 114 (0, 0)))) := ((Below.refl _ _).alloc (Nat.le_refl _) _).alloc (by simp) _
  have HBA : Hid (Calls Try.prog 87 #[.int .i64 0, .agg #[.bool false, .bool false, .bool false], .pointer (some ⟨w.heap.size, 0, none⟩), .pointer (some ⟨w.heap.size + 1, 0, none⟩)] ((w.alloc (.cells (mcs f) 104 (0, 0))).alloc (.cells #[.func (Fn.func 87) #[] #[.pointer (some ⟨w.heap.size, 0, none⟩), .pointer (some ⟨w.heap.size + 1, 0, none⟩)]] 114 (0, 0))) fun e w' => e = .returned (.int .i64 (dl f 3 (oF false false false))) ∧ Below ((w.alloc (.cells (mcs f) 104 (0, 0))).alloc (.cells #[.func (Fn.func 87) #[] #[.pointer (some ⟨w.heap.size, 0, none⟩), .pointer (some ⟨w.heap.size + 1, 0, none⟩)]] 114 (0, 0))).heap.size ((w.alloc (.cells (mcs f) 104 (0, 0))).alloc (.cells #[.func (Fn.func 87) #[] #[.pointer (some ⟨w.heap.size, 0, none⟩), .pointer (some ⟨w.heap.size + 1, 0, none⟩)]] 114 (0, 0))) w') := detBelow_any f hf w.heap.size (w.heap.size + 1) 3 (Nat.le_refl _) false false false _ ((CB.new _ _).alloc _) (CB.newAt (by simp) _ _)
  unfold mcs at HBA HB ⊢
  go_enter Try.func80, Try.ntmps80
  go_wp2_with (go_at_call 87; go_loud (refine HBA.out.mono ?_; rintro e w2 ⟨rfl, b2⟩; have HB2 : Hid (Below w.heap.size w w2) := bel_on HB.out b2; clear b2))
  go_returns
  exact ⟨rfl, HB2.out⟩

theorem MB.cellAt {w : World} {b : Nat} {f : Nat → Nat → Int} (h : MB w b f) {i j : Nat} (hi : i < 3) (hj : j < 3) : w.cell? ⟨b, i * 3 + j, none⟩ = some (.int .i64 (f i j)) := (CB.cell h _).trans (mcs_get hi hj)
theorem mcs_set {f : Nat → Nat → Int} {i j : Nat} (hi : i < 3) (hj : j < 3) (v : Int) : (mcs f).setIfInBounds (i * 3 + j) (.int .i64 v) = mcs (fun x y => if x = i ∧ y = j then v else f x y) := by
  match i, j, hi, hj with
  | 0, 0, _, _ => rfl
  | 0, 1, _, _ => rfl
  | 0, 2, _, _ => rfl
  | 1, 0, _, _ => rfl
  | 1, 1, _, _ => rfl
  | 1, 2, _, _ => rfl
  | 2, 0, _, _ => rfl
  | 2, 1, _, _ => rfl
  | 2, 2, _, _ => rfl
  | i + 3, _, h, _ => omega
  | 0, j + 3, _, h => omega
  | 1, j + 3, _, h => omega
  | 2, j + 3, _, h => omega
theorem MB.put {w : World} {b : Nat} {f : Nat → Nat → Int} (h : MB w b f) {i j : Nat} (hi : i < 3) (hj : j < 3) (v : Int) : MB (w.setCell ⟨b, i * 3 + j, none⟩ (.int .i64 v)) b (fun x y => if x = i ∧ y = j then v else f x y) := by
  have := CB.set h (i * 3 + j) (.int .i64 v)
  rw [mcs_set hi hj] at this
  exact this
theorem MB.congr {w : World} {b : Nat} {f g : Nat → Nat → Int} (h : MB w b f) (e : ∀ i j, i < 3 → j < 3 → f i j = g i j) : MB w b g := by
  unfold MB mcs at h ⊢
  rw [← e 0 0 (by omega) (by omega), ← e 0 1 (by omega) (by omega), ← e 0 2 (by omega) (by omega), ← e 1 0 (by omega) (by omega), ← e 1 1 (by omega) (by omega), ← e 1 2 (by omega) (by omega), ← e 2 0 (by omega) (by omega), ← e 2 1 (by omega) (by omega), ← e 2 2 (by omega) (by omega)]
  exact h
/-- The matrix of the first n lists. -/
def mF (n : Nat) (z : Nat → Nat → Int) : Nat → Nat → Int := fun i j => if i < n then (if j = i then 100 else if j < n then -(z i j) else 0) else if i = j then 1 else 0
def mG (k : Nat) : Nat → Nat → Int := fun i j => if i = j ∧ i < k then 1 else 0
/-- The first i rows whole. -/
def mR (z : Nat → Nat → Int) (n i : Nat) : Nat → Nat → Int := fun x y => if x < i then (if y = x then 100 else if y < n then -(z x y) else 0) else if x = y then 1 else 0
/-- And of row i the first j numbers. -/
def mC (z : Nat → Nat → Int) (n i j : Nat) : Nat → Nat → Int := fun x y => if x = i ∧ y < j then -(z i y) else mR z n i x y

set_option maxRecDepth 20000 in
set_option maxHeartbeats 4000000 in
theorem matrixOf_any (ad : Option Addr) (n cap : Nat) (ln : Nat → Nat) (z : Nat → Nat → Int) (w : World) (hn : n ≤ 3) (hl : ∀ i, i < n → n ≤ ln i ∧ (ln i : Int) ≤ 1048576) (hz : ∀ i j, i < n → j < n → 0 ≤ z i j ∧ z i j ≤ 100) (H : SR w ad n ln z) :
    Calls Try.prog 79 #[.slice ad n cap] w fun e w' => e = .returned (.agg (mcs (mF n z))) ∧ Below w.heap.size w w' := by
  have HSR : Hid (SR w ad n ln z) := H
  have HL : Hid (∀ i, i < n → n ≤ ln i ∧ (ln i : Int) ≤ 1048576) := hl
  have HZ : Hid (∀ i j, i < n → j < n → 0 ≤ z i j ∧ z i j ≤ 100) := hz
  have hn2 : (n : Int) ≤ 3 := by omega
  have HR0 : Hid (CB ((w.alloc (.cells #[.int .i64 0, .int .i64 0, .int .i64 0, .int .i64 0, .int .i64 0, .int .i64 0, .int .i64 0, .int .i64 0, .int .i64 0] 104 (0, 0))).alloc (.cells #[.int .i64 0, .int .i64 0, .int .i64 0, .int .i64 0, .int .i64 0, .int .i64 0, .int .i64 0, .int .i64 0, .int .i64 0] 104 (0, 0))) w.heap.size #[.int .i64 0, .int .i64 0, .int .i64 0, .int .i64 0, .int .i64 0, .int .i64 0, .int .i64 0, .int .i64 0, .int .i64 0] 104) := (CB.new _ _).alloc _
  have HM0 : Hid (MB ((w.alloc (.cells #[.int .i64 0, .int .i64 0, .int .i64 0, .int .i64 0, .int .i64 0, .int .i64 0, .int .i64 0, .int .i64 0, .int .i64 0] 104 (0, 0))).alloc (.cells #[.int .i64 0, .int .i64 0, .int .i64 0, .int .i64 0, .int .i64 0, .int .i64 0, .int .i64 0, .int .i64 0, .int .i64 0] 104 (0, 0))) (w.heap.size + 1) (mG 0)) := CB.newAt (by simp) _ _
  have HB0 : Hid (Below w.heap.size w ((w.alloc (.cells #[.int .i64 0, .int .i64 0, .int .i64 0, .int .i64 0, .int .i64 0, .int .i64 0, .int .i64 0, .int .i64 0, .int .i64 0] 104 (0, 0))).alloc (.cells #[.int .i64 0, .int .i64 0, .int .i64 0, .int .i64 0, .int .i64 0, .int .i64 0, .int .i64 0, .int .i64 0, .int .i64 0] 104 (0, 0)))) := ((Below.refl _ _).alloc (Nat.le_refl _) _).alloc (by simp) _
  clear H hl hz
  go_enter Try.func79, Try.ntmps79
  go_wp2
  go_loopw [4, 9] (fun _ v wr => ∃ (k : Nat), k ≤ 3 ∧ v = .int .i64 (k : Int) ∧ Hid (CB wr w.heap.size #[.int .i64 0, .int .i64 0, .int .i64 0, .int .i64 0, .int .i64 0, .int .i64 0, .int .i64 0, .int .i64 0, .int .i64 0] 104 ∧ MB wr (w.heap.size + 1) (mG k) ∧ Below w.heap.size w wr)) (fun _ v _ => 3 - (intOf v).toNat)
  case atStart => exact ⟨0, by omega, rfl, HR0.out, HM0.out, HB0.out⟩
  case round =>
    clear HR0 HM0 HB0
    obtain ⟨k, hk, rfl, HW⟩ := hrel
    by_cases hlt : k < 3
    · have hlt2 : (k : Int) < 3 := by omega
      have t1 := HW.out.2.1.cellAt hlt hlt
      have t2 := CB.fr HW.out.2.1 (k * 3 + k)
      have HN : Hid (CB (wr.setCell ⟨w.heap.size + 1, k * 3 + k, none⟩ (.int .i64 1)) w.heap.size #[.int .i64 0, .int .i64 0, .int .i64 0, .int .i64 0, .int .i64 0, .int .i64 0, .int .i64 0, .int .i64 0, .int .i64 0] 104 ∧ MB (wr.setCell ⟨w.heap.size + 1, k * 3 + k, none⟩ (.int .i64 1)) (w.heap.size + 1) (mG (k + 1)) ∧ Below w.heap.size w (wr.setCell ⟨w.heap.size + 1, k * 3 + k, none⟩ (.int .i64 1))) :=
        ⟨HW.out.1.other _ (by omega), (HW.out.2.1.put hlt hlt 1).congr (fun i j _ _ => by unfold mG; (try dsimp only); repeat' split; all_goals first | rfl | omega), HW.out.2.2.setCell (by simp) _⟩
      clear HW
      go_wp2
      go_roundw
      case rel => exact ⟨k + 1, by omega, by go_num, HN⟩
      case measure => simp [intOf]; omega
    · obtain rfl : k = 3 := by omega
      rw [show ((3 : Nat) : Int) = 3 from rfl]
      have HM1 : Hid (MB wr (w.heap.size + 1) (mR z n 0)) := HW.out.2.1.congr (fun i j _ _ => by unfold mG mR; (try dsimp only); repeat' split; all_goals first | rfl | omega)
      obtain ⟨w0, hw0⟩ : ∃ w0, w0 = wr := ⟨_, rfl⟩
      subst hw0
      go_wp2
      go_loopw [5, 6, 7, 19, 24, 25, 26] (fun _ _ _ v _ _ _ wr => ∃ (i : Nat), i ≤ n ∧ v = .int .i64 (i : Int) ∧ Hid (CB wr w.heap.size #[.int .i64 0, .int .i64 0, .int .i64 0, .int .i64 0, .int .i64 0, .int .i64 0, .int .i64 0, .int .i64 0, .int .i64 0] 104 ∧ MB wr (w.heap.size + 1) (mR z n i) ∧ Below w.heap.size w wr)) (fun _ _ _ v _ _ _ _ => n - (intOf v).toNat)
      case atStart => exact ⟨0, by omega, rfl, HW.out.1, HM1.out, HW.out.2.2⟩
      case round =>
        clear HW HM1
        obtain ⟨i, hi, rfl, HV⟩ := hrel
        by_cases hlti : i < n
        · have hi3 : i < 3 := by omega
          have hlti2 : (i : Int) < (n : Int) := by omega
          obtain ⟨kb, off, rfl, hkb⟩ := HSR.out.addr (by omega)
          obtain ⟨a, cp, c1, r1⟩ := HSR.out.at HV.out.2.2 hlti
          have hll := HL.out i hlti
          obtain ⟨ka, oa, rfl, hka⟩ := r1.addr (by omega)
          obtain ⟨lni, hlni⟩ : ∃ x, ln i = x := ⟨_, rfl⟩
          rw [hlni] at c1 hll
          have hll1 : (n : Int) ≤ (lni : Int) := by omega
          have hka2 : ka < w.heap.size := by
            obtain ⟨kk, oo, a', cp', e1, _, e2, e3⟩ := HSR.out.get hlti
            simp only [Option.some.injEq, Addr.mk.injEq] at e1
            obtain ⟨rfl, rfl, _⟩ := e1
            have e4 : w.cell? ⟨kb, off + i, none⟩ = some (.slice (some ⟨ka, oa, none⟩) lni cp) := by rw [← World.cell?_of_block (w := w) (HV.out.2.2.block kb hkb)]; exact c1
            rw [e2] at e4
            simp only [Option.some.injEq, Value.slice.injEq] at e4
            obtain ⟨rfl, _, _⟩ := e4
            obtain ⟨k2, o2, e5, e6⟩ := e3.addr (by rw [hlni]; omega)
            simp only [Option.some.injEq, Addr.mk.injEq] at e5
            obtain ⟨rfl, rfl, _⟩ := e5
            exact e6
          have HIR : Hid (IR w (some ⟨ka, oa, none⟩) (ln i) (z i)) := by
            show IR w (some ⟨ka, oa, none⟩) (ln i) (z i)
            refine .inr ⟨ka, oa, rfl, hka2, fun j hj => ?_⟩
            rw [← World.cell?_of_block (w := w) (HV.out.2.2.block ka hka2)]
            exact r1.cell hj
          have HLN : Hid (ln i = lni ∧ n ≤ lni) := ⟨hlni, hll.1⟩
          have hll3 := hll.2
          have HMC : Hid (MB wr (w.heap.size + 1) (mC z n i 0)) := HV.out.2.1.congr (fun x y _ _ => by unfold mC; rw [if_neg (by omega)])
          obtain ⟨w1, hw1⟩ : ∃ w1, w1 = wr := ⟨_, rfl⟩
          subst hw1
          clear r1 hka hll hlni
          go_wp2
          go_loopw [7, 26] (fun _ v wr => ∃ (j : Nat), j ≤ n ∧ v = .int .i64 (j : Int) ∧ Hid (CB wr w.heap.size #[.int .i64 0, .int .i64 0, .int .i64 0, .int .i64 0, .int .i64 0, .int .i64 0, .int .i64 0, .int .i64 0, .int .i64 0] 104 ∧ MB wr (w.heap.size + 1) (mC z n i j) ∧ Below w.heap.size w wr)) (fun _ v _ => n - (intOf v).toNat)
          case atStart => exact ⟨0, by omega, rfl, HV.out.1, HMC.out, HV.out.2.2⟩
          case round =>
            clear HV HMC c1
            obtain ⟨j, hj, rfl, HU⟩ := hrel
            by_cases hltj : j < n
            · have hj3 : j < 3 := by omega
              have hltj2 : (j : Int) < (n : Int) := by omega
              have hjl : (j : Int) < (lni : Int) := by omega
              have hjl2 : j < ln i := by have := HLN.out; omega
              have hzb := HZ.out i j hlti hltj
              obtain ⟨x, hx⟩ : ∃ x, z i j = x := ⟨_, rfl⟩
              have HX : Hid (z i j = x) := hx
              rw [hx] at hzb
              obtain ⟨wr2, hwr2⟩ : ∃ wr2, wr2 = wr := ⟨_, rfl⟩
              subst hwr2
              have cx : wr2.drew.cell? ⟨ka, oa + j, none⟩ = some (.int .i64 x) := by rw [← hx]; exact (HIR.out.below HU.out.2.2).cell hjl2
              have HM : Hid (MB wr2.drew (w.heap.size + 1) (mC z n i j)) := HU.out.2.1
              clear hx
              go_upto_region 13 with (fail)
              have hj4 : (j : Int) < 3 := by omega
              have hwr : IntKind.i64.wrap (-x) = -x := Go.IntWalk.i64_in _ ⟨by omega, by omega⟩
              have hi4 : (i : Int) < 3 := by omega
              refine wp_region_held_drew (S := fun w' => w'.cell? ⟨ka, oa + j, none⟩ = some (.int .i64 x)) (by kernel_rfl) (by exact cx) (fun hHeld => ?_)
              refine wpAnyH_take (i := 0) (oi := { dst := some 29, op := Go.Op.move (Go.Operand.tmp 5), type := 3, pos := "l07_allocate.go:94", after := #[], guard := none }) (v := ?_) rfl (by kernel_rfl) (by kernel_rfl) (by kernel_rfl) (fun _ _ _ h => h) (Or.inl ⟨by rfl, ?_⟩) (by assumption) ?_
              rotate_left
              · (intro w hSw; (try dsimp only at hSw); go_simp <;> try with_reducible rfl)
              try simp only [Act.put, List.setIfInBounds_toArray, List.set_cons_zero, List.set_cons_succ]
              refine wpAnyH_take (i := 1) (oi := { dst := some 30, op := Go.Op.move (Go.Operand.tmp 7), type := 3, pos := "l07_allocate.go:94", after := #[], guard := none }) (v := ?_) rfl (by kernel_rfl) (by kernel_rfl) (by kernel_rfl) (fun _ _ _ h => h) (Or.inl ⟨by rfl, ?_⟩) (by assumption) ?_
              rotate_left
              · (intro w hSw; (try dsimp only at hSw); go_simp <;> try with_reducible rfl)
              try simp only [Act.put, List.setIfInBounds_toArray, List.set_cons_zero, List.set_cons_succ]
              refine wpAnyH_take (i := 2) (oi := { dst := some 31, op := Go.Op.move (Go.Operand.tmp 6), type := 24, pos := "l07_allocate.go:94", after := #[], guard := none }) (v := ?_) rfl (by kernel_rfl) (by kernel_rfl) (by kernel_rfl) (fun _ _ _ h => h) (Or.inl ⟨by rfl, ?_⟩) (by assumption) ?_
              rotate_left
              · (intro w hSw; (try dsimp only at hSw); go_simp <;> try with_reducible rfl)
              try simp only [Act.put, List.setIfInBounds_toArray, List.set_cons_zero, List.set_cons_succ]
              refine wpAnyH_take (i := 3) (oi := { dst := some 32, op := Go.Op.move (Go.Operand.tmp 7), type := 3, pos := "l07_allocate.go:94", after := #[], guard := none }) (v := ?_) rfl (by kernel_rfl) (by kernel_rfl) (by kernel_rfl) (fun _ _ _ h => h) (Or.inl ⟨by rfl, ?_⟩) (by assumption) ?_
              rotate_left
              · (intro w hSw; (try dsimp only at hSw); go_simp <;> try with_reducible rfl)
              try simp only [Act.put, List.setIfInBounds_toArray, List.set_cons_zero, List.set_cons_succ]
              refine wpAnyH_take (i := 4) (oi := { dst := some 33, op := Go.Op.indexAddr 24 (Go.Operand.tmp 31) (Go.Operand.tmp 32), type := 0, pos := "l07_allocate.go:94", after := #[{ on := 2, ground := Go.Ground.data }, { on := 3, ground := Go.Ground.data }], guard := none }) (v := ?_) rfl (by kernel_rfl) (by kernel_rfl) (by kernel_rfl) (fun _ _ _ h => h) (Or.inl ⟨by rfl, ?_⟩) (by assumption) ?_
              rotate_left
              · (intro w hSw; (try dsimp only at hSw); go_simp <;> try with_reducible rfl)
              try simp only [Act.put, List.setIfInBounds_toArray, List.set_cons_zero, List.set_cons_succ]
              refine wpAnyH_take (i := 5) (oi := { dst := some 34, op := Go.Op.load 3 (Go.Operand.tmp 33), type := 3, pos := "l07_allocate.go:94", after := #[{ on := 4, ground := Go.Ground.data }], guard := none }) (v := ?_) rfl (by kernel_rfl) (by kernel_rfl) (by kernel_rfl) (fun _ _ _ h => h) (Or.inl ⟨by rfl, ?_⟩) (by assumption) ?_
              rotate_left
              · (intro w hSw; (try dsimp only at hSw); go_simp <;> try with_reducible rfl)
              try simp only [Act.put, List.setIfInBounds_toArray, List.set_cons_zero, List.set_cons_succ]
              refine wpAnyH_take (i := 6) (oi := { dst := some 35, op := Go.Op.unOp Go.UnOp.neg 3 (Go.Operand.tmp 34), type := 3, pos := "l07_allocate.go:94", after := #[{ on := 5, ground := Go.Ground.data }], guard := none }) (v := ?_) rfl (by kernel_rfl) (by kernel_rfl) (by kernel_rfl) (fun _ _ _ h => h) (Or.inl ⟨by rfl, ?_⟩) (by assumption) ?_
              rotate_left
              · (intro w hSw; (try dsimp only at hSw); go_simp <;> try with_reducible rfl)
              try simp only [Act.put, List.setIfInBounds_toArray, List.set_cons_zero, List.set_cons_succ]
              refine wpAnyH_take (i := 7) (oi := { dst := some 36, op := Go.Op.indexAddr 104 (Go.Operand.tmp 3) (Go.Operand.tmp 29), type := 0, pos := "l07_allocate.go:94", after := #[{ on := 0, ground := Go.Ground.data }], guard := none }) (v := ?_) rfl (by kernel_rfl) (by kernel_rfl) (by kernel_rfl) (fun _ _ _ h => h) (Or.inl ⟨by rfl, ?_⟩) (by assumption) ?_
              rotate_left
              · (intro w hSw; (try dsimp only at hSw); go_simp <;> try with_reducible rfl)
              try simp only [Act.put, List.setIfInBounds_toArray, List.set_cons_zero, List.set_cons_succ]
              refine wpAnyH_take (i := 8) (oi := { dst := some 37, op := Go.Op.indexAddr 102 (Go.Operand.tmp 36) (Go.Operand.tmp 30), type := 0, pos := "l07_allocate.go:94", after := #[{ on := 7, ground := Go.Ground.data }, { on := 1, ground := Go.Ground.data }, { on := 0, ground := Go.Ground.phase }, { on := 1, ground := Go.Ground.phase }, { on := 2, ground := Go.Ground.phase }, { on := 3, ground := Go.Ground.phase }, { on := 4, ground := Go.Ground.phase }, { on := 5, ground := Go.Ground.phase }, { on := 6, ground := Go.Ground.phase }], guard := none }) (v := ?_) rfl (by kernel_rfl) (by kernel_rfl) (by kernel_rfl) (fun _ _ _ h => h) (Or.inl ⟨by rfl, ?_⟩) (by assumption) ?_
              rotate_left
              · (intro w hSw; (try dsimp only at hSw); go_simp <;> try with_reducible rfl)
              try simp only [Act.put, List.setIfInBounds_toArray, List.set_cons_zero, List.set_cons_succ]
              refine wpAnyH_ready (rs := [9]) (by kernel_rfl) (by simp) ?_
              refine AllReadyH.cons (o := { dst := none, op := Go.Op.store 3 (Go.Operand.tmp 37) (Go.Operand.tmp 35), type := 0, pos := "l07_allocate.go:94", after := #[{ on := 8, ground := Go.Ground.data }, { on := 6, ground := Go.Ground.data }, { on := 0, ground := Go.Ground.phase }, { on := 1, ground := Go.Ground.phase }, { on := 2, ground := Go.Ground.phase }, { on := 3, ground := Go.Ground.phase }, { on := 4, ground := Go.Ground.phase }, { on := 5, ground := Go.Ground.phase }, { on := 6, ground := Go.Ground.phase }], guard := none }) rfl (fun K hK => ?_) (AllReadyH.nil)
              have t1 := HM.out.cellAt hi3 hj3
              have t2 := CB.fr HM.out (i * 3 + j)
              go_simp
              have cx2 : (wr2.drew.setCell ⟨w.heap.size + 1, i * 3 + j, none⟩ (.int .i64 (-x))).cell? ⟨ka, oa + j, none⟩ = some (.int .i64 x) := by rw [World.cell?_setCell_far _ _ _ _ (by simp; omega)]; exact cx
              first | refine hK.out _ _ (by exact cx2) (fun hHeld => ?_) | (go_wp2_with fail; refine hK.out _ _ (by exact cx2) (fun hHeld => ?_))
              clear hK K
              try simp only [Act.put, List.setIfInBounds_toArray, List.set_cons_zero, List.set_cons_succ]
              refine wpAnyH_done (by kernel_rfl) ?_ _
              clear hHeld
              have HN : Hid (CB (wr2.drew.setCell ⟨w.heap.size + 1, i * 3 + j, none⟩ (.int .i64 (-x))) w.heap.size #[.int .i64 0, .int .i64 0, .int .i64 0, .int .i64 0, .int .i64 0, .int .i64 0, .int .i64 0, .int .i64 0, .int .i64 0] 104 ∧ MB (wr2.drew.setCell ⟨w.heap.size + 1, i * 3 + j, none⟩ (.int .i64 (-x))) (w.heap.size + 1) (mC z n i (j + 1)) ∧ Below w.heap.size w (wr2.drew.setCell ⟨w.heap.size + 1, i * 3 + j, none⟩ (.int .i64 (-x)))) :=
                ⟨CB.other (w := wr2.drew) HU.out.1 _ (by omega), (HM.out.put hi3 hj3 (-x)).congr (fun p q _ _ => by
                  unfold mC; (try dsimp only)
                  by_cases e1 : p = i
                  · by_cases e2 : q = j
                    · subst e1 e2; rw [if_pos ⟨rfl, rfl⟩, if_pos ⟨rfl, by omega⟩, HX.out]
                    · rw [if_neg (fun h => e2 h.2)]
                      by_cases e3 : q < j
                      · rw [if_pos ⟨e1, e3⟩, if_pos ⟨e1, by omega⟩]
                      · rw [if_neg (fun h => e3 h.2), if_neg (fun h => e3 (by omega))]
                  · rw [if_neg (fun h => e1 h.1), if_neg (fun h => e1 h.1), if_neg (fun h => e1 h.1)]), HU.out.2.2.drew.setCell (by simp) _⟩
              clear cx cx2 t1 t2 HM HU
              go_wp2
              go_roundw
              case rel => exact ⟨j + 1, by omega, by go_num, HN⟩
              case measure => simp [intOf]; omega
            · obtain rfl : j = n := by omega
              have lkk : ¬ (j : Int) < (j : Int) := by omega
              have t1 := HU.out.2.1.cellAt hi3 hi3
              have t2 := CB.fr HU.out.2.1 (i * 3 + i)
              have HN : Hid (CB (wr.setCell ⟨w.heap.size + 1, i * 3 + i, none⟩ (.int .i64 100)) w.heap.size #[.int .i64 0, .int .i64 0, .int .i64 0, .int .i64 0, .int .i64 0, .int .i64 0, .int .i64 0, .int .i64 0, .int .i64 0] 104 ∧ MB (wr.setCell ⟨w.heap.size + 1, i * 3 + i, none⟩ (.int .i64 100)) (w.heap.size + 1) (mR z j (i + 1)) ∧ Below w.heap.size w (wr.setCell ⟨w.heap.size + 1, i * 3 + i, none⟩ (.int .i64 100))) :=
                ⟨HU.out.1.other _ (by omega), (HU.out.2.1.put hi3 hi3 100).congr (fun p q _ _ => by
                  unfold mC mR; (try dsimp only)
                  by_cases e1 : p = i
                  · subst e1
                    by_cases e2 : q = p
                    · rw [if_pos ⟨rfl, e2⟩, if_pos (by omega), if_pos e2]
                    · rw [if_neg (fun h => e2 h.2), if_pos (by omega : p < p + 1), if_neg e2]
                      by_cases e3 : q < j
                      · rw [if_pos ⟨rfl, e3⟩, if_pos e3]
                      · simp [e3, show ¬ p = q from fun h => e2 h.symm]
                  · rw [if_neg (fun h => e1 h.1), if_neg (fun h => e1 h.1)]
                    by_cases e4 : p < i
                    · rw [if_pos e4, if_pos (show p < i + 1 by omega)]
                    · rw [if_neg e4, if_neg (show ¬ p < i + 1 by omega)]), HU.out.2.2.setCell (by simp) _⟩
              clear HU
              go_wp2
              go_roundw
              case rel => exact ⟨i + 1, by omega, by go_num, HN⟩
              case measure => simp [intOf]; omega
        · obtain rfl : i = n := by omega
          have lkk : ¬ (i : Int) < (i : Int) := by omega
          have HMF : Hid (MB wr (w.heap.size + 1) (mF i z)) := HV.out.2.1
          have l0 : wr.cell? ⟨w.heap.size + 1, 0, none⟩ = some (.int .i64 (mF i z 0 0)) := (CB.cell HMF.out 0).trans rfl
          have l1 : wr.cell? ⟨w.heap.size + 1, 1, none⟩ = some (.int .i64 (mF i z 0 1)) := (CB.cell HMF.out 1).trans rfl
          have l2 : wr.cell? ⟨w.heap.size + 1, 2, none⟩ = some (.int .i64 (mF i z 0 2)) := (CB.cell HMF.out 2).trans rfl
          have l3 : wr.cell? ⟨w.heap.size + 1, 3, none⟩ = some (.int .i64 (mF i z 1 0)) := (CB.cell HMF.out 3).trans rfl
          have l4 : wr.cell? ⟨w.heap.size + 1, 4, none⟩ = some (.int .i64 (mF i z 1 1)) := (CB.cell HMF.out 4).trans rfl
          have l5 : wr.cell? ⟨w.heap.size + 1, 5, none⟩ = some (.int .i64 (mF i z 1 2)) := (CB.cell HMF.out 5).trans rfl
          have l6 : wr.cell? ⟨w.heap.size + 1, 6, none⟩ = some (.int .i64 (mF i z 2 0)) := (CB.cell HMF.out 6).trans rfl
          have l7 : wr.cell? ⟨w.heap.size + 1, 7, none⟩ = some (.int .i64 (mF i z 2 1)) := (CB.cell HMF.out 7).trans rfl
          have l8 : wr.cell? ⟨w.heap.size + 1, 8, none⟩ = some (.int .i64 (mF i z 2 2)) := (CB.cell HMF.out 8).trans rfl
          have HQ : Hid (CB wr w.heap.size #[.int .i64 0, .int .i64 0, .int .i64 0, .int .i64 0, .int .i64 0, .int .i64 0, .int .i64 0, .int .i64 0, .int .i64 0] 104) := HV.out.1
          have q0 := (HQ.out.cell 0).trans rfl
          have g0 := HQ.out.fr 0
          have q1 := (HQ.out.cell 1).trans rfl
          have g1 := HQ.out.fr 1
          have q2 := (HQ.out.cell 2).trans rfl
          have g2 := HQ.out.fr 2
          have q3 := (HQ.out.cell 3).trans rfl
          have g3 := HQ.out.fr 3
          have q4 := (HQ.out.cell 4).trans rfl
          have g4 := HQ.out.fr 4
          have q5 := (HQ.out.cell 5).trans rfl
          have g5 := HQ.out.fr 5
          have q6 := (HQ.out.cell 6).trans rfl
          have g6 := HQ.out.fr 6
          have q7 := (HQ.out.cell 7).trans rfl
          have g7 := HQ.out.fr 7
          have q8 := (HQ.out.cell 8).trans rfl
          have g8 := HQ.out.fr 8
          have hX := (((((((((HQ.out.set 0 (.int .i64 (mF i z 0 0))).set 1 (.int .i64 (mF i z 0 1))).set 2 (.int .i64 (mF i z 0 2))).set 3 (.int .i64 (mF i z 1 0))).set 4 (.int .i64 (mF i z 1 1))).set 5 (.int .i64 (mF i z 1 2))).set 6 (.int .i64 (mF i z 2 0))).set 7 (.int .i64 (mF i z 2 1))).set 8 (.int .i64 (mF i z 2 2)))
          have hZ := (((((((((HV.out.2.2.setCell (p := ⟨w.heap.size, 0, none⟩) (by simp) (.int .i64 (mF i z 0 0))).setCell (p := ⟨w.heap.size, 1, none⟩) (by simp) (.int .i64 (mF i z 0 1))).setCell (p := ⟨w.heap.size, 2, none⟩) (by simp) (.int .i64 (mF i z 0 2))).setCell (p := ⟨w.heap.size, 3, none⟩) (by simp) (.int .i64 (mF i z 1 0))).setCell (p := ⟨w.heap.size, 4, none⟩) (by simp) (.int .i64 (mF i z 1 1))).setCell (p := ⟨w.heap.size, 5, none⟩) (by simp) (.int .i64 (mF i z 1 2))).setCell (p := ⟨w.heap.size, 6, none⟩) (by simp) (.int .i64 (mF i z 2 0))).setCell (p := ⟨w.heap.size, 7, none⟩) (by simp) (.int .i64 (mF i z 2 1))).setCell (p := ⟨w.heap.size, 8, none⟩) (by simp) (.int .i64 (mF i z 2 2)))
          clear HV HQ HMF
          go_wp2
          generalize (World.setCell _ _ _) = W5 at hX hZ ⊢
          have e0 := (hX.cell 0).trans rfl
          have e1 := (hX.cell 1).trans rfl
          have e2 := (hX.cell 2).trans rfl
          have e3 := (hX.cell 3).trans rfl
          have e4 := (hX.cell 4).trans rfl
          have e5 := (hX.cell 5).trans rfl
          have e6 := (hX.cell 6).trans rfl
          have e7 := (hX.cell 7).trans rfl
          have e8 := (hX.cell 8).trans rfl
          refine bodyPost_ret (by simp [results, Try.results79, go_sem, e0, e1, e2, e3, e4, e5, e6, e7, e8]; try rfl) rfl ?_
          exact ⟨rfl, hZ⟩
end Go.Proofs.Ytjlniinahfgakaa
