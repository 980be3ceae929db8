/- Held: plain, and the model's. -/
import Derived.Test.YtoihiamafbokbaaDoorGm
import Derived.Test.YtoihiamafbokbaaDoorAo
import Derived.Test.YtoihiamafbokbaaDoorMm
import Derived.Deep.RegionHeld3
namespace Go.Proofs.YtoihiamafbokbaaDoor
open Go Go.ChangeShapes Go.WideShapes Go.ChangeAt Go.RowKit
set_option linter.unusedVariables false
set_option linter.unusedSimpArgs false

/-- How many of 10000 parts of a member are held. -/
def hF (ms : Nat → M4) (i : Nat) : Int := if h : 0 < i ∧ (ms i).par.toNat < i then mdV (hF ms (ms i).par.toNat) (ms i).sh 10000 3 else 10000
termination_by i
decreasing_by exact h.2
theorem hF_zero (ms : Nat → M4) : hF ms 0 = 10000 := by rw [hF, dif_neg (by omega)]
theorem hF_step {ms : Nat → M4} {i p : Nat} (h : 0 < i) (hp : (ms i).par = (p : Int)) (hlt : p < i) : hF ms i = mdV (hF ms p) (ms i).sh 10000 3 := by
  rw [hF, dif_pos ⟨h, by rw [hp]; simpa using hlt⟩, hp]; rfl
def hL (ms : Nat → M4) (k : Nat) : List Int := (List.range k).map (hF ms)
theorem hL_succ (ms : Nat → M4) (k : Nat) : ivs (hL ms (k + 1)) = ivs (hL ms k) ++ [.int .i64 (hF ms k)] := by simp [hL, List.range_succ, ivs]
theorem hL_get {ms : Nat → M4} {k j : Nat} (h : j < k) : (ivs (hL ms k))[j]? = some (.int .i64 (hF ms j)) := by simp [hL, ivs, h]
theorem row_base {w : World} {b c : Nat} {e : TypeId} {size : Nat} {v : Value} {n : Nat} {xs : List Value} (h : w.ownsRow b e size v n xs) (hc : c ≤ b) : w.ownsRow c e size v n xs := by
  refine ⟨h.1, ?_⟩
  rcases h.2 with hn | ⟨g, cap, cur, rfl, hb', rest⟩
  · exact .inl hn
  · exact .inr ⟨g, cap, cur, rfl, by omega, rest⟩
theorem CB.grownB {w w' : World} {row : Option Nat} {b : Nat} {cs : Array Value} {t : TypeId} (h : CB w b cs t) (g : w.grownBy w' row) (hb : some b ≠ row) : CB w' b cs t := by
  unfold CB at h ⊢; rw [g.block b (lt_of_block h) hb]; exact h
theorem below_grown {B : Nat} {A w w' : World} {row : Option Nat} (h : Below B A w) (hA : B ≤ A.heap.size) (g : w.grownBy w' row) (hr : ∀ r, row = some r → B ≤ r) : Below B A w' :=
  h.trans ⟨g.os, g.tape, g.output, g.size, fun k hk => g.block k (Nat.lt_of_lt_of_le hk (Nat.le_trans hA h.size)) (fun e => by have := hr k e.symm; omega)⟩

set_option maxRecDepth 20000 in
set_option maxHeartbeats 4000000 in
theorem specHeld_any (fa : Option Addr) (len cap : Nat) (c : Nat → C3) (u : Int) (ra : Option Addr) (m rcap : Nat) (ms : Nat → M4) (mi sf : Int) (w : World) (hl : (len : Int) ≤ 1048576) (hc : ∀ j, (c j).code.size ≤ maxLen) (hr : CR w fa len c) (hm : (m : Int) ≤ 1048576) (htn : ∀ j, j < m → ((ms j).tn : Int) ≤ 1048576) (HM : MR w ra m ms) (M : Nat) (hM : M = if grB len c u m ms mi sf = true then m else 0) :
    Calls Tryd.prog 10 #[gAgg fa len cap u ra m rcap mi sf] w fun e w' => ∃ adv capv, e = .returned (.slice adv M capv) ∧ w'.ownsRow w.heap.size 3 1 (.slice adv M capv) M (ivs (hL ms M)) ∧ Below w.heap.size w w' := by
  unfold gAgg
  obtain ⟨i0, hi, hz0, hz1, hz2⟩ := ainfo3
  have HGK : Hid (∀ W, Below w.heap.size w W → Calls Tryd.prog 6 #[gAgg fa len cap u ra m rcap mi sf] W fun e w' => e = .returned (.bool (grB len c u m ms mi sf)) ∧ Below W.heap.size W w') := fun W hW => specGroup_any fa len cap c u ra m rcap ms mi sf W hl hc (hr.below hW) hm htn (HM.below hW)
  unfold gAgg at HGK
  have HME : Hid (MR w ra m ms) := HM
  have HBA : Hid (Below w.heap.size w ((w.alloc (.cells #[.slice fa len cap, .int .i64 u, .slice ra m rcap, .int .i64 mi, .int .i64 sf] 31 (0, 0))).alloc (.cells #[] 3 (0, 0)))) := ((Below.refl _ _).alloc (Nat.le_refl _) _).alloc (by simp) _
  have HOW : Hid (((w.alloc (.cells #[.slice fa len cap, .int .i64 u, .slice ra m rcap, .int .i64 mi, .int .i64 sf] 31 (0, 0))).alloc (.cells #[] 3 (0, 0))).ownsRow (w.heap.size + 1) 3 1 (.slice (some ⟨w.heap.size + 1, 0, none⟩) 0 0) 0 (ivs (hL ms 0))) := ⟨rfl, .inr ⟨w.heap.size + 1, 0, #[], rfl, Nat.le_refl _, CB.newAt (by simp) _ _, Nat.le_refl _, Nat.zero_le _, rfl, rfl⟩⟩
  have HBX : Hid (CB ((w.alloc (.cells #[.slice fa len cap, .int .i64 u, .slice ra m rcap, .int .i64 mi, .int .i64 sf] 31 (0, 0))).alloc (.cells #[] 3 (0, 0))) w.heap.size #[.slice fa len cap, .int .i64 u, .slice ra m rcap, .int .i64 mi, .int .i64 sf] 31) := (CB.new _ _).alloc _
  cases hg : grB len c u m ms mi sf with
  | false =>
    rw [hg] at HGK
    obtain rfl : M = 0 := by rw [hM, hg]; rfl
    clear hM hr hc HM htn
    by_cases h0 : m = 0
    · subst h0
      go_enter Tryd.func10, Tryd.ntmps10
      go_wp2
      refine wp_loop_rounds 1 ?_
      rw [rounds_succ]
      go_wp2
      go_returns
      exact ⟨_, _, rfl, row_base HOW.out (by omega), HBA.out⟩
    · have h1 : (0 : Int) < (m : Int) := by omega
      go_enter Tryd.func10, Tryd.ntmps10
      go_wp2
      refine wp_loop_rounds 1 ?_
      rw [rounds_succ]
      go_wp2_with (go_at_call 6; go_loud (refine (HGK.out _ HBA.out).mono ?_; rintro e w2 ⟨rfl, b2⟩; have HO2 : Hid (w2.ownsRow (w.heap.size + 1) 3 1 (.slice (some ⟨w.heap.size + 1, 0, none⟩) 0 0) 0 (ivs (hL ms 0))) := arow_keep HOW.out b2; have HB2 : Hid (Below w.heap.size w w2) := bel_on HBA.out b2; clear b2))
      go_returns
      exact ⟨_, _, rfl, row_base HO2.out (by omega), HB2.out⟩
  | true =>
    have hgr := grB_iff.1 hg
    rw [hg] at HGK
    obtain rfl : M = m := by rw [hM, hg]; rfl
    have HMH : Hid (∀ i, i < M → MHeld i (ms i)) := fun i hi => (hgr.2.2.2.2.2 i hi).1
    clear hM hr hc HM htn hgr
    go_enter Tryd.func10, Tryd.ntmps10
    go_wp2
    go_loopw [3, 4] (fun o i wr => ∃ (k : Nat) (adv : Option Addr) (capv : Nat), k ≤ M ∧ i = .int .i64 (k : Int) ∧ o = .slice adv k capv ∧ Hid (wr.ownsRow (w.heap.size + 1) 3 1 (.slice adv k capv) k (ivs (hL ms k)) ∧ CB wr w.heap.size #[.slice fa len cap, .int .i64 u, .slice ra M rcap, .int .i64 mi, .int .i64 sf] 31 ∧ Below w.heap.size w wr)) (fun o i _ => M - (intOf i).toNat)
    case atStart => exact ⟨0, _, _, Nat.zero_le _, rfl, rfl, HOW.out, HBX.out, HBA.out⟩
    case round =>
      clear HOW HBX HBA
      obtain ⟨k, adv, capv, hk, rfl, rfl, HK⟩ := hrel
      have y0 := (HK.out.2.1.cell 0).trans rfl
      have y1 := (HK.out.2.1.cell 1).trans rfl
      have y2 := (HK.out.2.1.cell 2).trans rfl
      have y3 := (HK.out.2.1.cell 3).trans rfl
      have y4 := (HK.out.2.1.cell 4).trans rfl
      have hsz := HK.out.2.1.lt
      by_cases hlt : k < M
      · have hlt2 : (k : Int) < (M : Int) := by omega
        have HT : Hid (ivs (hL ms (k + 1)) = ivs (hL ms k) ++ [.int .i64 (hF ms k)]) := hL_succ ms k
        by_cases hk0 : k = 0
        · subst hk0
          rw [hF_zero] at HT
          go_wp2_with (first
            | (go_at_call 6; go_loud (refine (HGK.out _ HK.out.2.2).mono ?_; rintro e w2 ⟨rfl, b2⟩; have HO2 : Hid (w2.ownsRow (w.heap.size + 1) 3 1 (.slice adv 0 capv) 0 (ivs (hL ms 0))) := arow_keep HK.out.1 b2; have HX2 : Hid (CB w2 w.heap.size #[.slice fa len cap, .int .i64 u, .slice ra M rcap, .int .i64 mi, .int .i64 sf] 31) := HK.out.2.1.below b2 HK.out.2.1.lt; have HB2 : Hid (Below w.heap.size w w2) := bel_on HK.out.2.2 b2; have s2 := b2.size; clear b2))
            | (at_builtin; go_loud (refine wpList_append_own_at _ rfl _ _ 35 rfl (w.heap.size + 1) 3 i0 (.int .i64 0) 1 8 Tryd.underlying35 hi hz0 hz1 hz2 rfl (by decide) (.slice adv 0 capv) 0 (ivs (hL ms 0)) rfl (HO2.out.alloc _) ⟨w2.heap.size, 0, none⟩ 1 1 [.int .i64 10000] rfl rfl (acells_at rfl) (fun u hu => by simp at hu; subst hu; rfl) (by unfold maxLen; omega) (by omega) (by have := HX2.out.lt; simp; omega) ?_; intro v' w4 hown4 hgrow4 _ hloc4; obtain ⟨ad4, cap4, rfl⟩ := arow_form hown4; have HO4 : Hid (w4.ownsRow (w.heap.size + 1) 3 1 (.slice ad4 (0 + 1) cap4) (0 + 1) (ivs (hL ms 0) ++ [.int .i64 10000])) := hown4; have hlo : ∀ zz, Value.ownBlock (.slice adv 0 capv) = some zz → w.heap.size + 1 ≤ zz := (fun zz hzz => (HO2.out.lt zz hzz).1); have HX4 : Hid (CB w4 w.heap.size #[.slice fa len cap, .int .i64 u, .slice ra M rcap, .int .i64 mi, .int .i64 sf] 31) := CB.grownB (HX2.out.alloc _) hgrow4 (fun q => by have := hlo _ q.symm; omega); have HB4 : Hid (Below w.heap.size w w4) := below_grown (HB2.out.alloc HB2.out.size _) (Nat.le_refl _) hgrow4 (fun r q => by have := hlo r q; omega); clear hown4 hgrow4 hloc4 hlo)))
          go_roundw
          case rel => exact ⟨0 + 1, ad4, cap4, by omega, by go_num, rfl, by rw [HT.out]; exact HO4.out, HX4.out, HB4.out⟩
          case measure => simp [intOf]; omega
        · have hk1 : 0 < (k : Int) := by omega
          have hmh := HMH.out k hlt
          obtain ⟨p, hp⟩ : ∃ p : Nat, (ms k).par = (p : Int) := ⟨(ms k).par.toNat, by unfold MHeld at hmh; omega⟩
          have hpk : p < k := by unfold MHeld at hmh; omega
          have hpk2 : (p : Int) < (k : Int) := by omega
          have hst := hF_step (by omega : 0 < k) hp hpk
          rw [hst] at HT
          obtain ⟨kb, off, rfl, hkb, hru⟩ := HME.out.get hlt
          obtain ⟨x, hx⟩ : ∃ x, hF ms p = x := ⟨_, rfl⟩
          obtain ⟨s, hs⟩ : ∃ x, (ms k).sh = x := ⟨_, rfl⟩
          rw [hx, hs] at HT
          have HX : Hid (hF ms p = x) := hx
          have HP : Hid ((ms k).par = (p : Int) ∧ (ms k).sh = s) := ⟨hp, hs⟩
          have HRU : Hid (MeAt w kb (off + k * 4) (ms k)) := hru
          clear hmh hst hp hx hs hru hk0
          obtain ⟨g, cpg, eg, _, _, hcg⟩ := arow_get HK.out.1 hpk
          simp only [Value.slice.injEq] at eg
          obtain ⟨rfl, _, rfl⟩ := eg
          clear hcg
          obtain ⟨y, hy⟩ : ∃ y, mdV x s 10000 3 = y := ⟨_, rfl⟩
          rw [hy] at HT
          have HY : Hid (mdV x s 10000 3 = y) := hy
          clear hy
          go_upto_region 7 with ((go_at_call 6; go_loud (refine (HGK.out _ HK.out.2.2).mono ?_; rintro e w2 ⟨rfl, b2⟩; have HO2 : Hid (w2.ownsRow (w.heap.size + 1) 3 1 (.slice (some ⟨g, 0, none⟩) k capv) k (ivs (hL ms k))) := arow_keep HK.out.1 b2; have HX2 : Hid (CB w2 w.heap.size #[.slice fa len cap, .int .i64 u, .slice (some ⟨kb, off, none⟩) M rcap, .int .i64 mi, .int .i64 sf] 31) := HK.out.2.1.below b2 HK.out.2.1.lt; have HB2 : Hid (Below w.heap.size w w2) := bel_on HK.out.2.2 b2; have s2 := b2.size; clear b2)))
          obtain ⟨ta, tc, c1, c2, c3, c4, r5⟩ := HRU.out.below hkb HB2.out
          rw [HP.out.1] at c1
          rw [HP.out.2] at c2
          have q2 := (HX2.out.cell 2).trans rfl
          have o1 : w2.cell? ⟨g, p, none⟩ = some (.int .i64 x) := by
            obtain ⟨g', cp', eg', _, _, hcg⟩ := arow_get HO2.out hpk
            simp only [Value.slice.injEq, Option.some.injEq, Addr.mk.injEq] at eg'
            obtain ⟨⟨rfl, _⟩, _, rfl⟩ := eg'
            rw [hcg p hpk, hL_get hpk, HX.out]
          clear c3 c4 r5
          refine wp_region_held_drew (S := fun w' => w'.cell? ⟨w.heap.size, 2, none⟩ = some (.slice (some ⟨kb, off, none⟩) M rcap) ∧ w'.cell? ⟨kb, off + k * 4, none⟩ = some (.int .i64 (p : Int)) ∧ w'.cell? ⟨kb, off + k * 4 + 1, none⟩ = some (.int .i64 s) ∧ w'.cell? ⟨g, p, none⟩ = some (.int .i64 x)) (by kernel_rfl) (by exact ⟨q2, c1, c2, o1⟩) (fun hHeld => ?_)
          refine wpAnyH_take (i := 0) (oi := { dst := some 21, op := Go.Op.move (Go.Operand.tmp 3), type := 35, pos := "l08_group.go:42", after := #[], guard := none }) (v := ?_) rfl (by kernel_rfl) (by kernel_rfl) (by kernel_rfl) (fun _ _ _ h => h) (Or.inl ⟨by rfl, ?_⟩) (by assumption) ?_
          rotate_left
          · (intro w hSw; (try dsimp only at hSw); go_simp <;> try with_reducible rfl)
          try simp only [Act.put, List.setIfInBounds_toArray, List.set_cons_zero, List.set_cons_succ]
          refine wpAnyH_take (i := 1) (oi := { dst := some 22, op := Go.Op.fieldAddr 31 (Go.Operand.tmp 1) 2, type := 0, pos := "l08_group.go:42", after := #[], guard := none }) (v := ?_) rfl (by kernel_rfl) (by kernel_rfl) (by kernel_rfl) (fun _ _ _ h => h) (Or.inl ⟨by rfl, ?_⟩) (by assumption) ?_
          rotate_left
          · (intro w hSw; (try dsimp only at hSw); go_simp <;> try with_reducible rfl)
          try simp only [Act.put, List.setIfInBounds_toArray, List.set_cons_zero, List.set_cons_succ]
          refine wpAnyH_take (i := 2) (oi := { dst := some 23, op := Go.Op.load 29 (Go.Operand.tmp 22), type := 29, pos := "l08_group.go:42", after := #[{ on := 1, ground := Go.Ground.data }], guard := none }) (v := ?_) rfl (by kernel_rfl) (by kernel_rfl) (by kernel_rfl) (fun _ _ _ h => h) (Or.inl ⟨by rfl, ?_⟩) (by assumption) ?_
          rotate_left
          · (intro w hSw; (try dsimp only at hSw); go_simp <;> try with_reducible rfl)
          try simp only [Act.put, List.setIfInBounds_toArray, List.set_cons_zero, List.set_cons_succ]
          refine wpAnyH_take (i := 3) (oi := { dst := some 24, op := Go.Op.move (Go.Operand.tmp 4), type := 3, pos := "l08_group.go:42", after := #[], guard := none }) (v := ?_) rfl (by kernel_rfl) (by kernel_rfl) (by kernel_rfl) (fun _ _ _ h => h) (Or.inl ⟨by rfl, ?_⟩) (by assumption) ?_
          rotate_left
          · (intro w hSw; (try dsimp only at hSw); go_simp <;> try with_reducible rfl)
          try simp only [Act.put, List.setIfInBounds_toArray, List.set_cons_zero, List.set_cons_succ]
          refine wpAnyH_take (i := 4) (oi := { dst := some 25, op := Go.Op.indexAddr 29 (Go.Operand.tmp 23) (Go.Operand.tmp 24), type := 0, pos := "l08_group.go:42", after := #[{ on := 2, ground := Go.Ground.data }, { on := 3, ground := Go.Ground.data }], guard := none }) (v := ?_) rfl (by kernel_rfl) (by kernel_rfl) (by kernel_rfl) (fun _ _ _ h => h) (Or.inl ⟨by rfl, ?_⟩) (by assumption) ?_
          rotate_left
          · (intro w hSw; (try dsimp only at hSw); go_simp <;> try with_reducible rfl)
          try simp only [Act.put, List.setIfInBounds_toArray, List.set_cons_zero, List.set_cons_succ]
          refine wpAnyH_take (i := 5) (oi := { dst := some 26, op := Go.Op.fieldAddr 46 (Go.Operand.tmp 25) 0, type := 0, pos := "l08_group.go:42", after := #[{ on := 4, ground := Go.Ground.data }], guard := none }) (v := ?_) rfl (by kernel_rfl) (by kernel_rfl) (by kernel_rfl) (fun _ _ _ h => h) (Or.inl ⟨by rfl, ?_⟩) (by assumption) ?_
          rotate_left
          · (intro w hSw; (try dsimp only at hSw); go_simp <;> try with_reducible rfl)
          try simp only [Act.put, List.setIfInBounds_toArray, List.set_cons_zero, List.set_cons_succ]
          refine wpAnyH_take (i := 6) (oi := { dst := some 27, op := Go.Op.load 3 (Go.Operand.tmp 26), type := 3, pos := "l08_group.go:42", after := #[{ on := 5, ground := Go.Ground.data }], guard := none }) (v := ?_) rfl (by kernel_rfl) (by kernel_rfl) (by kernel_rfl) (fun _ _ _ h => h) (Or.inl ⟨by rfl, ?_⟩) (by assumption) ?_
          rotate_left
          · (intro w hSw; (try dsimp only at hSw); go_simp <;> try with_reducible rfl)
          try simp only [Act.put, List.setIfInBounds_toArray, List.set_cons_zero, List.set_cons_succ]
          refine wpAnyH_take (i := 7) (oi := { dst := some 28, op := Go.Op.indexAddr 35 (Go.Operand.tmp 21) (Go.Operand.tmp 27), type := 0, pos := "l08_group.go:42", after := #[{ on := 0, ground := Go.Ground.data }, { on := 6, ground := Go.Ground.data }], guard := none }) (v := ?_) rfl (by kernel_rfl) (by kernel_rfl) (by kernel_rfl) (fun _ _ _ h => h) (Or.inl ⟨by rfl, ?_⟩) (by assumption) ?_
          rotate_left
          · (intro w hSw; (try dsimp only at hSw); go_simp <;> try with_reducible rfl)
          try simp only [Act.put, List.setIfInBounds_toArray, List.set_cons_zero, List.set_cons_succ]
          refine wpAnyH_take (i := 8) (oi := { dst := some 29, op := Go.Op.load 3 (Go.Operand.tmp 28), type := 3, pos := "l08_group.go:42", after := #[{ on := 7, ground := Go.Ground.data }], guard := none }) (v := ?_) rfl (by kernel_rfl) (by kernel_rfl) (by kernel_rfl) (fun _ _ _ h => h) (Or.inl ⟨by rfl, ?_⟩) (by assumption) ?_
          rotate_left
          · (intro w hSw; (try dsimp only at hSw); go_simp <;> try with_reducible rfl)
          try simp only [Act.put, List.setIfInBounds_toArray, List.set_cons_zero, List.set_cons_succ]
          refine wpAnyH_take (i := 9) (oi := { dst := some 30, op := Go.Op.fieldAddr 31 (Go.Operand.tmp 1) 2, type := 0, pos := "l08_group.go:42", after := #[], guard := none }) (v := ?_) rfl (by kernel_rfl) (by kernel_rfl) (by kernel_rfl) (fun _ _ _ h => h) (Or.inl ⟨by rfl, ?_⟩) (by assumption) ?_
          rotate_left
          · (intro w hSw; (try dsimp only at hSw); go_simp <;> try with_reducible rfl)
          try simp only [Act.put, List.setIfInBounds_toArray, List.set_cons_zero, List.set_cons_succ]
          refine wpAnyH_take (i := 10) (oi := { dst := some 31, op := Go.Op.load 29 (Go.Operand.tmp 30), type := 29, pos := "l08_group.go:42", after := #[{ on := 9, ground := Go.Ground.data }], guard := none }) (v := ?_) rfl (by kernel_rfl) (by kernel_rfl) (by kernel_rfl) (fun _ _ _ h => h) (Or.inl ⟨by rfl, ?_⟩) (by assumption) ?_
          rotate_left
          · (intro w hSw; (try dsimp only at hSw); go_simp <;> try with_reducible rfl)
          try simp only [Act.put, List.setIfInBounds_toArray, List.set_cons_zero, List.set_cons_succ]
          refine wpAnyH_take (i := 11) (oi := { dst := some 32, op := Go.Op.move (Go.Operand.tmp 4), type := 3, pos := "l08_group.go:42", after := #[], guard := none }) (v := ?_) rfl (by kernel_rfl) (by kernel_rfl) (by kernel_rfl) (fun _ _ _ h => h) (Or.inl ⟨by rfl, ?_⟩) (by assumption) ?_
          rotate_left
          · (intro w hSw; (try dsimp only at hSw); go_simp <;> try with_reducible rfl)
          try simp only [Act.put, List.setIfInBounds_toArray, List.set_cons_zero, List.set_cons_succ]
          refine wpAnyH_take (i := 12) (oi := { dst := some 33, op := Go.Op.indexAddr 29 (Go.Operand.tmp 31) (Go.Operand.tmp 32), type := 0, pos := "l08_group.go:42", after := #[{ on := 10, ground := Go.Ground.data }, { on := 11, ground := Go.Ground.data }], guard := none }) (v := ?_) rfl (by kernel_rfl) (by kernel_rfl) (by kernel_rfl) (fun _ _ _ h => h) (Or.inl ⟨by rfl, ?_⟩) (by assumption) ?_
          rotate_left
          · (intro w hSw; (try dsimp only at hSw); go_simp <;> try with_reducible rfl)
          try simp only [Act.put, List.setIfInBounds_toArray, List.set_cons_zero, List.set_cons_succ]
          refine wpAnyH_take (i := 13) (oi := { dst := some 34, op := Go.Op.fieldAddr 46 (Go.Operand.tmp 33) 1, type := 0, pos := "l08_group.go:42", after := #[{ on := 12, ground := Go.Ground.data }], guard := none }) (v := ?_) rfl (by kernel_rfl) (by kernel_rfl) (by kernel_rfl) (fun _ _ _ h => h) (Or.inl ⟨by rfl, ?_⟩) (by assumption) ?_
          rotate_left
          · (intro w hSw; (try dsimp only at hSw); go_simp <;> try with_reducible rfl)
          try simp only [Act.put, List.setIfInBounds_toArray, List.set_cons_zero, List.set_cons_succ]
          refine wpAnyH_take (i := 14) (oi := { dst := some 35, op := Go.Op.load 3 (Go.Operand.tmp 34), type := 3, pos := "l08_group.go:42", after := #[{ on := 13, ground := Go.Ground.data }], guard := none }) (v := ?_) rfl (by kernel_rfl) (by kernel_rfl) (by kernel_rfl) (fun _ _ _ h => h) (Or.inl ⟨by rfl, ?_⟩) (by assumption) ?_
          rotate_left
          · (intro w hSw; (try dsimp only at hSw); go_simp <;> try with_reducible rfl)
          try simp only [Act.put, List.setIfInBounds_toArray, List.set_cons_zero, List.set_cons_succ]
          refine wpAnyH_ready (rs := [15]) (by kernel_rfl) (by simp) ?_
          refine AllReadyH.cons (o := { dst := some 36, op := Go.Op.call { callee := Go.Callee.value (Go.Operand.func 27), args := #[Go.Operand.tmp 29, Go.Operand.tmp 35, Go.Operand.const (Go.Value.int Go.IntKind.i64 10000), Go.Operand.const (Go.Value.int Go.IntKind.i64 3)], argTypes := #[3, 3, 3, 3] }, type := 61, pos := "l08_group.go:42", after := #[{ on := 8, ground := Go.Ground.data }, { on := 14, ground := Go.Ground.data }], guard := none }) rfl (fun K hK => ?_) (AllReadyH.nil)
          go_simp
          refine (specMulDiv_any _ _ _ _ _).mono ?_
          rintro e w5 ⟨rfl, ew⟩
          replace ew := ew.symm
          subst ew
          first | refine hK.out _ _ (by exact ⟨q2, c1, c2, o1⟩) (fun hHeld => ?_) | (go_wp2_with fail; refine hK.out _ _ (by exact ⟨q2, c1, c2, o1⟩) (fun hHeld => ?_))
          clear hK K
          try simp only [Act.put, List.setIfInBounds_toArray, List.set_cons_zero, List.set_cons_succ]
          refine wpAnyH_take (i := 16) (oi := { dst := some 20, op := Go.Op.move (Go.Operand.tmp 36), type := 61, pos := "l08_group.go:42", after := #[{ on := 15, ground := Go.Ground.data }], guard := none }) (v := ?_) rfl (by kernel_rfl) (by kernel_rfl) (by kernel_rfl) (fun _ _ _ h => h) (Or.inl ⟨by rfl, ?_⟩) (by assumption) ?_
          rotate_left
          · (intro w hSw; (try dsimp only at hSw); go_simp <;> try with_reducible rfl)
          try simp only [Act.put, List.setIfInBounds_toArray, List.set_cons_zero, List.set_cons_succ]
          refine wpAnyH_take (i := 17) (oi := { dst := some 37, op := Go.Op.extract (Go.Operand.tmp 20) 0, type := 3, pos := "l08_group.go:42", after := #[{ on := 16, ground := Go.Ground.data }], guard := none }) (v := ?_) rfl (by kernel_rfl) (by kernel_rfl) (by kernel_rfl) (fun _ _ _ h => h) (Or.inl ⟨by rfl, ?_⟩) (by assumption) ?_
          rotate_left
          · (intro w hSw; (try dsimp only at hSw); go_simp <;> try with_reducible rfl)
          try simp only [Act.put, List.setIfInBounds_toArray, List.set_cons_zero, List.set_cons_succ]
          refine wpAnyH_take (i := 18) (oi := { dst := some 38, op := Go.Op.extract (Go.Operand.tmp 20) 1, type := 4, pos := "l08_group.go:42", after := #[{ on := 16, ground := Go.Ground.data }, { on := 19, ground := Go.Ground.gcOnly Go.Departure.lateStores }], guard := none }) (v := ?_) rfl (by kernel_rfl) (by kernel_rfl) (by kernel_rfl) (fun _ _ _ h => h) (Or.inl ⟨by rfl, ?_⟩) (by assumption) ?_
          rotate_left
          · (intro w hSw; (try dsimp only at hSw); go_simp <;> try with_reducible rfl)
          try simp only [Act.put, List.setIfInBounds_toArray, List.set_cons_zero, List.set_cons_succ]
          refine wpAnyH_take (i := 19) (oi := { dst := some 5, op := Go.Op.assign (Go.Operand.tmp 37), type := 3, pos := "l08_group.go:42", after := #[{ on := 17, ground := Go.Ground.data }, { on := 15, ground := Go.Ground.chain }, { on := 0, ground := Go.Ground.phase }, { on := 1, ground := Go.Ground.phase }, { on := 2, ground := Go.Ground.phase }, { on := 3, ground := Go.Ground.phase }, { on := 4, ground := Go.Ground.phase }, { on := 5, ground := Go.Ground.phase }, { on := 6, ground := Go.Ground.phase }, { on := 7, ground := Go.Ground.phase }, { on := 8, ground := Go.Ground.phase }, { on := 9, ground := Go.Ground.phase }, { on := 10, ground := Go.Ground.phase }, { on := 11, ground := Go.Ground.phase }, { on := 12, ground := Go.Ground.phase }, { on := 13, ground := Go.Ground.phase }, { on := 14, ground := Go.Ground.phase }, { on := 15, ground := Go.Ground.phase }, { on := 16, ground := Go.Ground.phase }, { on := 17, ground := Go.Ground.phase }, { on := 18, ground := Go.Ground.textOnly Go.Departure.lateStores }], guard := none }) (v := ?_) rfl (by kernel_rfl) (by kernel_rfl) (by kernel_rfl) (fun _ _ _ h => h) (Or.inl ⟨by rfl, ?_⟩) (by assumption) ?_
          rotate_left
          · (intro w hSw; (try dsimp only at hSw); go_simp <;> try with_reducible rfl)
          try simp only [Act.put, List.setIfInBounds_toArray, List.set_cons_zero, List.set_cons_succ]
          refine wpAnyH_done (by kernel_rfl) ?_ _
          clear hHeld
          rw [HY.out]
          clear q2 c1 c2 o1
          have HO2' : Hid (w2.drew.ownsRow (w.heap.size + 1) 3 1 (.slice (some ⟨g, 0, none⟩) k capv) k (ivs (hL ms k))) := arow_keep HO2.out (Below.refl _ _).drew
          have HX2' : Hid (CB w2.drew w.heap.size #[.slice fa len cap, .int .i64 u, .slice (some ⟨kb, off, none⟩) M rcap, .int .i64 mi, .int .i64 sf] 31) := HX2.out
          have HB2' : Hid (Below w.heap.size w w2.drew) := HB2.out.drew
          clear HO2 HX2 HB2
          have HO2 := HO2'
          have HX2 := HX2'
          have HB2 := HB2'
          clear HO2' HX2' HB2'
          go_wp2_with ((at_builtin; go_loud (refine wpList_append_own_at _ rfl _ _ 35 rfl (w.heap.size + 1) 3 i0 (.int .i64 0) 1 8 Tryd.underlying35 hi hz0 hz1 hz2 rfl (by decide) (.slice (some ⟨g, 0, none⟩) k capv) k (ivs (hL ms k)) rfl (HO2.out.alloc _) ⟨w2.heap.size, 0, none⟩ 1 1 [.int .i64 y] rfl rfl (acells_at rfl) (fun u hu => by simp at hu; subst hu; rfl) (by unfold maxLen; omega) (by omega) (by have := HX2.out.lt; simp; omega) ?_; intro v' w4 hown4 hgrow4 _ hloc4; obtain ⟨ad4, cap4, rfl⟩ := arow_form hown4; have HO4 : Hid (w4.ownsRow (w.heap.size + 1) 3 1 (.slice ad4 (k + 1) cap4) (k + 1) (ivs (hL ms k) ++ [.int .i64 y])) := hown4; have hlo : ∀ zz, Value.ownBlock (.slice (some ⟨g, 0, none⟩) k capv) = some zz → w.heap.size + 1 ≤ zz := (fun zz hzz => (HO2.out.lt zz hzz).1); have HX4 : Hid (CB w4 w.heap.size #[.slice fa len cap, .int .i64 u, .slice (some ⟨kb, off, none⟩) M rcap, .int .i64 mi, .int .i64 sf] 31) := CB.grownB (HX2.out.alloc _) hgrow4 (fun q => by have := hlo _ q.symm; omega); have HB4 : Hid (Below w.heap.size w w4) := below_grown (HB2.out.alloc HB2.out.size _) (Nat.le_refl _) hgrow4 (fun r q => by have := hlo r q; omega); clear hown4 hgrow4 hloc4 hlo)))
          go_roundw
          case rel => exact ⟨k + 1, ad4, cap4, by omega, by go_num, rfl, by rw [HT.out]; exact HO4.out, HX4.out, HB4.out⟩
          case measure => simp [intOf]; omega
      · obtain rfl : k = M := by omega
        have lkk : ¬ (k : Int) < (k : Int) := by omega
        go_wp2
        go_returns
        exact ⟨_, _, rfl, row_base HK.out.1 (by omega), HK.out.2.2⟩
end Go.Proofs.YtoihiamafbokbaaDoor
