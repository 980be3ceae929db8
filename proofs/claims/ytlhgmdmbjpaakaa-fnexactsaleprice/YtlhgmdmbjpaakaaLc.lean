/- LadderRate of the program and of the model; the model's test of a ladder. -/
import Derived.Test.YtlhgmdmbjpaakaaLb
namespace Go.Proofs.Ytlhgmdmbjpaakaa
open Go.ChangeShapes Go.WideShapes Go.ChangeAt Go.RowKit
set_option linter.unusedVariables false
set_option linter.unusedSimpArgs false

set_option maxRecDepth 20000 in
set_option maxHeartbeats 8000000 in
theorem specLadder_any (ra : Option Addr) (n rc : Nat) (z : Nat → RU2) (w : World) (h : (n : Int) ≤ 1048576) (hr : RUr w ra n z) :
    Calls Try.prog 85 #[.slice ra n rc] w fun e w' => e = .returned (.bool (rlB n z)) ∧ Below w.heap.size w w' := by
  have HR : Hid (RUr w ra n z) := hr
  clear hr
  by_cases h6 : (20 : Int) < (n : Int)
  · have HV : Hid (rlB n z = false) := rlB_f fun H => by have := H.1; omega
    go_enter Try.func85, Try.ntmps85
    go_wp2
    go_returns
    exact ⟨ret_bool HV.out.symm, Below.refl _ _⟩
  have g6 : (n : Int) ≤ 20 := by omega
  clear h6
  go_enter Try.func85, Try.ntmps85
  go_wp2
  go_loopw [3] (fun i wr => ∃ (k : Nat), k ≤ n ∧ i = .int .i64 (k : Int) ∧ Hid ((∀ j, j < k → rlOk z j = true) ∧ Below w.heap.size w wr)) (fun i _ => n - (intOf i).toNat)
  case atStart => exact ⟨0, Nat.zero_le _, rfl, fun j hj => by omega, Below.refl _ _⟩
  case round =>
    obtain ⟨k, hk, rfl, HH⟩ := hrel
    obtain ⟨wo, rfl⟩ : ∃ x, x = wr := ⟨wr, rfl⟩
    by_cases hlt : k < n
    · have hlt2 : (k : Int) < (n : Int) := by omega
      obtain ⟨kb, off, rfl, hkb⟩ := HR.out.addr (by omega)
      have k0 := (HR.out.below HH.out.2).cell hlt
      obtain ⟨e, he⟩ : ∃ e, z k = e := ⟨_, rfl⟩
      rw [he] at k0
      obtain ⟨from_, rate⟩ := e
      have HX : Hid (z k = ⟨from_, rate⟩) := he
      obtain ⟨c0, c1⟩ := k0
      simp only at c0 c1
      clear he
      cases hf : inB from_ 0 1000000
      · have HV : Hid (rlB n z = false) := hid (rlB_bad hlt (rl_q HX.out (by simp [rlE, hf])))
        go_wp2
        try simp only [List.append]
        go_quiet (first | (go_at_call 57; exact Calls.quiet_of_same (l12Qty_eq _ _ _ hf)) | (go_at_call 82; exact Calls.quiet_of_same (l13Rate_eq _ _ _ hr)))
        go_wp2
        go_returns
        exact ⟨ret_bool HV.out.symm, bd_N HH.out.2 _⟩
      cases hr : inB rate 0 100000
      · have HV : Hid (rlB n z = false) := hid (rlB_bad hlt (rl_q HX.out (by simp [rlE, hr])))
        go_wp2
        try simp only [List.append]
        go_quiet (first | (go_at_call 57; exact Calls.quiet_of_same (l12Qty_eq _ _ _ hf)) | (go_at_call 82; exact Calls.quiet_of_same (l13Rate_eq _ _ _ hr)))
        go_wp2
        go_returns
        exact ⟨ret_bool HV.out.symm, bd_N HH.out.2 _⟩
      have HE : Hid (rlE from_ rate = true) := hid (by simp [rlE, hf, hr])
      by_cases h0 : k = 0
      · have HG : Hid (∀ j, j < k + 1 → rlOk z j = true) := hid (rl_step HH.out.1 (by subst h0; exact rl_0 HX.out HE.out))
        have hz1 : decide (0 < k) = false := by simp [h0]
        have hz2 : decide ((0 : Int) < (k : Int)) = false := by simp [h0]
        clear h0
        go_wp2
        try simp only [List.append]
        go_quiet (first | (go_at_call 57; exact Calls.quiet_of_same (l12Qty_eq _ _ _ hf)) | (go_at_call 82; exact Calls.quiet_of_same (l13Rate_eq _ _ _ hr)))
        go_wp2
        go_roundw
        case rel => exact ⟨k + 1, by omega, by go_num, HG.out, bd_N HH.out.2 _⟩
        case measure => simp [intOf]; omega
      obtain ⟨m, hm⟩ : ∃ m, k = m + 1 := ⟨k - 1, by omega⟩
      have HM : Hid (k = m + 1) := hm
      have hwm : IntKind.i64.wrap ((k : Int) - 1) = (m : Int) := by rw [show (k : Int) - 1 = (m : Int) by omega]; exact IntWalk.i64_in _ ⟨by omega, by omega⟩
      have hz1 : decide (0 < k) = true := by simp; omega
      have hz2 : decide ((0 : Int) < (k : Int)) = true := by simp; omega
      have hmn : (m : Int) < (n : Int) := by omega
      have hm0 : (0 : Int) ≤ (m : Int) := by omega
      have D := (HR.out.below HH.out.2).cell (j := m) (by omega)
      obtain ⟨y, hy⟩ : ∃ y, z m = y := ⟨_, rfl⟩
      rw [hy] at D
      have HY : Hid (z m = y) := hy
      obtain ⟨y0, y1⟩ := y
      obtain ⟨d0, d1⟩ := D
      simp only at d0 d1
      clear hy hm h0
      by_cases hfg : from_ ≤ y0
      · have HV : Hid (rlB n z = false) := hid (rlB_bad hlt (rl_o HX.out HM.out (by rw [HY.out]; exact hfg)))
        have hd : decide (from_ ≤ y0) = true := decide_eq_true hfg
        go_wp2
        try simp only [List.append]
        go_quiet (first | (go_at_call 57; exact Calls.quiet_of_same (l12Qty_eq _ _ _ hf)) | (go_at_call 82; exact Calls.quiet_of_same (l13Rate_eq _ _ _ hr)))
        go_wp2
        go_returns
        exact ⟨ret_bool HV.out.symm, bd_N HH.out.2 _⟩
      · have HG : Hid (∀ j, j < k + 1 → rlOk z j = true) := hid (rl_step HH.out.1 (rl_1 HX.out HM.out HE.out (by rw [HY.out]; simp only; omega)))
        have hd : decide (from_ ≤ y0) = false := decide_eq_false hfg
        clear hfg
        go_wp2
        try simp only [List.append]
        go_quiet (first | (go_at_call 57; exact Calls.quiet_of_same (l12Qty_eq _ _ _ hf)) | (go_at_call 82; exact Calls.quiet_of_same (l13Rate_eq _ _ _ hr)))
        go_wp2
        go_roundw
        case rel => exact ⟨k + 1, by omega, by go_num, HG.out, bd_N HH.out.2 _⟩
        case measure => simp [intOf]; omega
    · obtain rfl : k = n := by omega
      have lkk : ¬ (k : Int) < (k : Int) := by omega
      have HV : Hid (rlB k z = true) := hid (rlB_t ⟨by omega, HH.out.1⟩)
      go_wp2
      go_returns
      exact ⟨ret_bool HV.out.symm, HH.out.2⟩
def lrS (z : Nat → RU2) (q : Int) : Nat → Int
  | 0 => 0
  | k + 1 => if (z k).from_ ≤ q then (z k).rate else lrS z q k
noncomputable def lrB (n : Nat) (z : Nat → RU2) (q : Int) : Bool := rlB n z && inB q 0 1000000
noncomputable def lrV (n : Nat) (z : Nat → RU2) (q : Int) : Int := if lrB n z q = true then lrS z q n else 0
theorem lrV_no {n : Nat} {z : Nat → RU2} {q : Int} (h : lrB n z q = false) : lrV n z q = 0 := by unfold lrV; rw [h]; exact if_neg (by decide)
theorem lrV_yes {n : Nat} {z : Nat → RU2} {q : Int} (h : lrB n z q = true) : lrV n z q = lrS z q n := by unfold lrV; exact if_pos h

set_option maxRecDepth 20000 in
set_option maxHeartbeats 4000000 in
theorem implLr_any (ra : Option Addr) (n rc : Nat) (z : Nat → RU2) (q : Int) (w : World) (h : (n : Int) ≤ 1048576) (hr : RUr w ra n z) :
    Calls Try.prog 31 #[.slice ra n rc, .int .i64 q] w fun e w' => e = .returned (.int .i64 (lrV n z q)) ∧ Below w.heap.size w w' := by
  have HR : Hid (RUr w ra n z) := hr
  have HL : Hid (Calls Try.prog 87 #[.slice ra n rc] w fun e w' => e = .returned (.bool (rlB n z)) ∧ Below w.heap.size w w') := rlLadder_any ra n rc z w h hr
  clear hr
  cases hb : rlB n z
  · have HV : Hid (lrV n z q = 0) := hid (lrV_no (by simp [lrB, hb]))
    rw [hb] at HL
    go_enter Try.func31, Try.ntmps31
    go_wp2_with (first | (go_at_call 87; refine HL.out.mono ?_; rintro e w1 ⟨rfl, b1⟩; have HB1 : Hid (Below w.heap.size w w1) := b1; clear b1) | (go_at_call 88; refine (isQty_eq _ _ _ hq).mono ?_; rintro e w2 ⟨rfl, ew⟩; replace ew := ew.symm; subst ew))
    go_returns
    exact ⟨ret_i HV.out.symm, HB1.out⟩
  cases hq : inB q 0 1000000
  · have HV : Hid (lrV n z q = 0) := hid (lrV_no (by simp [lrB, hq]))
    rw [hb] at HL
    go_enter Try.func31, Try.ntmps31
    go_wp2_with (first | (go_at_call 87; refine HL.out.mono ?_; rintro e w1 ⟨rfl, b1⟩; have HB1 : Hid (Below w.heap.size w w1) := b1; clear b1) | (go_at_call 88; refine (isQty_eq _ _ _ hq).mono ?_; rintro e w2 ⟨rfl, ew⟩; replace ew := ew.symm; subst ew))
    go_returns
    exact ⟨ret_i HV.out.symm, HB1.out⟩
  have HV : Hid (lrV n z q = lrS z q n) := hid (lrV_yes (by simp [lrB, hb, hq]))
  have hn20 : (n : Int) ≤ 20 := by have := (rlB_p hb).1; omega
  rw [hb] at HL
  go_enter Try.func31, Try.ntmps31
  go_wp2_with (first | (go_at_call 87; refine HL.out.mono ?_; rintro e w1 ⟨rfl, b1⟩; have HB1 : Hid (Below w.heap.size w w1) := b1; clear b1) | (go_at_call 88; refine (isQty_eq _ _ _ hq).mono ?_; rintro e w2 ⟨rfl, ew⟩; replace ew := ew.symm; subst ew))
  clear hb hq HL
  go_loopw [5, 18] (fun r i wr => ∃ (k : Nat) (x : Int), k ≤ n ∧ i = .int .i64 (k : Int) ∧ r = .int .i64 x ∧ Hid (x = lrS z q k ∧ Below w.heap.size w wr)) (fun _ i _ => n - (intOf i).toNat)
  case atStart => exact ⟨0, 0, Nat.zero_le _, rfl, rfl, rfl, HB1.out⟩
  case round =>
    obtain ⟨k, x, hk, rfl, rfl, HH⟩ := hrel
    obtain ⟨wo, rfl⟩ : ∃ x, x = wr := ⟨wr, rfl⟩
    by_cases hlt : k < n
    · have hlt2 : (k : Int) < (n : Int) := by omega
      obtain ⟨kb, off, rfl, hkb⟩ := HR.out.addr (by omega)
      have k0 := (HR.out.below HH.out.2).cell hlt
      obtain ⟨e, he⟩ : ∃ e, z k = e := ⟨_, rfl⟩
      rw [he] at k0
      obtain ⟨from_, rate⟩ := e
      have HX : Hid (z k = ⟨from_, rate⟩) := he
      obtain ⟨c0, c1⟩ := k0
      simp only at c0 c1
      clear he
      by_cases hfq : from_ ≤ q
      · have HN : Hid (rate = lrS z q (k + 1)) := hid (by unfold lrS; rw [HX.out]; exact (if_pos hfq).symm)
        go_wp2
        go_roundw
        case rel => exact ⟨k + 1, rate, by omega, by go_num, rfl, HN.out, by first | exact HH.out.2.alloc HH.out.2.size _ | exact bel_on HH.out.2 (by go_grown)⟩
        case measure => simp [intOf]; omega
      · have HN : Hid (x = lrS z q (k + 1)) := hid (by unfold lrS; rw [HX.out]; simp only; rw [if_neg hfq]; exact HH.out.1)
        go_wp2
        go_roundw
        case rel => exact ⟨k + 1, x, by omega, by go_num, rfl, HN.out, by first | exact HH.out.2.alloc HH.out.2.size _ | exact bel_on HH.out.2 (by go_grown)⟩
        case measure => simp [intOf]; omega
    · obtain rfl : k = n := by omega
      have lkk : ¬ (k : Int) < (k : Int) := by omega
      go_wp2
      go_returns
      exact ⟨ret_i (HH.out.1.trans HV.out.symm), HH.out.2⟩
set_option maxRecDepth 20000 in
set_option maxHeartbeats 4000000 in
theorem specLr_any (ra : Option Addr) (n rc : Nat) (z : Nat → RU2) (q : Int) (w : World) (h : (n : Int) ≤ 1048576) (hr : RUr w ra n z) :
    Calls Try.prog 29 #[.slice ra n rc, .int .i64 q] w fun e w' => e = .returned (.int .i64 (lrV n z q)) ∧ Below w.heap.size w w' := by
  have HR : Hid (RUr w ra n z) := hr
  have HL : Hid (∀ W v, Below w.heap.size w W → rlB n z = v → Calls Try.prog 85 #[.slice ra n rc] W fun e w' => e = .returned (.bool v) ∧ Below W.heap.size W w') := fun W v b e => by subst e; exact specLadder_any ra n rc z W h (hr.below b)
  clear hr
  go_enter Try.func29, Try.ntmps29
  go_wp2
  go_loopw [5, 6] (fun r i wr => ∃ (k : Nat) (x : Int), k ≤ n ∧ i = .int .i64 (k : Int) ∧ r = .int .i64 x ∧ Hid ((k = 0 ∨ lrB n z q = true) ∧ x = lrS z q k ∧ Below w.heap.size w wr)) (fun _ i _ => n - (intOf i).toNat)
  case atStart => exact ⟨0, 0, Nat.zero_le _, rfl, rfl, .inl rfl, rfl, Below.refl _ _⟩
  case round =>
    obtain ⟨k, x, hk, rfl, rfl, HH⟩ := hrel
    obtain ⟨wo, rfl⟩ : ∃ x, x = wr := ⟨wr, rfl⟩
    by_cases hlt : k < n
    · have hlt2 : (k : Int) < (n : Int) := by omega
      cases hb : rlB n z
      · have HV : Hid (x = lrV n z q) := hid (by
          rcases HH.out.1 with e | e
          · rw [lrV_no (by simp [lrB, hb]), HH.out.2.1, e]; rfl
          · simp [lrB, hb] at e)
        have HBB : Hid (rlB n z = false) := hb
        clear hb
        go_wp2_with (first | (go_at_call 85; refine (HL.out _ _ HH.out.2.2 HBB.out).mono ?_; rintro e w1 ⟨rfl, b1⟩; have HB1 : Hid (Below w.heap.size w w1) := bel_on HH.out.2.2 b1; clear b1) | (go_at_call 57; refine (l12Qty_eq _ _ _ hq).mono ?_; rintro e w2 ⟨rfl, ew⟩; replace ew := ew.symm; subst ew))
        go_returns
        exact ⟨ret_i HV.out, HB1.out⟩
      cases hq : inB q 0 1000000
      · have HV : Hid (x = lrV n z q) := hid (by
          rcases HH.out.1 with e | e
          · rw [lrV_no (by simp [lrB, hq]), HH.out.2.1, e]; rfl
          · simp [lrB, hq] at e)
        have HBB : Hid (rlB n z = true) := hb
        clear hb
        go_wp2_with (first | (go_at_call 85; refine (HL.out _ _ HH.out.2.2 HBB.out).mono ?_; rintro e w1 ⟨rfl, b1⟩; have HB1 : Hid (Below w.heap.size w w1) := bel_on HH.out.2.2 b1; clear b1) | (go_at_call 57; refine (l12Qty_eq _ _ _ hq).mono ?_; rintro e w2 ⟨rfl, ew⟩; replace ew := ew.symm; subst ew))
        go_returns
        exact ⟨ret_i HV.out, HB1.out⟩
      have HO : Hid (lrB n z q = true) := hid (by simp [lrB, hb, hq])
      have HBB : Hid (rlB n z = true) := hb
      have hn20 : (n : Int) ≤ 20 := by have := (rlB_p hb).1; omega
      clear hb
      obtain ⟨kb, off, rfl, hkb⟩ := HR.out.addr (by omega)
      have k0 := (HR.out.below HH.out.2.2).cell hlt
      obtain ⟨e, he⟩ : ∃ e, z k = e := ⟨_, rfl⟩
      rw [he] at k0
      obtain ⟨from_, rate⟩ := e
      have HX : Hid (z k = ⟨from_, rate⟩) := he
      have HK0 : Hid (AtRU wo kb (off + k * 2) ⟨from_, rate⟩) := k0
      clear he k0
      by_cases hfq : from_ ≤ q
      · have HN : Hid (rate = lrS z q (k + 1)) := hid (by unfold lrS; rw [HX.out]; exact (if_pos hfq).symm)
        go_wp2_with (first | (go_at_call 85; refine (HL.out _ _ HH.out.2.2 HBB.out).mono ?_; rintro e w1 ⟨rfl, b1⟩; have HB1 : Hid (Below w.heap.size w w1) := bel_on HH.out.2.2 b1; have c0 : w1.cell? ⟨kb, off + k * 2, none⟩ = some (.int .i64 from_) := keep_cell b1 HK0.out.1; have c1 : w1.cell? ⟨kb, off + k * 2 + 1, none⟩ = some (.int .i64 rate) := keep_cell b1 HK0.out.2; clear b1) | (go_at_call 57; refine (l12Qty_eq _ _ _ hq).mono ?_; rintro e w2 ⟨rfl, ew⟩; replace ew := ew.symm; subst ew))
        go_roundw
        case rel => exact ⟨k + 1, rate, by omega, by go_num, rfl, .inr HO.out, HN.out, HB1.out⟩
        case measure => simp [intOf]; omega
      · have HN : Hid (x = lrS z q (k + 1)) := hid (by unfold lrS; rw [HX.out]; simp only; rw [if_neg hfq]; exact HH.out.2.1)
        go_wp2_with (first | (go_at_call 85; refine (HL.out _ _ HH.out.2.2 HBB.out).mono ?_; rintro e w1 ⟨rfl, b1⟩; have HB1 : Hid (Below w.heap.size w w1) := bel_on HH.out.2.2 b1; have c0 : w1.cell? ⟨kb, off + k * 2, none⟩ = some (.int .i64 from_) := keep_cell b1 HK0.out.1; have c1 : w1.cell? ⟨kb, off + k * 2 + 1, none⟩ = some (.int .i64 rate) := keep_cell b1 HK0.out.2; clear b1) | (go_at_call 57; refine (l12Qty_eq _ _ _ hq).mono ?_; rintro e w2 ⟨rfl, ew⟩; replace ew := ew.symm; subst ew))
        go_roundw
        case rel => exact ⟨k + 1, x, by omega, by go_num, rfl, .inr HO.out, HN.out, HB1.out⟩
        case measure => simp [intOf]; omega
    · obtain rfl : k = n := by omega
      have lkk : ¬ (k : Int) < (k : Int) := by omega
      have HV : Hid (x = lrV k z q) := hid (by
        rcases HH.out.1 with e | e
        · rw [HH.out.2.1, e]
          unfold lrV
          split <;> rfl
        · rw [lrV_yes e]; exact HH.out.2.1)
      go_wp2
      go_returns
      exact ⟨ret_i HV.out, HH.out.2.2⟩
end Go.Proofs.Ytlhgmdmbjpaakaa
