/- At every drawn code of at most 1048576 bytes (and at a longer one at once) FnReminded answers true: a bill that is reminded day by day comes to just those levels whose days have come; nothing older is written. -/
import Derived.Test.YtlhgmdmbjpaakaaRows
import Derived.WalkKit
import Derived.ProofKit
import Derived.OpenShut
import Derived.ShutString
import Derived.ChangeOld
import Derived.Below
import Derived.Handy
import Derived.Carry
import Derived.Lib.SmallJoins
import Derived.Deep.SlicePairs
import Derived.Test.YtlhgmdmbjpaakaaNy
namespace Go.Proofs.Ytlhgmdmbjpaakaa.fnReminded
open Go.ChangeShapes Go.WideShapes Go.ChangeAt Go.RowKit
set_option linter.unusedVariables false
set_option linter.unusedSimpArgs false

theorem own : ownKnob Try.prog.godebug = none := by kernel_rfl
theorem laidOut : laidOutB Try.prog = true := by kernel_rfl

set_option maxRecDepth 20000 in
set_option maxHeartbeats 4000000 in
theorem walk (a0 : Option Addr) (len0 cap0 : Nat) (z0 : List Int) (w : World) (w0 : IsRow .u8 w a0 len0 cap0 z0) :
    Calls Try.prog 5 #[.slice a0 len0 cap0] w fun e w' => e = .returned (.bool true) ∧ Below w.heap.size w w' := by
  by_cases hbig : (1048576 : Int) < (len0 : Int)
  · go_enter Try.func5, Try.ntmps5
    go_wp2_with (go_at_call 13; refine (big_t _ _ _ _ hbig).mono ?_; rintro e w1 ⟨rfl, ew⟩; replace ew := ew.symm; subst ew)
    go_returns
    exact ⟨rfl, Below.refl _ _⟩
  have hb2 : (len0 : Int) ≤ 1048576 := by omega
  have HRW : Hid (ByteRow w w.heap.size a0 len0) := row_of w0
  have HDR : Hid (∀ W, Below w.heap.size w W → Calls Try.prog 23 #[.slice a0 len0 cap0] W (DrP W)) := fun W b => drawRemind_any a0 len0 cap0 W hb2 (HRW.out.up b)
  clear w0
  go_enter Try.func5, Try.ntmps5
  go_wp2_with (first
    | (go_at_call 13; refine (big_f _ _ _ _ hb2).mono ?_; rintro e wq ⟨rfl, ew⟩; replace ew := ew.symm; subst ew)
    | (go_at_call 22; refine (remind_one _).mono ?_; rintro e w1 ⟨rfl, b1⟩; have HB1 : Hid (Below w.heap.size w w1) := b1; clear b1)
    | (go_at_call 23; refine (HDR.out _ HB1.out).mono ?_; rintro e w2 ⟨g, n, oc, c, du, to_, lv, am, rfl, hn, hr, b2⟩; have HB2 : Hid (Below w.heap.size w w2) := bel_on HB1.out b2; have HR2 : Hid (DNr w2 (some ⟨g, 0, none⟩) n c) := hr; rcases (show du < 0 ∨ (¬ du < 0 ∧ 39800 < du) ∨ (¬ du < 0 ∧ ¬ 39800 < du ∧ am < 0) ∨ (¬ du < 0 ∧ ¬ 39800 < du ∧ ¬ am < 0 ∧ 100000000000 < am) ∨ ((0 ≤ du ∧ du ≤ 39800) ∧ (0 ≤ am ∧ am ≤ 100000000000)) by omega) with hdu | ⟨hdu, hdv⟩ | ⟨hdu, hdv, ham⟩ | ⟨hdu, hdv, ham, han⟩ | ⟨hdu, ham⟩; all_goals clear b2 hr))
  all_goals try
    go_returns
    exact ⟨rfl, HB2.out⟩
  go_loopw [10, 11, 12] (fun x y i wr => ∃ (k W : Nat) (F : Int), k ≤ n ∧ W ≤ k ∧ x = .int .i64 (W : Int) ∧ y = .int .i64 F ∧ i = .int .i64 (k : Int) ∧ -(200000000000 * (k : Int)) ≤ F ∧ F ≤ 200000000000 * (k : Int) ∧ Hid ((∀ j, j < k → dlOk c j = true) ∧ Wan k c W ∧ F = rdS c am W ∧ Below w2.heap.size w2 wr)) (fun _ _ i _ => n - (intOf i).toNat)
  case atStart => exact ⟨0, 0, 0, Nat.zero_le _, Nat.le_refl _, rfl, rfl, rfl, by omega, by omega, fun j hj => by omega, ⟨Nat.le_refl _, fun i hi => by omega, fun i h1 h2 => by omega⟩, rfl, Below.refl _ _⟩
  case round =>
    obtain ⟨k, W, F, hk, hWk, rfl, rfl, rfl, hF0, hF1, HH⟩ := hrel
    obtain ⟨wo, rfl⟩ : ∃ x, x = wr := ⟨wr, rfl⟩
    by_cases hlt : k < n
    · have hlt2 : (k : Int) < (n : Int) := by omega
      have k0 := (HR2.out.below HH.out.2.2.2).cell hlt
      obtain ⟨e, he⟩ : ∃ e, c k = e := ⟨_, rfl⟩
      rw [he] at k0
      obtain ⟨days, fee, rate⟩ := e
      have HX : Hid (c k = ⟨days, fee, rate⟩) := he
      obtain ⟨c0, c1, c2⟩ := k0
      simp only [Nat.zero_add] at c0 c1 c2
      clear he
      by_cases t1 : days < 0
      · have ft1 : decide (days < 0) = true := decide_eq_true t1
        go_wp2
        have hC : CB (wo.alloc (.cells #[.int .i64 days, .int .i64 fee, .int .i64 rate] 43 (0, 0))) wo.heap.size #[.int .i64 days, .int .i64 fee, .int .i64 rate] 43 := CB.new _ _
        have hW : Below w2.heap.size w2 (wo.alloc (.cells #[.int .i64 days, .int .i64 fee, .int .i64 rate] 43 (0, 0))) := bel_on HH.out.2.2.2 ((Below.refl _ _).alloc (Nat.le_refl _) _)
        clear c0 c1 c2
        generalize wo.alloc (.cells #[.int .i64 days, .int .i64 fee, .int .i64 rate] 43 (0, 0)) = W9 at hC hW ⊢
        have c0 : W9.cell? ⟨wo.heap.size, 0, none⟩ = some (.int .i64 days) := (hC.cell 0).trans rfl
        have c1 : W9.cell? ⟨wo.heap.size, 1, none⟩ = some (.int .i64 fee) := (hC.cell 1).trans rfl
        have c2 : W9.cell? ⟨wo.heap.size, 2, none⟩ = some (.int .i64 rate) := (hC.cell 2).trans rfl
        have HC : Hid (CB W9 wo.heap.size #[.int .i64 days, .int .i64 fee, .int .i64 rate] 43) := hC
        have HW : Hid (Below w2.heap.size w2 W9) := hW
        clear hC hW
        try simp only [List.append]
        go_quiet (fail)
        go_wp2
        go_returns
        exact ⟨rfl, bel_on HB2.out (bd_N HW.out _)⟩
      have ft1 : decide (days < 0) = false := decide_eq_false t1
      by_cases t2 : 1000 < days
      · have ft2 : decide (1000 < days) = true := decide_eq_true t2
        go_wp2
        have hC : CB (wo.alloc (.cells #[.int .i64 days, .int .i64 fee, .int .i64 rate] 43 (0, 0))) wo.heap.size #[.int .i64 days, .int .i64 fee, .int .i64 rate] 43 := CB.new _ _
        have hW : Below w2.heap.size w2 (wo.alloc (.cells #[.int .i64 days, .int .i64 fee, .int .i64 rate] 43 (0, 0))) := bel_on HH.out.2.2.2 ((Below.refl _ _).alloc (Nat.le_refl _) _)
        clear c0 c1 c2
        generalize wo.alloc (.cells #[.int .i64 days, .int .i64 fee, .int .i64 rate] 43 (0, 0)) = W9 at hC hW ⊢
        have c0 : W9.cell? ⟨wo.heap.size, 0, none⟩ = some (.int .i64 days) := (hC.cell 0).trans rfl
        have c1 : W9.cell? ⟨wo.heap.size, 1, none⟩ = some (.int .i64 fee) := (hC.cell 1).trans rfl
        have c2 : W9.cell? ⟨wo.heap.size, 2, none⟩ = some (.int .i64 rate) := (hC.cell 2).trans rfl
        have HC : Hid (CB W9 wo.heap.size #[.int .i64 days, .int .i64 fee, .int .i64 rate] 43) := hC
        have HW : Hid (Below w2.heap.size w2 W9) := hW
        clear hC hW
        try simp only [List.append]
        go_quiet (fail)
        go_wp2
        go_returns
        exact ⟨rfl, bel_on HB2.out (bd_N HW.out _)⟩
      have ft2 : decide (1000 < days) = false := decide_eq_false t2
      by_cases h0 : k = 0
      · have hz1 : decide (0 < k) = false := by simp [h0]
        have hz2 : decide ((0 : Int) < (k : Int)) = false := by simp [h0]
        have HK0 : Hid (k = 0) := h0
        clear h0
        by_cases t4 : fee < 0
        · have ft4 : decide (fee < 0) = true := decide_eq_true t4
          go_wp2
          have hC : CB (wo.alloc (.cells #[.int .i64 days, .int .i64 fee, .int .i64 rate] 43 (0, 0))) wo.heap.size #[.int .i64 days, .int .i64 fee, .int .i64 rate] 43 := CB.new _ _
          have hW : Below w2.heap.size w2 (wo.alloc (.cells #[.int .i64 days, .int .i64 fee, .int .i64 rate] 43 (0, 0))) := bel_on HH.out.2.2.2 ((Below.refl _ _).alloc (Nat.le_refl _) _)
          clear c0 c1 c2
          generalize wo.alloc (.cells #[.int .i64 days, .int .i64 fee, .int .i64 rate] 43 (0, 0)) = W9 at hC hW ⊢
          have c0 : W9.cell? ⟨wo.heap.size, 0, none⟩ = some (.int .i64 days) := (hC.cell 0).trans rfl
          have c1 : W9.cell? ⟨wo.heap.size, 1, none⟩ = some (.int .i64 fee) := (hC.cell 1).trans rfl
          have c2 : W9.cell? ⟨wo.heap.size, 2, none⟩ = some (.int .i64 rate) := (hC.cell 2).trans rfl
          have HC : Hid (CB W9 wo.heap.size #[.int .i64 days, .int .i64 fee, .int .i64 rate] 43) := hC
          have HW : Hid (Below w2.heap.size w2 W9) := hW
          clear hC hW
          try simp only [List.append]
          go_quiet (fail)
          go_wp2
          go_returns
          exact ⟨rfl, bel_on HB2.out (bd_N HW.out _)⟩
        have ft4 : decide (fee < 0) = false := decide_eq_false t4
        by_cases t5 : 100000000000 < fee
        · have ft5 : decide (100000000000 < fee) = true := decide_eq_true t5
          go_wp2
          have hC : CB (wo.alloc (.cells #[.int .i64 days, .int .i64 fee, .int .i64 rate] 43 (0, 0))) wo.heap.size #[.int .i64 days, .int .i64 fee, .int .i64 rate] 43 := CB.new _ _
          have hW : Below w2.heap.size w2 (wo.alloc (.cells #[.int .i64 days, .int .i64 fee, .int .i64 rate] 43 (0, 0))) := bel_on HH.out.2.2.2 ((Below.refl _ _).alloc (Nat.le_refl _) _)
          clear c0 c1 c2
          generalize wo.alloc (.cells #[.int .i64 days, .int .i64 fee, .int .i64 rate] 43 (0, 0)) = W9 at hC hW ⊢
          have c0 : W9.cell? ⟨wo.heap.size, 0, none⟩ = some (.int .i64 days) := (hC.cell 0).trans rfl
          have c1 : W9.cell? ⟨wo.heap.size, 1, none⟩ = some (.int .i64 fee) := (hC.cell 1).trans rfl
          have c2 : W9.cell? ⟨wo.heap.size, 2, none⟩ = some (.int .i64 rate) := (hC.cell 2).trans rfl
          have HC : Hid (CB W9 wo.heap.size #[.int .i64 days, .int .i64 fee, .int .i64 rate] 43) := hC
          have HW : Hid (Below w2.heap.size w2 W9) := hW
          clear hC hW
          try simp only [List.append]
          go_quiet (fail)
          go_wp2
          go_returns
          exact ⟨rfl, bel_on HB2.out (bd_N HW.out _)⟩
        have ft5 : decide (100000000000 < fee) = false := decide_eq_false t5
        by_cases t6 : rate < 0
        · have ft6 : decide (rate < 0) = true := decide_eq_true t6
          go_wp2
          have hC : CB (wo.alloc (.cells #[.int .i64 days, .int .i64 fee, .int .i64 rate] 43 (0, 0))) wo.heap.size #[.int .i64 days, .int .i64 fee, .int .i64 rate] 43 := CB.new _ _
          have hW : Below w2.heap.size w2 (wo.alloc (.cells #[.int .i64 days, .int .i64 fee, .int .i64 rate] 43 (0, 0))) := bel_on HH.out.2.2.2 ((Below.refl _ _).alloc (Nat.le_refl _) _)
          clear c0 c1 c2
          generalize wo.alloc (.cells #[.int .i64 days, .int .i64 fee, .int .i64 rate] 43 (0, 0)) = W9 at hC hW ⊢
          have c0 : W9.cell? ⟨wo.heap.size, 0, none⟩ = some (.int .i64 days) := (hC.cell 0).trans rfl
          have c1 : W9.cell? ⟨wo.heap.size, 1, none⟩ = some (.int .i64 fee) := (hC.cell 1).trans rfl
          have c2 : W9.cell? ⟨wo.heap.size, 2, none⟩ = some (.int .i64 rate) := (hC.cell 2).trans rfl
          have HC : Hid (CB W9 wo.heap.size #[.int .i64 days, .int .i64 fee, .int .i64 rate] 43) := hC
          have HW : Hid (Below w2.heap.size w2 W9) := hW
          clear hC hW
          try simp only [List.append]
          go_quiet (fail)
          go_wp2
          go_returns
          exact ⟨rfl, bel_on HB2.out (bd_N HW.out _)⟩
        have ft6 : decide (rate < 0) = false := decide_eq_false t6
        by_cases t7 : 100000 < rate
        · have ft7 : decide (100000 < rate) = true := decide_eq_true t7
          go_wp2
          have hC : CB (wo.alloc (.cells #[.int .i64 days, .int .i64 fee, .int .i64 rate] 43 (0, 0))) wo.heap.size #[.int .i64 days, .int .i64 fee, .int .i64 rate] 43 := CB.new _ _
          have hW : Below w2.heap.size w2 (wo.alloc (.cells #[.int .i64 days, .int .i64 fee, .int .i64 rate] 43 (0, 0))) := bel_on HH.out.2.2.2 ((Below.refl _ _).alloc (Nat.le_refl _) _)
          clear c0 c1 c2
          generalize wo.alloc (.cells #[.int .i64 days, .int .i64 fee, .int .i64 rate] 43 (0, 0)) = W9 at hC hW ⊢
          have c0 : W9.cell? ⟨wo.heap.size, 0, none⟩ = some (.int .i64 days) := (hC.cell 0).trans rfl
          have c1 : W9.cell? ⟨wo.heap.size, 1, none⟩ = some (.int .i64 fee) := (hC.cell 1).trans rfl
          have c2 : W9.cell? ⟨wo.heap.size, 2, none⟩ = some (.int .i64 rate) := (hC.cell 2).trans rfl
          have HC : Hid (CB W9 wo.heap.size #[.int .i64 days, .int .i64 fee, .int .i64 rate] 43) := hC
          have HW : Hid (Below w2.heap.size w2 W9) := hW
          clear hC hW
          try simp only [List.append]
          go_quiet (fail)
          go_wp2
          go_returns
          exact ⟨rfl, bel_on HB2.out (bd_N HW.out _)⟩
        have ft7 : decide (100000 < rate) = false := decide_eq_false t7
        have HE : Hid (dlE days fee rate = true) := hid (by rw [dlE_eq]; simp [inB]; omega)
        have HG : Hid (∀ j, j < k + 1 → dlOk c j = true) := hid (dl_step HH.out.1 (by have e := HK0.out; subst e; exact dl_0 HX.out HE.out))
        go_wp2
        have hC : CB (wo.alloc (.cells #[.int .i64 days, .int .i64 fee, .int .i64 rate] 43 (0, 0))) wo.heap.size #[.int .i64 days, .int .i64 fee, .int .i64 rate] 43 := CB.new _ _
        have hW : Below w2.heap.size w2 (wo.alloc (.cells #[.int .i64 days, .int .i64 fee, .int .i64 rate] 43 (0, 0))) := bel_on HH.out.2.2.2 ((Below.refl _ _).alloc (Nat.le_refl _) _)
        clear c0 c1 c2
        generalize wo.alloc (.cells #[.int .i64 days, .int .i64 fee, .int .i64 rate] 43 (0, 0)) = W9 at hC hW ⊢
        have c0 : W9.cell? ⟨wo.heap.size, 0, none⟩ = some (.int .i64 days) := (hC.cell 0).trans rfl
        have c1 : W9.cell? ⟨wo.heap.size, 1, none⟩ = some (.int .i64 fee) := (hC.cell 1).trans rfl
        have c2 : W9.cell? ⟨wo.heap.size, 2, none⟩ = some (.int .i64 rate) := (hC.cell 2).trans rfl
        have HC : Hid (CB W9 wo.heap.size #[.int .i64 days, .int .i64 fee, .int .i64 rate] 43) := hC
        have HW : Hid (Below w2.heap.size w2 W9) := hW
        clear hC hW
        try simp only [List.append]
        go_quiet (fail)
        have hC5 : CB (W9.drewN nq) wo.heap.size #[.int .i64 days, .int .i64 fee, .int .i64 rate] 43 := HC.out
        have HW5 : Hid (Below w2.heap.size w2 (W9.drewN nq)) := bd_N HW.out _
        clear c0 c1 c2 HC HW
        generalize W9.drewN nq = W5 at hC5 HW5 ⊢
        obtain ⟨BX, hBX⟩ : ∃ B, wo.heap.size = B := ⟨_, rfl⟩
        rw [hBX] at hC5 ⊢
        have HC5 : Hid (CB W5 BX #[.int .i64 days, .int .i64 fee, .int .i64 rate] 43) := hC5
        have m0 : W5.cell? ⟨BX, 0, none⟩ = some (.int .i64 days) := (hC5.cell 0).trans rfl
        have m2 : W5.cell? ⟨BX, 2, none⟩ = some (.int .i64 rate) := (hC5.cell 2).trans rfl
        clear hBX hC5
        by_cases hd : days ≤ 100
        · obtain ⟨eW, HWA⟩ := HH.out.2.1.up HG.out (by rw [HX.out]; exact hd)
          have HWA2 := hid HWA
          have HMD : Hid (∀ w, Calls Try.prog 24 #[.int .i64 am, .int .i64 rate, .int .i64 100000, .int .i64 3] w fun e w' => e = .returned (.tuple #[.int .i64 (mdV am rate 100000 3), .bool (mdB am rate 100000 3)]) ∧ Below w.heap.size w w') := fun w => implMulDiv_any am rate 100000 3 w
          have hmd := md_abs am rate 100000 3
          obtain ⟨M, hM⟩ : ∃ M, mdV am rate 100000 3 = M := ⟨_, rfl⟩
          obtain ⟨MB, hMB⟩ : ∃ M, mdB am rate 100000 3 = M := ⟨_, rfl⟩
          rw [hM, hMB] at HMD
          rw [hM] at hmd
          have HF : Hid (F + fee + M = rdS c am (W + 1)) := hid (by rw [rdS, ← HH.out.2.2.1, eW, HX.out]; simp only; rw [hM]; omega)
          clear hM hMB eW HWA
          go_wp2_with (go_at_call 24; refine (HMD.out _).mono ?_; rintro e w5 ⟨rfl, b5⟩; have HB5 : Hid (Below w2.heap.size w2 w5) := hid (bel_on HW5.out b5); have m1 : w5.cell? ⟨BX, 1, none⟩ = some (.int .i64 fee) := keep_cell b5 ((HC5.out.cell 1).trans rfl); clear b5)
          go_roundw
          case rel => exact ⟨k + 1, W + 1, F + fee + M, by omega, by omega, rfl, rfl, by go_num, by omega, by omega, HG.out, HWA2.out, HF.out, HB5.out⟩
          case measure => simp [intOf]; omega
        · have HWA2 := hid (HH.out.2.1.stay (by rw [HX.out]; simp only; omega))
          go_wp2
          go_roundw
          case rel => exact ⟨k + 1, W, F, by omega, by omega, rfl, rfl, by go_num, by omega, by omega, HG.out, HWA2.out, HH.out.2.2.1, HW5.out⟩
          case measure => simp [intOf]; omega
      obtain ⟨m, hm⟩ : ∃ m, k = m + 1 := ⟨k - 1, by omega⟩
      have HM : Hid (k = m + 1) := hm
      have hwm : IntKind.i64.wrap ((k : Int) - 1) = (m : Int) := by rw [show (k : Int) - 1 = (m : Int) by omega]; exact IntWalk.i64_in _ ⟨by omega, by omega⟩
      have hz1 : decide (0 < k) = true := by simp; omega
      have hz2 : decide ((0 : Int) < (k : Int)) = true := by simp; omega
      have hmn : (m : Int) < (n : Int) := by omega
      have hm0 : (0 : Int) ≤ (m : Int) := by omega
      have DD := (HR2.out.below HH.out.2.2.2).cell (j := m) (by omega)
      obtain ⟨y, hy⟩ : ∃ y, c m = y := ⟨_, rfl⟩
      rw [hy] at DD
      have HY : Hid (c m = y) := hy
      obtain ⟨y0, y1, y2⟩ := y
      obtain ⟨d0, d1, d2⟩ := DD
      simp only [Nat.zero_add] at d0 d1 d2
      clear hy hm h0 d1 d2
      by_cases t3 : days ≤ y0
      · have ft3 : decide (days ≤ y0) = true := decide_eq_true t3
        go_wp2
        have hC : CB (wo.alloc (.cells #[.int .i64 days, .int .i64 fee, .int .i64 rate] 43 (0, 0))) wo.heap.size #[.int .i64 days, .int .i64 fee, .int .i64 rate] 43 := CB.new _ _
        have hW : Below w2.heap.size w2 (wo.alloc (.cells #[.int .i64 days, .int .i64 fee, .int .i64 rate] 43 (0, 0))) := bel_on HH.out.2.2.2 ((Below.refl _ _).alloc (Nat.le_refl _) _)
        have d0 : (wo.alloc (.cells #[.int .i64 days, .int .i64 fee, .int .i64 rate] 43 (0, 0))).cell? ⟨g, m * 3, none⟩ = some (.int .i64 y0) := keep_cell ((Below.refl _ _).alloc (Nat.le_refl _) _) d0
        clear c0 c1 c2
        generalize wo.alloc (.cells #[.int .i64 days, .int .i64 fee, .int .i64 rate] 43 (0, 0)) = W9 at hC hW d0 ⊢
        have c0 : W9.cell? ⟨wo.heap.size, 0, none⟩ = some (.int .i64 days) := (hC.cell 0).trans rfl
        have c1 : W9.cell? ⟨wo.heap.size, 1, none⟩ = some (.int .i64 fee) := (hC.cell 1).trans rfl
        have c2 : W9.cell? ⟨wo.heap.size, 2, none⟩ = some (.int .i64 rate) := (hC.cell 2).trans rfl
        have HC : Hid (CB W9 wo.heap.size #[.int .i64 days, .int .i64 fee, .int .i64 rate] 43) := hC
        have HW : Hid (Below w2.heap.size w2 W9) := hW
        clear hC hW
        try simp only [List.append]
        go_quiet (fail)
        go_wp2
        go_returns
        exact ⟨rfl, bel_on HB2.out (bd_N HW.out _)⟩
      have ft3 : decide (days ≤ y0) = false := decide_eq_false t3
      by_cases t4 : fee < 0
      · have ft4 : decide (fee < 0) = true := decide_eq_true t4
        go_wp2
        have hC : CB (wo.alloc (.cells #[.int .i64 days, .int .i64 fee, .int .i64 rate] 43 (0, 0))) wo.heap.size #[.int .i64 days, .int .i64 fee, .int .i64 rate] 43 := CB.new _ _
        have hW : Below w2.heap.size w2 (wo.alloc (.cells #[.int .i64 days, .int .i64 fee, .int .i64 rate] 43 (0, 0))) := bel_on HH.out.2.2.2 ((Below.refl _ _).alloc (Nat.le_refl _) _)
        have d0 : (wo.alloc (.cells #[.int .i64 days, .int .i64 fee, .int .i64 rate] 43 (0, 0))).cell? ⟨g, m * 3, none⟩ = some (.int .i64 y0) := keep_cell ((Below.refl _ _).alloc (Nat.le_refl _) _) d0
        clear c0 c1 c2
        generalize wo.alloc (.cells #[.int .i64 days, .int .i64 fee, .int .i64 rate] 43 (0, 0)) = W9 at hC hW d0 ⊢
        have c0 : W9.cell? ⟨wo.heap.size, 0, none⟩ = some (.int .i64 days) := (hC.cell 0).trans rfl
        have c1 : W9.cell? ⟨wo.heap.size, 1, none⟩ = some (.int .i64 fee) := (hC.cell 1).trans rfl
        have c2 : W9.cell? ⟨wo.heap.size, 2, none⟩ = some (.int .i64 rate) := (hC.cell 2).trans rfl
        have HC : Hid (CB W9 wo.heap.size #[.int .i64 days, .int .i64 fee, .int .i64 rate] 43) := hC
        have HW : Hid (Below w2.heap.size w2 W9) := hW
        clear hC hW
        try simp only [List.append]
        go_quiet (fail)
        go_wp2
        go_returns
        exact ⟨rfl, bel_on HB2.out (bd_N HW.out _)⟩
      have ft4 : decide (fee < 0) = false := decide_eq_false t4
      by_cases t5 : 100000000000 < fee
      · have ft5 : decide (100000000000 < fee) = true := decide_eq_true t5
        go_wp2
        have hC : CB (wo.alloc (.cells #[.int .i64 days, .int .i64 fee, .int .i64 rate] 43 (0, 0))) wo.heap.size #[.int .i64 days, .int .i64 fee, .int .i64 rate] 43 := CB.new _ _
        have hW : Below w2.heap.size w2 (wo.alloc (.cells #[.int .i64 days, .int .i64 fee, .int .i64 rate] 43 (0, 0))) := bel_on HH.out.2.2.2 ((Below.refl _ _).alloc (Nat.le_refl _) _)
        have d0 : (wo.alloc (.cells #[.int .i64 days, .int .i64 fee, .int .i64 rate] 43 (0, 0))).cell? ⟨g, m * 3, none⟩ = some (.int .i64 y0) := keep_cell ((Below.refl _ _).alloc (Nat.le_refl _) _) d0
        clear c0 c1 c2
        generalize wo.alloc (.cells #[.int .i64 days, .int .i64 fee, .int .i64 rate] 43 (0, 0)) = W9 at hC hW d0 ⊢
        have c0 : W9.cell? ⟨wo.heap.size, 0, none⟩ = some (.int .i64 days) := (hC.cell 0).trans rfl
        have c1 : W9.cell? ⟨wo.heap.size, 1, none⟩ = some (.int .i64 fee) := (hC.cell 1).trans rfl
        have c2 : W9.cell? ⟨wo.heap.size, 2, none⟩ = some (.int .i64 rate) := (hC.cell 2).trans rfl
        have HC : Hid (CB W9 wo.heap.size #[.int .i64 days, .int .i64 fee, .int .i64 rate] 43) := hC
        have HW : Hid (Below w2.heap.size w2 W9) := hW
        clear hC hW
        try simp only [List.append]
        go_quiet (fail)
        go_wp2
        go_returns
        exact ⟨rfl, bel_on HB2.out (bd_N HW.out _)⟩
      have ft5 : decide (100000000000 < fee) = false := decide_eq_false t5
      by_cases t6 : rate < 0
      · have ft6 : decide (rate < 0) = true := decide_eq_true t6
        go_wp2
        have hC : CB (wo.alloc (.cells #[.int .i64 days, .int .i64 fee, .int .i64 rate] 43 (0, 0))) wo.heap.size #[.int .i64 days, .int .i64 fee, .int .i64 rate] 43 := CB.new _ _
        have hW : Below w2.heap.size w2 (wo.alloc (.cells #[.int .i64 days, .int .i64 fee, .int .i64 rate] 43 (0, 0))) := bel_on HH.out.2.2.2 ((Below.refl _ _).alloc (Nat.le_refl _) _)
        have d0 : (wo.alloc (.cells #[.int .i64 days, .int .i64 fee, .int .i64 rate] 43 (0, 0))).cell? ⟨g, m * 3, none⟩ = some (.int .i64 y0) := keep_cell ((Below.refl _ _).alloc (Nat.le_refl _) _) d0
        clear c0 c1 c2
        generalize wo.alloc (.cells #[.int .i64 days, .int .i64 fee, .int .i64 rate] 43 (0, 0)) = W9 at hC hW d0 ⊢
        have c0 : W9.cell? ⟨wo.heap.size, 0, none⟩ = some (.int .i64 days) := (hC.cell 0).trans rfl
        have c1 : W9.cell? ⟨wo.heap.size, 1, none⟩ = some (.int .i64 fee) := (hC.cell 1).trans rfl
        have c2 : W9.cell? ⟨wo.heap.size, 2, none⟩ = some (.int .i64 rate) := (hC.cell 2).trans rfl
        have HC : Hid (CB W9 wo.heap.size #[.int .i64 days, .int .i64 fee, .int .i64 rate] 43) := hC
        have HW : Hid (Below w2.heap.size w2 W9) := hW
        clear hC hW
        try simp only [List.append]
        go_quiet (fail)
        go_wp2
        go_returns
        exact ⟨rfl, bel_on HB2.out (bd_N HW.out _)⟩
      have ft6 : decide (rate < 0) = false := decide_eq_false t6
      by_cases t7 : 100000 < rate
      · have ft7 : decide (100000 < rate) = true := decide_eq_true t7
        go_wp2
        have hC : CB (wo.alloc (.cells #[.int .i64 days, .int .i64 fee, .int .i64 rate] 43 (0, 0))) wo.heap.size #[.int .i64 days, .int .i64 fee, .int .i64 rate] 43 := CB.new _ _
        have hW : Below w2.heap.size w2 (wo.alloc (.cells #[.int .i64 days, .int .i64 fee, .int .i64 rate] 43 (0, 0))) := bel_on HH.out.2.2.2 ((Below.refl _ _).alloc (Nat.le_refl _) _)
        have d0 : (wo.alloc (.cells #[.int .i64 days, .int .i64 fee, .int .i64 rate] 43 (0, 0))).cell? ⟨g, m * 3, none⟩ = some (.int .i64 y0) := keep_cell ((Below.refl _ _).alloc (Nat.le_refl _) _) d0
        clear c0 c1 c2
        generalize wo.alloc (.cells #[.int .i64 days, .int .i64 fee, .int .i64 rate] 43 (0, 0)) = W9 at hC hW d0 ⊢
        have c0 : W9.cell? ⟨wo.heap.size, 0, none⟩ = some (.int .i64 days) := (hC.cell 0).trans rfl
        have c1 : W9.cell? ⟨wo.heap.size, 1, none⟩ = some (.int .i64 fee) := (hC.cell 1).trans rfl
        have c2 : W9.cell? ⟨wo.heap.size, 2, none⟩ = some (.int .i64 rate) := (hC.cell 2).trans rfl
        have HC : Hid (CB W9 wo.heap.size #[.int .i64 days, .int .i64 fee, .int .i64 rate] 43) := hC
        have HW : Hid (Below w2.heap.size w2 W9) := hW
        clear hC hW
        try simp only [List.append]
        go_quiet (fail)
        go_wp2
        go_returns
        exact ⟨rfl, bel_on HB2.out (bd_N HW.out _)⟩
      have ft7 : decide (100000 < rate) = false := decide_eq_false t7
      have HE : Hid (dlE days fee rate = true) := hid (by rw [dlE_eq]; simp [inB]; omega)
      have HG : Hid (∀ j, j < k + 1 → dlOk c j = true) := hid (dl_step HH.out.1 (dl_1 HX.out HM.out HE.out (by rw [HY.out]; simp only; omega)))
      go_wp2
      have hC : CB (wo.alloc (.cells #[.int .i64 days, .int .i64 fee, .int .i64 rate] 43 (0, 0))) wo.heap.size #[.int .i64 days, .int .i64 fee, .int .i64 rate] 43 := CB.new _ _
      have hW : Below w2.heap.size w2 (wo.alloc (.cells #[.int .i64 days, .int .i64 fee, .int .i64 rate] 43 (0, 0))) := bel_on HH.out.2.2.2 ((Below.refl _ _).alloc (Nat.le_refl _) _)
      have d0 : (wo.alloc (.cells #[.int .i64 days, .int .i64 fee, .int .i64 rate] 43 (0, 0))).cell? ⟨g, m * 3, none⟩ = some (.int .i64 y0) := keep_cell ((Below.refl _ _).alloc (Nat.le_refl _) _) d0
      clear c0 c1 c2
      generalize wo.alloc (.cells #[.int .i64 days, .int .i64 fee, .int .i64 rate] 43 (0, 0)) = W9 at hC hW d0 ⊢
      have c0 : W9.cell? ⟨wo.heap.size, 0, none⟩ = some (.int .i64 days) := (hC.cell 0).trans rfl
      have c1 : W9.cell? ⟨wo.heap.size, 1, none⟩ = some (.int .i64 fee) := (hC.cell 1).trans rfl
      have c2 : W9.cell? ⟨wo.heap.size, 2, none⟩ = some (.int .i64 rate) := (hC.cell 2).trans rfl
      have HC : Hid (CB W9 wo.heap.size #[.int .i64 days, .int .i64 fee, .int .i64 rate] 43) := hC
      have HW : Hid (Below w2.heap.size w2 W9) := hW
      clear hC hW
      try simp only [List.append]
      go_quiet (fail)
      have hC5 : CB (W9.drewN nq) wo.heap.size #[.int .i64 days, .int .i64 fee, .int .i64 rate] 43 := HC.out
      have HW5 : Hid (Below w2.heap.size w2 (W9.drewN nq)) := bd_N HW.out _
      clear c0 c1 c2 HC HW d0
      generalize W9.drewN nq = W5 at hC5 HW5 ⊢
      obtain ⟨BX, hBX⟩ : ∃ B, wo.heap.size = B := ⟨_, rfl⟩
      rw [hBX] at hC5 ⊢
      have HC5 : Hid (CB W5 BX #[.int .i64 days, .int .i64 fee, .int .i64 rate] 43) := hC5
      have m0 : W5.cell? ⟨BX, 0, none⟩ = some (.int .i64 days) := (hC5.cell 0).trans rfl
      have m2 : W5.cell? ⟨BX, 2, none⟩ = some (.int .i64 rate) := (hC5.cell 2).trans rfl
      clear hBX hC5
      by_cases hd : days ≤ 100
      · obtain ⟨eW, HWA⟩ := HH.out.2.1.up HG.out (by rw [HX.out]; exact hd)
        have HWA2 := hid HWA
        have HMD : Hid (∀ w, Calls Try.prog 24 #[.int .i64 am, .int .i64 rate, .int .i64 100000, .int .i64 3] w fun e w' => e = .returned (.tuple #[.int .i64 (mdV am rate 100000 3), .bool (mdB am rate 100000 3)]) ∧ Below w.heap.size w w') := fun w => implMulDiv_any am rate 100000 3 w
        have hmd := md_abs am rate 100000 3
        obtain ⟨M, hM⟩ : ∃ M, mdV am rate 100000 3 = M := ⟨_, rfl⟩
        obtain ⟨MB, hMB⟩ : ∃ M, mdB am rate 100000 3 = M := ⟨_, rfl⟩
        rw [hM, hMB] at HMD
        rw [hM] at hmd
        have HF : Hid (F + fee + M = rdS c am (W + 1)) := hid (by rw [rdS, ← HH.out.2.2.1, eW, HX.out]; simp only; rw [hM]; omega)
        clear hM hMB eW HWA
        go_wp2_with (go_at_call 24; refine (HMD.out _).mono ?_; rintro e w5 ⟨rfl, b5⟩; have HB5 : Hid (Below w2.heap.size w2 w5) := hid (bel_on HW5.out b5); have m1 : w5.cell? ⟨BX, 1, none⟩ = some (.int .i64 fee) := keep_cell b5 ((HC5.out.cell 1).trans rfl); clear b5)
        go_roundw
        case rel => exact ⟨k + 1, W + 1, F + fee + M, by omega, by omega, rfl, rfl, by go_num, by omega, by omega, HG.out, HWA2.out, HF.out, HB5.out⟩
        case measure => simp [intOf]; omega
      · have HWA2 := hid (HH.out.2.1.stay (by rw [HX.out]; simp only; omega))
        go_wp2
        go_roundw
        case rel => exact ⟨k + 1, W, F, by omega, by omega, rfl, rfl, by go_num, by omega, by omega, HG.out, HWA2.out, HH.out.2.2.1, HW5.out⟩
        case measure => simp [intOf]; omega
    · obtain rfl : k = n := by omega
      have lkk : ¬ (k : Int) < (k : Int) := by omega
      have HOK : Hid (∀ j, j < k → dlOk c j = true) := HH.out.1
      have HBT : Hid (dlB k c = true) := hid (dlB_t ⟨by omega, HH.out.1⟩)
      have HWC : Hid (Cut k c 101 W) := HH.out.2.1.cut
      go_wp2
      go_loopw [16, 17, 18] (fun x y i wr => ∃ (d L : Nat) (A : Int), d ≤ 101 ∧ L ≤ k ∧ x = .int .i64 (L : Int) ∧ y = .int .i64 A ∧ i = .int .i64 (d : Int) ∧ -(200000000000 * (L : Int)) ≤ A ∧ A ≤ 200000000000 * (L : Int) ∧ Hid (Cut k c (d : Int) L ∧ A = rdS c am L ∧ Below w2.heap.size w2 wr)) (fun _ _ i _ => 101 - (intOf i).toNat)
      case atStart => exact ⟨0, 0, 0, by omega, by omega, rfl, rfl, rfl, by omega, by omega, Cut.zero HOK.out, rfl, HH.out.2.2.2⟩
      case round =>
        obtain ⟨d, L, A, hd, hLk, rfl, rfl, rfl, hA0, hA1, HD⟩ := hrel
        by_cases hd1 : (d : Int) ≤ 100
        · by_cases hup : L < k ∧ (c L).days ≤ (d : Int)
          · have hfe := (dlOk_p (HOK.out L hup.1)).2.1
            have hmd := md_abs am (c L).rate 100000 3
            have HRM : Hid (∀ w', Below w2.heap.size w2 w' → Calls Try.prog 22 #[.slice (some ⟨g, 0, none⟩) k oc, .int .i64 du, .int .i64 (du + (d : Int)), .int .i64 (L : Int), .int .i64 am] w' fun e w'' => e = .returned (.tuple #[.int .i64 ((L : Int) + 1), .int .i64 ((c L).fee + mdV am (c L).rate 100000 3)]) ∧ Below w'.heap.size w' w'') := fun w' b => by
              have h := implRemind_any (some ⟨g, 0, none⟩) k oc c du (du + (d : Int)) (L : Int) am w' (by omega) (HR2.out.below b)
              obtain ⟨e1, e2⟩ := rm_yes (n := k) (z := c) (du := du) (to_ := du + (d : Int)) (lv := (L : Int)) (am := am) ⟨HBT.out, by omega, by omega, by omega, ham, by rw [Int.toNat_natCast]; omega⟩
              rw [Int.toNat_natCast] at e2
              rw [← e1, ← e2] at h
              exact h
            have HCU := hid (HD.out.1.up HOK.out hup.1 hup.2)
            have HAU : Hid (A + ((c L).fee + mdV am (c L).rate 100000 3) = rdS c am (L + 1)) := hid (by rw [rdS, ← HD.out.2.1])
            obtain ⟨V, hV⟩ : ∃ V, (c L).fee + mdV am (c L).rate 100000 3 = V := ⟨_, rfl⟩
            rw [hV] at HRM HAU
            have hVb : -100000000000 ≤ V ∧ V ≤ 200000000000 := by omega
            have hLl : L < k := hup.1
            have z1 : (((L : Int) + 1) != (L : Int)) = true := by simp; omega
            have z2 : (((L : Int) + 1) == (L : Int)) = false := by simp; omega
            have z3 : (((L : Int) + 1) != ((L : Int) + 1)) = false := by simp
            clear hV hfe hmd hup
            go_wp2_with (go_at_call 22; refine (HRM.out _ HD.out.2.2).mono ?_; rintro e w5 ⟨rfl, b5⟩; have HB5 : Hid (Below w2.heap.size w2 w5) := hid (bel_on HD.out.2.2 b5); clear b5)
            go_roundw
            case rel => exact ⟨d + 1, L + 1, A + V, by omega, by omega, by go_num, rfl, by go_num, by omega, by omega, by rw [show ((d + 1 : Nat) : Int) = (d : Int) + 1 by omega]; exact HCU.out, HAU.out, HB5.out⟩
            case measure => simp [intOf]; omega
          · have HRM : Hid (∀ w', Below w2.heap.size w2 w' → Calls Try.prog 22 #[.slice (some ⟨g, 0, none⟩) k oc, .int .i64 du, .int .i64 (du + (d : Int)), .int .i64 (L : Int), .int .i64 am] w' fun e w'' => e = .returned (.tuple #[.int .i64 (L : Int), .int .i64 0]) ∧ Below w'.heap.size w' w'') := fun w' b => by
              have h := implRemind_any (some ⟨g, 0, none⟩) k oc c du (du + (d : Int)) (L : Int) am w' (by omega) (HR2.out.below b)
              obtain ⟨e1, e2⟩ := rm_no (n := k) (z := c) (du := du) (to_ := du + (d : Int)) (lv := (L : Int)) (am := am) (fun H => hup ⟨by have := H.2.2.2.1.2; omega, by have := H.2.2.2.2.2; rw [Int.toNat_natCast] at this; omega⟩)
              rw [← e1, ← e2] at h
              exact h
            have HCU := hid (HD.out.1.stay HOK.out (fun h => by rcases Int.lt_or_le (d : Int) (c L).days with q | q; exact q; exact absurd ⟨h, q⟩ hup))
            have z1 : ((L : Int) != (L : Int)) = false := by simp
            have z2 : ((L : Int) == (L : Int)) = true := by simp
            clear hup
            go_wp2_with (go_at_call 22; refine (HRM.out _ HD.out.2.2).mono ?_; rintro e w5 ⟨rfl, b5⟩; have HB5 : Hid (Below w2.heap.size w2 w5) := hid (bel_on HD.out.2.2 b5); clear b5)
            go_roundw
            case rel => exact ⟨d + 1, L, A, by omega, by omega, by go_num, by go_num, by go_num, by omega, by omega, by rw [show ((d + 1 : Nat) : Int) = (d : Int) + 1 by omega]; exact HCU.out, HD.out.2.1, HB5.out⟩
            case measure => simp [intOf]; omega
        · obtain rfl : d = 101 := by omega
          obtain rfl : L = W := HD.out.1.uniq HWC.out
          have HA : Hid (A = F) := hid (HD.out.2.1.trans HH.out.2.2.1.symm)
          have z1 := eq_t HA.out
          have z2 : ((L : Int) == (L : Int)) = true := by simp
          have hd2 : ¬ ((101 : Nat) : Int) ≤ 100 := by omega
          go_wp2
          go_returns
          exact ⟨rfl, bel_on HB2.out HD.out.2.2⟩

set_option maxRecDepth 100000 in
theorem lifted (os : Os) (started : os.Started) (H : Type) (enc : TypeId × Value → H) :
    ReturnsInHanded {} Try.checked os 5 .any (Rows.fnRemindedSpec.pre6 enc Try.prog Try.f5 Rows.fnRemindedRow.domain false) (Rows.fnRemindedSpec.post enc Try.prog Try.f5 false true false false) := by
  refine returnsInHanded_of_change (C := Try.checked) own started (by kernel_rfl) Try.func5
    (ChangeSpec.witness6 (enc := enc) (C := Try.checked) false ⟨#[], #[.slice none 0 0], []⟩ 8 (by kernel_rfl) (by kernel_rfl) (by kernel_rfl) (by kernel_rfl)) ?_
  intro W base args ds gs before hval0 hW hcnd _
  have hval : ∀ (j : Nat) t v, Try.f5.params[j]? = some t → args[j]? = some v → Value.okWide Try.prog W .any base t v := hval0
  have hW' := hW
  obtain ⟨p, q, hA0, hV, rfl, hfz, hnd⟩ := hW
  have hA : DataW.TrodAll enc Try.prog W 0 (fun _ => true) true Try.f5.params.toList args.toList ds p := hA0
  rw [Try.params5] at hA hval
  obtain ⟨v0, vs0, d0, ds0, p0, q0, hargs, rfl, rfl, h0, r0⟩ := trodAll_cons hA
  obtain ⟨rfl, rfl, rfl⟩ := trodAll_nil r0
  obtain rfl : args = #[v0] := by cases args; simp_all
  obtain ⟨rfl, rfl⟩ := trodVars_none hV
  have k0 := h0
  have lt0 : ∀ x ∈ p0, x.block < W.heap.size := by obtain ⟨m, hm⟩ := k0; exact DataW.trod_lt m _ _ _ hm
  obtain ⟨a0, len0, cap0, rfl⟩ := okWide_slice Try.underlying22 (hval 0 22 v0 rfl rfl)
  obtain ⟨z0, w0⟩ : ∃ zs, IsRow .u8 W a0 len0 cap0 zs := by
    obtain ⟨fuel, hf⟩ := h0
    rcases open_ints Try.underlying22 Try.underlying5 (by kernel_rfl) hf with ⟨hcs, _⟩ | ⟨x, l, c, zs, hcs, _, hl, hm, hz, _, hcell, hwz⟩
    · simp [Value.cells] at hcs
      obtain ⟨rfl, rfl, rfl⟩ := hcs
      exact ⟨[], .inl ⟨rfl, rfl, rfl, rfl⟩⟩
    · simp [Value.cells] at hcs
      obtain ⟨rfl, rfl, rfl⟩ := hcs
      exact ⟨zs, .inr ⟨_, rfl, hl, hm, by simpa using hz, hcell, hwz⟩⟩
  clear hA0 hval0
  refine (walk a0 len0 cap0 z0 W w0).mono fun e W' ⟨he, hg⟩ => ?_
  subst he
  exact ⟨_, rfl, _, _, _, [], _, [], hW', (trodAll_cons_mk (shut_bool Try.underlying4 _) trodAll_mk0), (trodAll_cons_mk (Below.trod laidOut (by kernel_rfl) (of_decide_eq_true (by kernel_rfl)) k0 hg lt0) trodAll_mk0), rfl, hg.frame _, fun h => by cases h⟩

theorem over : Rows.fnRemindedRow.holds Try.pinned (OpenSpec.ofChange Rows.fnRemindedSpec) :=
  OpenClaim.holds_of_wide 5 Try.f5 rfl rfl rfl rfl rfl rfl rfl ⟨rfl, rfl, rfl, rfl, rfl⟩ rfl rfl rfl rfl rfl (by kernel_rfl) Try.func5 (by kernel_rfl)
    (of_decide_eq_true (by kernel_rfl)) (by unfold Func.isWrapper; first | (rw [if_pos (by decide +kernel)]; kernel_rfl) | (rw [if_neg (by decide +kernel)]; exact ⟨rfl, rfl⟩))
    (fun os started H enc _ => lifted os started H enc)

end Go.Proofs.Ytlhgmdmbjpaakaa.fnReminded

namespace Go.Proofs.Ytlhgmdmbjpaakaa
theorem fnReminded_holds : Rows.FnRemindedSaid := fnReminded.over
#print axioms fnReminded_holds
end Go.Proofs.Ytlhgmdmbjpaakaa
