/- The walk of the law FnPeriodsWhole over every code. -/
import Derived.Test.YtadjdpoplaknkaaDoorDh
import Derived.Test.YtadjdpoplaknkaaDoorPa
import Derived.Test.YtadjdpoplaknkaaDoorBg
import Derived.Test.YtadjdpoplaknkaaDoorWb
namespace Go.Proofs.YtadjdpoplaknkaaDoor
open Go.ChangeShapes Go.WideShapes Go.ChangeAt Go.RowKit
set_option linter.unusedVariables false
set_option linter.unusedSimpArgs false

theorem size_dn (w : World) (o : Obj) (q : Nat) : ((w.alloc o).drewN q).heap.size = w.heap.size + 1 := by
  show (w.alloc o).heap.size = _
  simp
theorem PR.drew {w : World} {ad : Option Addr} {len : Nat} {x y : Nat → Int} (H : PR w ad len x y) : PR w.drew ad len x y := H

set_option maxHeartbeats 4000000 in
theorem periodsWhole_walk (ad : Option Addr) (len cap : Nat) (w : World) (hl : (len : Int) ≤ 1048576) (ht : ML w) (hq : QL w) (hr : ByteRow w w.heap.size ad len) :
    Calls Tryd.prog 5 #[.slice ad len cap] w fun e w' => e = .returned (.bool true) ∧ Below w.heap.size w w' := by
  have HT : Hid (ML w) := ht
  have HQ : Hid (QL w) := hq
  have hp0 : 0 < w.heap.size := ht.pos
  have hp1 : 1 < w.heap.size := hq.pos
  have HL : Hid ((len : Int) ≤ 1048576) := hl
  have HR : Hid (ByteRow w w.heap.size ad len) := hr
  clear ht hq hl hr
  go_enter Tryd.func5, Tryd.ntmps5
  go_wp2_with (first
    | (go_at_call 11; refine (big_f _ _ _ _ HL.out).mono ?_; rintro e w' ⟨rfl, ew⟩; replace ew := ew.symm; subst ew)
    | (go_at_call 20; refine (drawPeriods_any ad len cap _ (by have := HL.out; omega) HR.out).mono ?_; rintro e w0 ⟨kind, first, count, rfl, B0⟩))
  by_cases hp : perOk kind first count
  · obtain ⟨n, rfl⟩ : ∃ n : Nat, count = (n : Int) := ⟨count.toNat, by have := hp.2.1.1; omega⟩
    have hn : (n : Int) ≤ 60 := hp.2.1.2
    have hn1 : 1 ≤ (n : Int) := hp.2.1.1
    have hf0 : 0 ≤ first := hp.1.1
    have hf1 : first ≤ 40000 := hp.1.2
    have HP : Hid (perOk kind first (n : Int)) := hp
    clear hp
    have tok1 : True := trivial
    go_wp2_with (first
      | (go_at_call 21; clear tok1; refine (implPeriods_p _ _ _ _ (HT.out.below B0 hp0) (HQ.out.below B0 hp1) HP.out).mono ?_; rintro e w1 ⟨b1, cap1, rfl, l1, R1, B1⟩; replace B1 := bel_on B0 B1)
      | (go_at_call 22; refine (specPeriods_p _ _ _ _ HP.out).mono ?_; rintro e w2 ⟨b2, cap2, rfl, l2, R2, B2⟩; have R12 := R1.below B2 R1.lt; replace B2 := bel_on B1 B2)
      | (go_at_call 21; refine (implPeriods_p 3 0 13 _ (HT.out.below B2 hp0) (HQ.out.below B2 hp1) ok13).mono ?_; rintro e w3 ⟨b3, cap3, rfl, l3, R3, B3⟩; have R13 := R12.below B3 R12.lt; replace B3 := bel_on B2 B3))
    have HR3 : Hid (Row kind first n b1 w3) := R13
    have HB3 : Hid (Below w.heap.size w w3) := B3
    clear R1 R2 R12 R3 R13 B0 B1 B2 B3
    go_loopw [7] (fun i wr => ∃ k : Nat, k ≤ n ∧ i = .int .i64 (k : Int) ∧ Row kind first n b1 wr ∧ Below w.heap.size w wr) (fun i _ => n - (intOf i).toNat)
    case atStart => exact ⟨0, Nat.zero_le _, rfl, HR3.out, HB3.out⟩
    case round =>
      obtain ⟨k, hk, rfl, hRow, hB⟩ := hrel
      have HRow : Hid (Row kind first n b1 wr) := hRow
      have HB : Hid (Below w.heap.size w wr) := hB
      by_cases hlt : k < n
      · obtain ⟨c1, c2⟩ := hRow.2.cell hlt
        simp only [Nat.zero_add] at c1 c2
        have hX1 := fl HP.out hlt
        have hXb := fst_bd kind first HP.out.1 k
        have hYb := lst_bd kind first k
        have a1 := at_first HP.out hlt
        have a2 := at_last HP.out hlt
        have tok2 : True := trivial
        cases k with
        | zero =>
          have c1' : wr.cell? ⟨b1, 0 * 2, none⟩ = some (.int .i64 first) := c1
          obtain ⟨X, hX⟩ : ∃ X, X = first := ⟨_, rfl⟩
          obtain ⟨Y, hY⟩ : ∃ Y, Y = lst kind first 0 := ⟨_, rfl⟩
          have hx0 : (X != first) = false := by simp [hX]
          have A1 : Hid (atV n (fst kind first) (lst kind first) X = ((0 : Nat) : Int)) := by rw [hX]; exact a1
          have A2 : Hid (atV n (fst kind first) (lst kind first) Y = ((0 : Nat) : Int)) := by rw [hY]; exact a2
          have e0 : fst kind first 0 = first := rfl
          rw [e0, ← hY] at hX1
          rw [← hX] at hX1
          rw [← hX] at c1'
          rw [← hY] at c2
          simp only [Nat.zero_mul, Nat.zero_add] at c1' c2
          clear c1 a1 a2 hX hY hRow hB hXb hYb e0
          rw [show ((0 : Nat) : Int) = 0 from rfl]
          rw [show ((0 : Nat) : Int) = 0 from rfl] at A1 A2
          go_wp2
          have hyx : decide (Y < X) = false := decide_eq_false (by omega)
          go_quiet (fail)
          go_wp2_with (first
            | (go_at_call 23; clear tok2; refine (implAt_eq _ _ _ _ _ _ _ _ (by omega) ((HRow.out.2.alloc _).drewN _) A1.out).mono ?_; rintro e w5 ⟨rfl, B5⟩; have X5 : CB w5 wr.heap.size #[.int .i64 X, .int .i64 Y] 38 := CB.below (w := (wr.alloc (.cells #[.int .i64 X, .int .i64 Y] 38 (0, 0))).drewN nq) (CB.new _ _) B5 (by rw [size_dn]; omega); have y1 := X5.cell 1; simp at y1; have R5 : Row kind first n b1 w5 := Row.below (w := (wr.alloc (.cells #[.int .i64 X, .int .i64 Y] 38 (0, 0))).drewN nq) (Row.below HRow.out bel_n HRow.out.lt) B5 (by have := HRow.out.lt; rw [size_dn]; omega); replace B5 : Below w.heap.size w w5 := bel_on (below_drewN (HB.out.alloc HB.out.size _) nq) B5)
            | (go_at_call 23; refine (implAt_eq _ _ _ _ _ _ _ _ (by omega) R5.2 A2.out).mono ?_; rintro e w6 ⟨rfl, B6⟩; have R6 := R5.below B6 R5.lt; replace B6 := bel_on B5 B6))
          go_roundw
          case rel => exact ⟨1, by omega, by go_num, R6, B6⟩
          case measure => simp [intOf]; omega
        | succ k =>
          obtain ⟨p1, p2⟩ := hRow.2.cell (j := k) (by omega)
          simp only [Nat.zero_add] at p1 p2
          obtain ⟨X, hX⟩ : ∃ X, X = fst kind first (k + 1) := ⟨_, rfl⟩
          obtain ⟨Y, hY⟩ : ∃ Y, Y = lst kind first (k + 1) := ⟨_, rfl⟩
          obtain ⟨Z, hZ⟩ : ∃ Z, Z = lst kind first k := ⟨_, rfl⟩
          have hzb := lst_bd kind first k
          rw [← hZ] at hzb p2
          have hx0 : (X != Z + 1) = false := by rw [hX, hZ, fst_succ]; simp
          have u1 : IntKind.i64.wrap (Z + 1) = Z + 1 := IntWalk.i64_in _ (by omega)
          have hd0 : decide ((0 : Int) < (k : Int) + 1) = true := decide_eq_true (by omega)
          have hk0 : (((k : Int) + 1) == 0) = false := by simpa using (by omega : ¬ (k : Int) + 1 = 0)
          have A1 : Hid (atV n (fst kind first) (lst kind first) X = ((k + 1 : Nat) : Int)) := by rw [hX]; exact a1
          have A2 : Hid (atV n (fst kind first) (lst kind first) Y = ((k + 1 : Nat) : Int)) := by rw [hY]; exact a2
          rw [← hX, ← hY] at hX1
          rw [← hX] at c1
          rw [← hY] at c2
          have p3 : ∀ o, (wr.alloc o).cell? ⟨b1, k * 2 + 1, none⟩ = some (.int .i64 Z) := fun o => keep_cell ((Below.refl _ _).alloc (Nat.le_refl _) o) p2
          clear a1 a2 hX hY hZ hRow hB hXb hYb p1
          go_wp2
          have hyx : decide (Y < X) = false := decide_eq_false (by omega)
          go_quiet (fail)
          go_wp2_with (first
            | (go_at_call 23; clear tok2; refine (implAt_eq _ _ _ _ _ _ _ _ (by omega) ((HRow.out.2.alloc _).drewN _) A1.out).mono ?_; rintro e w5 ⟨rfl, B5⟩; have X5 : CB w5 wr.heap.size #[.int .i64 X, .int .i64 Y] 38 := CB.below (w := (wr.alloc (.cells #[.int .i64 X, .int .i64 Y] 38 (0, 0))).drewN nq) (CB.new _ _) B5 (by rw [size_dn]; omega); have y1 := X5.cell 1; simp at y1; have R5 : Row kind first n b1 w5 := Row.below (w := (wr.alloc (.cells #[.int .i64 X, .int .i64 Y] 38 (0, 0))).drewN nq) (Row.below HRow.out bel_n HRow.out.lt) B5 (by have := HRow.out.lt; rw [size_dn]; omega); replace B5 : Below w.heap.size w w5 := bel_on (below_drewN (HB.out.alloc HB.out.size _) nq) B5)
            | (go_at_call 23; refine (implAt_eq _ _ _ _ _ _ _ _ (by omega) R5.2 A2.out).mono ?_; rintro e w6 ⟨rfl, B6⟩; have R6 := R5.below B6 R5.lt; replace B6 := bel_on B5 B6))
          go_roundw
          case rel => exact ⟨k + 1 + 1, by omega, by go_num, R6, B6⟩
          case measure => simp [intOf]; omega
      · obtain rfl : k = n := by omega
        have a3 := at_ahead HP.out
        clear hRow hB
        have hz : ((k : Int) == 0) = false := by simpa using (by omega : ¬ (k : Int) = 0)
        go_wp2_with (go_at_call 23; refine (implAt_eq _ _ _ _ _ _ _ _ (by omega) HRow.out.2 a3).mono ?_; rintro e w4 ⟨rfl, B4⟩)
        go_returns
        exact ⟨rfl, bel_on HB.out B4⟩
  · have HP : Hid (¬ perOk kind first count) := hp
    clear hp
    have tok1 : True := trivial
    go_wp2_with (first
      | (go_at_call 21; clear tok1; refine (implPeriods_n _ _ _ _ (HT.out.below B0 hp0) (HQ.out.below B0 hp1) HP.out).mono ?_; rintro e w1 ⟨ad1, cap1, rfl, B1⟩; replace B1 := bel_on B0 B1)
      | (go_at_call 22; refine (specPeriods_n _ _ _ _ HP.out).mono ?_; rintro e w2 ⟨ad2, cap2, rfl, B2⟩; replace B2 := bel_on B1 B2)
      | (go_at_call 21; refine (implPeriods_p 3 0 13 _ (HT.out.below B2 hp0) (HQ.out.below B2 hp1) ok13).mono ?_; rintro e w3 ⟨b3, cap3, rfl, l3, R3, B3⟩; replace B3 := bel_on B2 B3))
    refine wp_loop_rounds 1 ?_
    rw [rounds_succ]
    go_wp2
    go_returns
    exact ⟨rfl, B3⟩

end Go.Proofs.YtadjdpoplaknkaaDoor
