/- Contracts of the small tests that sums need: an amount, within bounds, asked for. -/
import Derived.Test.YtgnhpjlfdkpaiaaBp
import Derived.Test.YtgnhpjlfdkpaiaaLt
namespace Go.Proofs.Ytgnhpjlfdkpaiaa
open Go.ChangeShapes Go.WideShapes Go.ChangeAt Go.RowKit
set_option linter.unusedVariables false
set_option linter.unusedSimpArgs false

def amB (x : Int) : Bool := decide (-100000000000 ≤ x ∧ x ≤ 100000000000)
theorem amB_t {x : Int} (h : amtP x) : amB x = true := decide_eq_true h
theorem amB_f {x : Int} (h : ¬ amtP x) : amB x = false := decide_eq_false h
theorem sret_bool {a b : Bool} (h : b = a) : Ending.returned (.bool a) = .returned (.bool b) := by rw [h]
theorem isAmt_any (x : Int) (w : World) : Calls Try.prog 46 #[.int .i64 x] w fun e w' => e = .returned (.bool (amB x)) ∧ w' = w := by
  go_enter Try.func46, Try.ntmps46
  go_wp2
  all_goals go_returns
  all_goals exact ⟨sret_bool (by unfold amB; rw [Bool.eq_iff_iff]; simp; try omega), rfl⟩
theorem isAsked_any (a x : Int) (w : World) : Calls Try.prog 37 #[.int .i64 a, .int .i64 x] w fun e w' => e = .returned (.bool (askB a x)) ∧ w' = w := by
  by_cases h : a = -1
  · subst h
    go_enter Try.func37, Try.ntmps37
    go_wp2
    go_returns
    exact ⟨sret_bool (by unfold askB; simp), rfl⟩
  · have h2 : (a == -1) = false := by simpa using h
    go_enter Try.func37, Try.ntmps37
    go_wp2
    go_returns
    exact ⟨sret_bool (by unfold askB; rw [Bool.eq_iff_iff]; simp [h]), rfl⟩
theorem l1InB (x lo hi : Int) (w : World) : Calls Try.prog 30 #[.int .i64 x, .int .i64 lo, .int .i64 hi] w fun e w' => e = .returned (.bool (decide (lo ≤ x ∧ x ≤ hi))) ∧ w' = w := by
  go_enter Try.func30, Try.ntmps30
  go_wp2
  all_goals go_returns
  all_goals exact ⟨sret_bool (by rw [Bool.eq_iff_iff]; simp; try omega), rfl⟩
theorem l1Amt_any (x : Int) (w : World) : Calls Try.prog 34 #[.int .i64 x] w fun e w' => e = .returned (.bool (amB x)) ∧ w' = w := by
  go_enter Try.func34, Try.ntmps34
  go_wp2_with (go_at_call 30; refine (l1InB _ _ _ _).mono ?_; rintro e w3 ⟨rfl, ew⟩; replace ew := ew.symm; subst ew)
  go_returns
  exact ⟨sret_bool (by unfold amB; rw [Bool.eq_iff_iff]; simp), rfl⟩

set_option maxRecDepth 20000 in
set_option maxHeartbeats 4000000 in
theorem isSummable_any (ad : Option Addr) (n cap : Nat) (es : Nat → E4) (hd : Int) (w : World) (hr : ER w ad n es) :
    Calls Try.prog 35 #[.agg #[.slice ad n cap, .int .i64 hd]] w fun e w' => e = .returned (.bool (smB n es)) ∧ Below w.heap.size w w' := by
  have HR : Hid (ER w ad n es) := hr
  clear hr
  by_cases h : (n : Int) ≤ 1000
  rotate_left
  · have HF : Hid (smB n es = false) := smB_f (fun q => by omega)
    go_enter Try.func35, Try.ntmps35
    go_wp2
    go_returns
    exact ⟨sret_bool HF.out, by go_grown⟩
  go_enter Try.func35, Try.ntmps35
  go_wp2
  go_loopw [14] (fun i wr => ∃ k : Nat, k ≤ n ∧ i = .int .i64 (k : Int) ∧ Hid (∀ i, i < k → enS (es i)) ∧ Below w.heap.size w wr) (fun i _ => n - (intOf i).toNat)
  case atStart => exact ⟨0, Nat.zero_le _, rfl, fun i hi => by omega, by go_grown⟩
  case round =>
    obtain ⟨k, hk, rfl, HA, hB⟩ := hrel
    obtain ⟨W1, hW1⟩ : ∃ W1, W1 = wr := ⟨_, rfl⟩
    subst hW1
    have HB : Hid (Below w.heap.size w W1) := hB
    by_cases hlt : k < n
    · obtain ⟨kb, off, rfl, hkb⟩ := HR.out.addr (by omega)
      obtain ⟨c1, c2, c3, la, lca, c4, hl⟩ := (HR.out.below hB).cell hlt
      have HLR : Hid (LR W1 la (es k).n (es k).ls) := hl
      clear hl hB
      by_cases g : ((es k).n : Int) ≤ 60
      rotate_left
      · have HF : Hid (smB n es = false) := smB_f (fun q => g (by have := (q.2 k hlt).1; omega))
        have HBa : Hid (Below w.heap.size w (W1.alloc (.cells #[.int .i64 (es k).day, .int .i64 (es k).ref, .string (es k).text, .slice la (es k).n lca] 30 (0, 0)))) := HB.out.alloc HB.out.size _
        go_wp2
        go_returns
        exact ⟨sret_bool HF.out, HBa.out⟩
      have HBa : Hid (Below W1.heap.size W1 (W1.alloc (.cells #[.int .i64 (es k).day, .int .i64 (es k).ref, .string (es k).text, .slice la (es k).n lca] 30 (0, 0)))) := (Below.refl _ _).alloc (Nat.le_refl _) _
      go_wp2
      go_loopw [25] (fun j wi => ∃ m : Nat, m ≤ (es k).n ∧ j = .int .i64 (m : Int) ∧ Hid (∀ i, i < m → lnS ((es k).ls i)) ∧ Below W1.heap.size W1 wi) (fun j _ => (es k).n - (intOf j).toNat)
      case atStart => exact ⟨0, Nat.zero_le _, rfl, fun i hi => by omega, HBa.out⟩
      case round =>
        obtain ⟨m, hm, rfl, HM, hBi⟩ := hrel
        have HBi : Hid (Below W1.heap.size W1 wr) := hBi
        by_cases hmt : m < (es k).n
        · obtain ⟨lb, lo, rfl, _⟩ := HLR.out.addr (by omega)
          obtain ⟨x0, x1, x2, x3, x4⟩ := (HLR.out.below hBi).cell hmt
          clear hBi
          have HBj : Hid (Below W1.heap.size W1 (wr.alloc (.cells #[.int .i64 ((es k).ls m).acc, .int .i64 ((es k).ls m).dim, .int .i64 ((es k).ls m).cur, .int .i64 ((es k).ls m).amt, .int .i64 ((es k).ls m).base] 32 (0, 0)))) := HBi.out.alloc HBi.out.size _
          by_cases ga : amtP ((es k).ls m).amt
          rotate_left
          · have ha := amB_f ga
            have HF : Hid (smB n es = false) := smB_f (fun q => ga ((q.2 k hlt).2 m hmt).1)
            go_wp2_with (go_at_call 46; refine (isAmt_any _ _).mono ?_; rintro e w' ⟨rfl, ew⟩; replace ew := ew.symm; subst ew; rw [ha])
            go_returns
            exact ⟨sret_bool HF.out, bel_on HB.out HBj.out⟩
          by_cases gb : amtP ((es k).ls m).base
          rotate_left
          · have ha := amB_t ga
            have hb := amB_f gb
            have HF : Hid (smB n es = false) := smB_f (fun q => gb ((q.2 k hlt).2 m hmt).2)
            go_wp2_with (go_at_call 46; refine (isAmt_any _ _).mono ?_; rintro e w' ⟨rfl, ew⟩; replace ew := ew.symm; subst ew; first | rw [ha] | rw [hb])
            go_returns
            exact ⟨sret_bool HF.out, bel_on HB.out HBj.out⟩
          have ha := amB_t ga
          have hb := amB_t gb
          have HL : Hid (lnS ((es k).ls m)) := ⟨ga, gb⟩
          go_wp2_with (go_at_call 46; refine (isAmt_any _ _).mono ?_; rintro e w' ⟨rfl, ew⟩; replace ew := ew.symm; subst ew; first | rw [ha] | rw [hb])
          go_roundw
          case rel => exact ⟨m + 1, by omega, by go_num, fun i hi => by
            by_cases hik : i = m
            · rw [hik]; exact HL.out
            · exact HM.out i (by omega), HBj.out⟩
          case measure => simp [intOf]; omega
        · obtain rfl : m = (es k).n := by omega
          clear hBi
          go_wp2
          go_roundw
          case rel => exact ⟨k + 1, by omega, by go_num, fun i hi => by
            by_cases hik : i = k
            · rw [hik]; exact ⟨by omega, HM.out⟩
            · exact HA.out i (by omega), bel_on HB.out HBi.out⟩
          case measure => simp [intOf]; omega
    · obtain rfl : k = n := by omega
      have HF : Hid (smB k es = true) := smB_t ⟨by omega, HA.out⟩
      clear hB
      go_wp2
      go_returns
      exact ⟨sret_bool HF.out, HB.out⟩

end Go.Proofs.Ytgnhpjlfdkpaiaa
