/- The contract of the program's MulDiv where its arguments are right: it answers 'dv' where that is an amount; nothing that was there is written. -/
import Derived.Test.YtmbdeafpfdeigaaMi
import Derived.Deep.RegionWith
import Derived.Deep.DeepFit
namespace Go.Proofs.Ytmbdeafpfdeigaa
open Go.ChangeShapes Go.WideShapes Go.ChangeAt Go.RowKit
set_option linter.unusedVariables false
set_option linter.unusedSimpArgs false

set_option maxRecDepth 20000 in
set_option maxHeartbeats 4000000 in
theorem implMulDiv_ok (a num den m : Int) (w : World) (hok : MdOk a num den m) :
    Calls Try.prog 149 #[.int .i64 a, .int .i64 num, .int .i64 den, .int .i64 m] w fun e w' => e = .returned (.tuple #[.int .i64 (am (dv (a * num) den m)), .bool (amB (dv (a * num) den m))]) ∧ Below w.heap.size w w' := by
  have hp := md_prod hok
  unfold MdOk at hok
  obtain ⟨a1, a2, a3, a4, a5, a6, a7, a8⟩ := hok
  obtain ⟨p1, p2⟩ := hp
  obtain ⟨c0, c1, cp, cn⟩ := cut_facts (a * num) den a5
  have HD : Hid (dv (a * num) den m = rnd ((a * num).tdiv den) (cr (a * num) den) den (decide (a * num < 0)) m) := rfl
  have d1 : -1000000000000000000 ≤ (a * num).tdiv den := by
    by_cases h : a * num < 0
    · have := cn h; omega
    · have := cp (by omega); omega
  have d2 : (a * num).tdiv den ≤ 1000000000000000000 := by
    by_cases h : a * num < 0
    · have := cn h; omega
    · have := cp (by omega); omega
  clear cp cn
  have q10 : den ≤ 10000000000 := by omega
  go_enter Try.func149, Try.ntmps149
  go_wp2_with (first | (go_at_call 156; refine (roundingOf_any _ _ a7 a8).mono ?_; rintro e w1 ⟨rfl, hb⟩; have hz := hb.size) | (go_at_call 157; refine (isAmount_t _ _ a1 a2).mono ?_; rintro e w1 ⟨rfl, rfl⟩) | (go_at_call 115; refine (isFactor_t _ _ a3 a4).mono ?_; rintro e w1 ⟨rfl, rfl⟩) | (go_at_call 158; refine (isDivisor_t _ _ a5 a6).mono ?_; rintro e w1 ⟨rfl, rfl⟩))
  have hwr : IntKind.i64.wrap (a * num) = a * num := IntWalk.i64_in _ ⟨by omega, by omega⟩
  go_region_with (first | (go_at_call 161; refine (cutOf_any (a * num) den _ p1 p2 a5 q10).mono ?_; rintro e w2 ⟨rfl, hb2⟩; obtain ⟨hc2, hf2⟩ := bcell hb2; have hz2 := hb2.size) | (go_at_call 160; refine (round_any m ((a * num).tdiv den) (cr (a * num) den) den _ _ a7 a8 d1 d2 c0 c1 q10).mono ?_; rintro e w3 ⟨rfl, hb3⟩; have hz3 := hb3.size) | (go_at_call 159; refine (amountOr0_any _ _).mono ?_; rintro e w4 ⟨rfl, rfl⟩))
  all_goals
    go_wp2
    go_returns
    have e1 : Below w.heap.size w w2 := ((hb.alloc hz _).drew).trans (hb2.mono (by simp; omega))
    exact ⟨ret_pr rfl rfl, e1.trans (hb3.mono (by have := e1.size; omega))⟩

theorem implMulDiv_any (a num den m : Int) (w : World) :
    Calls Try.prog 149 #[.int .i64 a, .int .i64 num, .int .i64 den, .int .i64 m] w fun e w' => e = .returned (.tuple #[.int .i64 (mdV a num den m), .bool (mdB a num den m)]) ∧ Below w.heap.size w w' := by
  by_cases hok : MdOk a num den m
  · by_cases h : -100000000000 ≤ dv (a * num) den m ∧ dv (a * num) den m ≤ 100000000000
    · have e := md_in hok h.1 h.2
      have e1 : am (dv (a * num) den m) = dv (a * num) den m := if_pos h
      have e2 : amB (dv (a * num) den m) = true := decide_eq_true h
      have := implMulDiv_ok a num den m w hok
      rw [e1, e2] at this
      rw [e.1, e.2]; exact this
    · have e := md_out h
      have e1 : am (dv (a * num) den m) = 0 := if_neg h
      have e2 : amB (dv (a * num) den m) = false := decide_eq_false h
      have := implMulDiv_ok a num den m w hok
      rw [e1, e2] at this
      rw [e.1, e.2]; exact this
  · have e := md_bad hok
    rw [e.1, e.2]
    unfold MdOk at hok
    by_cases hm : m < 1 ∨ 6 < m
    · exact implMulDiv_none a num den m w hm
    · exact implMulDiv_bad a num den m w (by omega) (by omega) (by omega)

end Go.Proofs.Ytmbdeafpfdeigaa
