/- The contract of the program's MulDiv: at every argument it answers 'mdV' and 'mdB'; nothing that was there is written. -/
import Derived.Test.YtmbdeafpfdeigaaRn
import Derived.Test.YtmbdeafpfdeigaaRo
import Derived.Deep.RegionWith
namespace Go.Proofs.Ytmbdeafpfdeigaa
open Go.ChangeShapes Go.WideShapes Go.ChangeAt Go.RowKit
set_option linter.unusedVariables false
set_option linter.unusedSimpArgs false

def fk (m : Int) : Nat := (167 + m).toNat

theorem roundingOf_any (m : Int) (w : World) (hm : 1 ≤ m) (hm6 : m ≤ 6) :
    Calls Try.prog 156 #[.int .i64 m] w fun e w' => e = .returned (.tuple #[.agg #[.int .i64 m, .func (.func (fk m)) #[] #[]], .bool true]) ∧ Below w.heap.size w w' := by
  rcases (show m = 1 ∨ m = 2 ∨ m = 3 ∨ m = 4 ∨ m = 5 ∨ m = 6 by omega) with rfl | rfl | rfl | rfl | rfl | rfl
  · exact roundingOf_1 w
  · exact roundingOf_2 w
  · exact roundingOf_3 w
  · exact roundingOf_4 w
  · exact roundingOf_5 w
  · exact roundingOf_6 w

theorem round_any (m d r q : Int) (neg : Bool) (w : World) (hm : 1 ≤ m) (hm6 : m ≤ 6) (hd : -1000000000000000000 ≤ d) (hd1 : d ≤ 1000000000000000000) (hr : 0 ≤ r) (hrq : r < q) (hq : q ≤ 10000000000) :
    Calls Try.prog 160 #[.agg #[.int .i64 m, .func (.func (fk m)) #[] #[]], .agg #[.int .i64 d, .int .i64 r, .int .i64 q, .bool neg]] w fun e w' => e = .returned (.int .i64 (rnd d r q neg m)) ∧ Below w.heap.size w w' := by
  rcases (show m = 1 ∨ m = 2 ∨ m = 3 ∨ m = 4 ∨ m = 5 ∨ m = 6 by omega) with rfl | rfl | rfl | rfl | rfl | rfl
  · exact round_1 d r q neg w hd hd1 hr hrq hq
  · exact round_2 d r q neg w hd hd1 hr hrq hq
  · exact round_3 d r q neg w hd hd1 hr hrq hq
  · exact round_4 d r q neg w hd hd1 hr hrq hq
  · exact round_5 d r q neg w hd hd1 hr hrq hq
  · exact round_6 d r q neg w hd hd1 hr hrq hq

theorem ret_pr {a b : Int} {c d : Bool} (h : a = b) (k : c = d) : Ending.returned (.tuple #[.int .i64 a, .bool c]) = .returned (.tuple #[.int .i64 b, .bool d]) := by rw [h, k]

theorem amountOr0_in (x : Int) (w : World) (h1 : -100000000000 ≤ x) (h2 : x ≤ 100000000000) :
    Calls Try.prog 159 #[.int .i64 x] w fun e w' => e = .returned (.tuple #[.int .i64 x, .bool true]) ∧ w' = w := by
  go_enter Try.func159, Try.ntmps159
  go_wp2
  go_returns
  exact ⟨rfl, rfl⟩

theorem amountOr0_out (x : Int) (w : World) (h : x < -100000000000 ∨ 100000000000 < x) :
    Calls Try.prog 159 #[.int .i64 x] w fun e w' => e = .returned (.tuple #[.int .i64 0, .bool false]) ∧ w' = w := by
  by_cases h1 : x < -100000000000
  · clear h
    go_enter Try.func159, Try.ntmps159
    go_wp2
    go_returns
    exact ⟨rfl, rfl⟩
  · have g : 100000000000 < x := by omega
    have g1 : -100000000000 ≤ x := by omega
    have hdx : decide (x ≤ 100000000000) = false := decide_eq_false (by omega)
    clear h h1
    go_enter Try.func159, Try.ntmps159
    go_wp2
    go_returns
    exact ⟨rfl, rfl⟩

def am (x : Int) : Int := if -100000000000 ≤ x ∧ x ≤ 100000000000 then x else 0
def amB (x : Int) : Bool := decide (-100000000000 ≤ x ∧ x ≤ 100000000000)

theorem amountOr0_any (x : Int) (w : World) :
    Calls Try.prog 159 #[.int .i64 x] w fun e w' => e = .returned (.tuple #[.int .i64 (am x), .bool (amB x)]) ∧ w' = w := by
  by_cases h : -100000000000 ≤ x ∧ x ≤ 100000000000
  · have e1 : am x = x := if_pos h
    have e2 : amB x = true := decide_eq_true h
    rw [e1, e2]; exact amountOr0_in x w h.1 h.2
  · have e1 : am x = 0 := if_neg h
    have e2 : amB x = false := decide_eq_false h
    rw [e1, e2]; exact amountOr0_out x w (by omega)

theorem implMulDiv_none (a num den m : Int) (w : World) (hm : m < 1 ∨ 6 < m) :
    Calls Try.prog 149 #[.int .i64 a, .int .i64 num, .int .i64 den, .int .i64 m] w fun e w' => e = .returned (.tuple #[.int .i64 0, .bool false]) ∧ Below w.heap.size w w' := by
  go_enter Try.func149, Try.ntmps149
  go_wp2_with (go_at_call 156; refine (roundingOf_none _ _ hm).mono ?_; rintro e w1 ⟨rfl, hb⟩; have hz := hb.size)
  go_returns
  exact ⟨rfl, by go_grown⟩

set_option maxHeartbeats 2000000 in
theorem implMulDiv_bad (a num den m : Int) (w : World) (hm : 1 ≤ m) (hm6 : m ≤ 6) (h : a < -100000000000 ∨ (-100000000000 ≤ a ∧ 100000000000 < a) ∨ ((-100000000000 ≤ a ∧ a ≤ 100000000000) ∧ (num < 0 ∨ (0 ≤ num ∧ 10000000 < num) ∨ ((0 ≤ num ∧ num ≤ 10000000) ∧ (den < 1 ∨ (1 ≤ den ∧ 10000000 < den)))))) :
    Calls Try.prog 149 #[.int .i64 a, .int .i64 num, .int .i64 den, .int .i64 m] w fun e w' => e = .returned (.tuple #[.int .i64 0, .bool false]) ∧ Below w.heap.size w w' := by
  rcases h with h | ⟨h1, h2⟩ | ⟨⟨h1, h2⟩, h | ⟨h3, h4⟩ | ⟨⟨h3, h4⟩, h | ⟨h5, h6⟩⟩⟩
  all_goals
    try have q1 : decide (a ≤ 100000000000) = false := decide_eq_false (by omega)
    try have q2 : decide (num ≤ 10000000) = false := decide_eq_false (by omega)
    try have q3 : decide (den ≤ 10000000) = false := decide_eq_false (by omega)
    go_enter Try.func149, Try.ntmps149
    go_wp2_with (first | (go_at_call 156; refine (roundingOf_any _ _ hm hm6).mono ?_; rintro e w1 ⟨rfl, hb⟩; have hz := hb.size) | go_in)
    go_returns
    exact ⟨rfl, by go_grown⟩

theorem isAmount_t (x : Int) (w : World) (h1 : -100000000000 ≤ x) (h2 : x ≤ 100000000000) :
    Calls Try.prog 157 #[.int .i64 x] w fun e w' => e = .returned (.bool true) ∧ w' = w := by
  go_enter Try.func157, Try.ntmps157
  go_wp2
  go_returns
  exact ⟨by simp, rfl⟩

theorem isFactor_t (x : Int) (w : World) (h1 : 0 ≤ x) (h2 : x ≤ 10000000) :
    Calls Try.prog 115 #[.int .i64 x] w fun e w' => e = .returned (.bool true) ∧ w' = w := by
  go_enter Try.func115, Try.ntmps115
  go_wp2
  go_returns
  exact ⟨by simp, rfl⟩

theorem isDivisor_t (x : Int) (w : World) (h1 : 1 ≤ x) (h2 : x ≤ 10000000) :
    Calls Try.prog 158 #[.int .i64 x] w fun e w' => e = .returned (.bool true) ∧ w' = w := by
  go_enter Try.func158, Try.ntmps158
  go_wp2
  go_returns
  exact ⟨by simp, rfl⟩

end Go.Proofs.Ytmbdeafpfdeigaa
