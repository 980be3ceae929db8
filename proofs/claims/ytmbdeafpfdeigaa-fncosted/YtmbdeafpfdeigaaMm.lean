/- The contract of the model's MulDiv: at every argument it answers 'mdV' and 'mdB'. -/
import Derived.Test.YtmbdeafpfdeigaaLda
import Derived.Test.YtmbdeafpfdeigaaLdb
namespace Go.Proofs.Ytmbdeafpfdeigaa
open Go.ChangeShapes Go.WideShapes Go.ChangeAt Go.RowKit
set_option linter.unusedVariables false
set_option linter.unusedSimpArgs false

theorem l1Div_any (p q m : Int) (w : World) (h0 : -1000000000000000000 ≤ p) (h1 : p ≤ 1000000000000000000) (hq : 1 ≤ q) (hq1 : q ≤ 10000000000) (hm : 1 ≤ m) (hm6 : m ≤ 6) :
    Calls Try.prog 135 #[.int .i64 p, .int .i64 q, .int .i64 m] w fun e w' => e = .returned (.int .i64 (dv p q m)) ∧ w' = w := by
  rcases (show m = 1 ∨ m = 2 ∨ m = 3 ∨ m = 4 ∨ m = 5 ∨ m = 6 by omega) with rfl | rfl | rfl | rfl | rfl | rfl
  · exact l1Div_1 p q w h0 h1 hq hq1
  · exact l1Div_2 p q w h0 h1 hq hq1
  · exact l1Div_3 p q w h0 h1 hq hq1
  · exact l1Div_4 p q w h0 h1 hq hq1
  · exact l1Div_5 p q w h0 h1 hq hq1
  · exact l1Div_6 p q w h0 h1 hq hq1

theorem ret_pair {a b : Int} {c d : Bool} (h : a = b) (k : c = d) : Ending.returned (.tuple #[.int .i64 a, .bool c]) = .returned (.tuple #[.int .i64 b, .bool d]) := by rw [h, k]

set_option maxHeartbeats 2000000 in
theorem specMulDiv_any (a num den m : Int) (w : World) :
    Calls Try.prog 107 #[.int .i64 a, .int .i64 num, .int .i64 den, .int .i64 m] w fun e w' => e = .returned (.tuple #[.int .i64 (mdV a num den m), .bool (mdB a num den m)]) ∧ w' = w := by
  by_cases hok : MdOk a num den m
  · have hp := md_prod hok
    have hin := @md_in a num den m hok
    have hout := @md_out a num den m
    unfold MdOk at hok
    obtain ⟨a1, a2, a3, a4, a5, a6, a7, a8⟩ := hok
    obtain ⟨p1, p2⟩ := hp
    have hb := @dv_bd (a * num) den m p1 p2 a5
    obtain ⟨b1, b2⟩ := hb
    obtain ⟨x, hx⟩ : ∃ x, dv (a * num) den m = x := ⟨_, rfl⟩
    rw [hx] at hin hout b1 b2
    by_cases g1 : -100000000000 ≤ x
    · by_cases g2 : x ≤ 100000000000
      · have HI := hin g1 g2
        have H1 : Hid (mdB a num den m = true) := HI.1
        have H2 : Hid (mdV a num den m = x) := HI.2
        clear HI hin hout
        go_enter Try.func107, Try.ntmps107
        go_wp2_with (first | (go_at_call 135; refine (l1Div_any _ _ _ _ p1 p2 a5 (by omega) a7 a8).mono ?_; rintro e w' ⟨rfl, rfl⟩) | go_in)
        go_returns
        exact ⟨ret_pair H2.out.symm H1.out.symm, rfl⟩
      · have HI := hout (by omega)
        have hdx : decide (x ≤ 100000000000) = false := decide_eq_false g2
        have H1 : Hid (mdB a num den m = false) := HI.1
        have H2 : Hid (mdV a num den m = 0) := HI.2
        clear HI hin hout
        go_enter Try.func107, Try.ntmps107
        go_wp2_with (first | (go_at_call 135; refine (l1Div_any _ _ _ _ p1 p2 a5 (by omega) a7 a8).mono ?_; rintro e w' ⟨rfl, rfl⟩) | go_in)
        go_returns
        exact ⟨ret_pair H2.out.symm H1.out.symm, rfl⟩
    · have HI := hout (by omega)
      have H1 : Hid (mdB a num den m = false) := HI.1
      have H2 : Hid (mdV a num den m = 0) := HI.2
      clear HI hin hout
      go_enter Try.func107, Try.ntmps107
      go_wp2_with (first | (go_at_call 135; refine (l1Div_any _ _ _ _ p1 p2 a5 (by omega) a7 a8).mono ?_; rintro e w' ⟨rfl, rfl⟩) | go_in)
      go_returns
      exact ⟨ret_pair H2.out.symm H1.out.symm, rfl⟩
  · have HI := md_bad hok
    have H1 : Hid (mdB a num den m = false) := HI.1
    have H2 : Hid (mdV a num den m = 0) := HI.2
    clear HI
    unfold MdOk at hok
    by_cases a1 : -100000000000 ≤ a
    · by_cases a2 : a ≤ 100000000000
      · by_cases a3 : 0 ≤ num
        · by_cases a4 : num ≤ 10000000
          · by_cases a5 : 1 ≤ den
            · by_cases a6 : den ≤ 10000000
              · by_cases a7 : 1 ≤ m
                · by_cases a8 : m ≤ 6
                  · exact absurd ⟨a1, a2, a3, a4, a5, a6, a7, a8⟩ hok
                  all_goals
                    clear hok
                    go_enter Try.func107, Try.ntmps107
                    go_wp2
                    go_returns
                    exact ⟨ret_pair H2.out.symm H1.out.symm, rfl⟩
                all_goals
                  clear hok
                  go_enter Try.func107, Try.ntmps107
                  go_wp2
                  go_returns
                  exact ⟨ret_pair H2.out.symm H1.out.symm, rfl⟩
              all_goals
                clear hok
                go_enter Try.func107, Try.ntmps107
                go_wp2
                go_returns
                exact ⟨ret_pair H2.out.symm H1.out.symm, rfl⟩
            all_goals
              clear hok
              go_enter Try.func107, Try.ntmps107
              go_wp2
              go_returns
              exact ⟨ret_pair H2.out.symm H1.out.symm, rfl⟩
          all_goals
            clear hok
            go_enter Try.func107, Try.ntmps107
            go_wp2
            go_returns
            exact ⟨ret_pair H2.out.symm H1.out.symm, rfl⟩
        all_goals
          clear hok
          go_enter Try.func107, Try.ntmps107
          go_wp2
          go_returns
          exact ⟨ret_pair H2.out.symm H1.out.symm, rfl⟩
      all_goals
        clear hok
        go_enter Try.func107, Try.ntmps107
        go_wp2
        go_returns
        exact ⟨ret_pair H2.out.symm H1.out.symm, rfl⟩
    all_goals
      clear hok
      go_enter Try.func107, Try.ntmps107
      go_wp2
      go_returns
      exact ⟨ret_pair H2.out.symm H1.out.symm, rfl⟩

end Go.Proofs.Ytmbdeafpfdeigaa
