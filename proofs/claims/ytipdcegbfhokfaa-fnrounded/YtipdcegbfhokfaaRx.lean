/- The walk of the law FnRounded. -/
import Derived.Test.YtipdcegbfhokfaaRw
namespace Go.Proofs.Ytipdcegbfhokfaa
open Go.ChangeShapes Go.WideShapes Go.ChangeAt Go.RowKit
set_option linter.unusedVariables false
set_option linter.unusedSimpArgs false

theorem mdc1 : mdV 7 3 2 3 = 11 := by decide
theorem mdc2 : mdB 7 3 2 3 = true := by decide
theorem mdc3 : mdV 5 1 2 4 = 2 := by decide
theorem mdc4 : mdB 5 1 2 4 = true := by decide

theorem tmod_b {x : Int} (h : x.tmod 2 = 0) : (x.tmod 2 == 0) = true ∧ (0 ≤ x → x % 2 = 0) := by
  refine ⟨by simpa using h, fun g => ?_⟩
  rw [← Int.tmod_eq_emod_of_nonneg g]; exact h

set_option maxRecDepth 20000 in
set_option maxHeartbeats 8000000 in
theorem rounded_walk (ad : Option Addr) (len cap : Nat) (w : World) (hl : len ≤ 1048576) (hr : ByteRow w w.heap.size ad len) :
    Calls Try.prog 3 #[.slice ad len cap] w fun e w' => e = .returned (.bool true) ∧ Below w.heap.size w w' := by
  have HR : Hid (ByteRow w w.heap.size ad len) := hr
  clear hr
  have q1 := mdc1
  have q2 := mdc2
  have q3 := mdc3
  have q4 := mdc4
  have tok1 : True := trivial
  go_enter Try.func3, Try.ntmps3
  go_wp2_with (first
    | (go_at_call 10; go_in)
    | (go_at_call 11; have _t := tok1; refine (implMulDiv_any 7 3 2 3 _).mono ?_; rintro e w1 ⟨rfl, b1⟩; have B1 : Hid (Below w.heap.size w w1) := b1; clear b1 tok1)
    | (go_at_call 11; refine (implMulDiv_any 5 1 2 4 _).mono ?_; rintro e w2 ⟨rfl, b2⟩; replace B1 : Hid (Below w.heap.size w w2) := B1.out.trans (b2.mono B1.out.size); clear b2)
    | (go_at_call 12; refine (drawMulDiv_any ad len cap _ (by omega) (row_later HR.out B1.out)).mono ?_; rintro e w3 ⟨a, n, d, m, rfl, b3⟩; replace B1 : Hid (Below w.heap.size w w3) := B1.out.trans (b3.mono B1.out.size); clear b3))
  clear q1 q2 q3 q4
  go_loopw [11] (fun i wr => ∃ k : Nat, 1 ≤ k ∧ k ≤ 7 ∧ i = .int .i64 k ∧ Below w.heap.size w wr) (fun i _ => 7 - (intOf i).toNat)
  case atStart => exact ⟨1, by omega, by omega, rfl, B1.out⟩
  case round =>
    obtain ⟨k, hk1, hk7, rfl, bw⟩ := hrel
    have BR : Hid (Below w.heap.size w wr) := bw
    clear bw B1
    by_cases hk : k ≤ 6
    · cases ht : mdB a n d k
      · go_wp2_with (first | (go_at_call 11; refine (implMulDiv_any a n d (k : Int) _).mono ?_; rintro e w4 ⟨rfl, b4⟩; replace BR : Hid (Below w.heap.size w w4) := BR.out.trans (b4.mono BR.out.size); clear b4) | (go_at_call 13; refine (abs_pos _ _ (by omega)).mono ?_; rintro e w' ⟨rfl, rfl⟩) | (go_at_call 13; refine (abs_neg _ _ (by omega) (by omega)).mono ?_; rintro e w' ⟨rfl, rfl⟩))
        go_roundw
        case rel => exact ⟨k + 1, by omega, by omega, by go_num, BR.out⟩
        case measure => simp [intOf]; omega
      · obtain ⟨ok, hv, v1, v2⟩ := md_told ht
        have pb := md_prod ok
        unfold MdOk at ok
        obtain ⟨o1, o2, o3, o4, o5, o6, o7, o8⟩ := ok
        obtain ⟨p1, p2⟩ := pb
        have HN : Hid (∀ y : Int, y = (k : Int) → dv (a * n) d y = dv (a * n) d k) := fun y hy => by rw [hy]
        obtain ⟨x, hx⟩ : ∃ x, dv (a * n) d k = x := ⟨_, rfl⟩
        rw [hx] at hv v1 v2
        have tb := mul_bd x d 100000000000 10000000 (by omega) (by omega) (by omega) (by omega) (by omega)
        obtain ⟨u1, u2⟩ := tb
        have t1 : -1000000000000000000 ≤ x * d := by omega
        have t2 : x * d ≤ 1000000000000000000 := by omega
        clear u1 u2
        have HX : Hid (dv (a * n) d k = x) := hx
        clear hx HN
        rcases (show k = 1 ∨ k = 2 ∨ k = 3 ∨ k = 4 ∨ k = 5 ∨ k = 6 by omega) with hk0 | hk0 | hk0 | hk0 | hk0 | hk0
        · subst hk0
          have hv1 : mdV a n d 1 = x := hv
          have ht1 : mdB a n d 1 = true := ht
          clear hv ht
          have nr := near1 (a * n) d (x * d) o5 (by rw [← HX.out]; rfl)
          clear HX
          rcases nr with ⟨g1, g2, g3, g4⟩ | ⟨g1, g2, g3, g4⟩
          all_goals go_wp2_with (first | (go_at_call 11; refine (implMulDiv_any a n d 1 _).mono ?_; rintro e w4 ⟨rfl, b4⟩; replace BR : Hid (Below w.heap.size w w4) := BR.out.trans (b4.mono BR.out.size); clear b4) | (go_at_call 13; refine (abs_pos _ _ (by omega)).mono ?_; rintro e w' ⟨rfl, rfl⟩) | (go_at_call 13; refine (abs_neg _ _ (by omega) (by omega)).mono ?_; rintro e w' ⟨rfl, rfl⟩))
          all_goals
            go_roundw
            case rel => exact ⟨2, by omega, by omega, by go_num, BR.out⟩
            case measure => simp [intOf] <;> omega
        · subst hk0
          have hv1 : mdV a n d 2 = x := hv
          have ht1 : mdB a n d 2 = true := ht
          clear hv ht
          have nr := near2 (a * n) d (x * d) o5 (by rw [← HX.out]; rfl)
          clear HX
          rcases nr with ⟨g1, g2, g3, g4⟩ | ⟨g1, g2, g3⟩
          all_goals go_wp2_with (first | (go_at_call 11; refine (implMulDiv_any a n d 2 _).mono ?_; rintro e w4 ⟨rfl, b4⟩; replace BR : Hid (Below w.heap.size w w4) := BR.out.trans (b4.mono BR.out.size); clear b4) | (go_at_call 13; refine (abs_pos _ _ (by omega)).mono ?_; rintro e w' ⟨rfl, rfl⟩) | (go_at_call 13; refine (abs_neg _ _ (by omega) (by omega)).mono ?_; rintro e w' ⟨rfl, rfl⟩))
          all_goals
            go_roundw
            case rel => exact ⟨3, by omega, by omega, by go_num, BR.out⟩
            case measure => simp [intOf] <;> omega
        · subst hk0
          have hv1 : mdV a n d 3 = x := hv
          have ht1 : mdB a n d 3 = true := ht
          clear hv ht
          have nr := near3 (a * n) d (x * d) o5 (by rw [← HX.out]; rfl)
          clear HX
          rcases nr with ⟨g1, g2, g3, g4⟩ | ⟨g1, g2, g3, g4⟩ | ⟨g1, g2, g3, g4⟩ | ⟨g1, g2, g3⟩
          all_goals go_wp2_with (first | (go_at_call 11; refine (implMulDiv_any a n d 3 _).mono ?_; rintro e w4 ⟨rfl, b4⟩; replace BR : Hid (Below w.heap.size w w4) := BR.out.trans (b4.mono BR.out.size); clear b4) | (go_at_call 13; refine (abs_pos _ _ (by omega)).mono ?_; rintro e w' ⟨rfl, rfl⟩) | (go_at_call 13; refine (abs_neg _ _ (by omega) (by omega)).mono ?_; rintro e w' ⟨rfl, rfl⟩))
          all_goals
            go_roundw
            case rel => exact ⟨4, by omega, by omega, by go_num, BR.out⟩
            case measure => simp [intOf] <;> omega
        · subst hk0
          have hv1 : mdV a n d 4 = x := hv
          have ht1 : mdB a n d 4 = true := ht
          clear hv ht
          have nr := near4 (a * n) d (x * d) o5 (by rw [← HX.out]; rfl)
          rw [show dv (a * n) d 4 = x from HX.out] at nr
          clear HX
          rcases nr with ⟨g1, g2⟩ | ⟨g1, g2⟩ | ⟨g1, g2, g3⟩ | ⟨g1, g2, g3⟩
          · go_wp2_with (first | (go_at_call 11; refine (implMulDiv_any a n d 4 _).mono ?_; rintro e w4 ⟨rfl, b4⟩; replace BR : Hid (Below w.heap.size w w4) := BR.out.trans (b4.mono BR.out.size); clear b4) | (go_at_call 13; refine (abs_pos _ _ (by omega)).mono ?_; rintro e w' ⟨rfl, rfl⟩) | (go_at_call 13; refine (abs_neg _ _ (by omega) (by omega)).mono ?_; rintro e w' ⟨rfl, rfl⟩))
            go_roundw
            case rel => exact ⟨5, by omega, by omega, by go_num, BR.out⟩
            case measure => simp [intOf] <;> omega
          · go_wp2_with (first | (go_at_call 11; refine (implMulDiv_any a n d 4 _).mono ?_; rintro e w4 ⟨rfl, b4⟩; replace BR : Hid (Below w.heap.size w w4) := BR.out.trans (b4.mono BR.out.size); clear b4) | (go_at_call 13; refine (abs_pos _ _ (by omega)).mono ?_; rintro e w' ⟨rfl, rfl⟩) | (go_at_call 13; refine (abs_neg _ _ (by omega) (by omega)).mono ?_; rintro e w' ⟨rfl, rfl⟩))
            go_roundw
            case rel => exact ⟨5, by omega, by omega, by go_num, BR.out⟩
            case measure => simp [intOf] <;> omega
          · obtain ⟨g4, g5⟩ := tmod_b g3
            go_wp2_with (first | (go_at_call 11; refine (implMulDiv_any a n d 4 _).mono ?_; rintro e w4 ⟨rfl, b4⟩; replace BR : Hid (Below w.heap.size w w4) := BR.out.trans (b4.mono BR.out.size); clear b4) | (go_at_call 13; refine (abs_pos _ _ (by omega)).mono ?_; rintro e w' ⟨rfl, rfl⟩) | (go_at_call 13; refine (abs_neg _ _ (by omega) (by omega)).mono ?_; rintro e w' ⟨rfl, rfl⟩))
            go_roundw
            case rel => exact ⟨5, by omega, by omega, by go_num, BR.out⟩
            case measure => simp [intOf] <;> omega
          · obtain ⟨g4, g5⟩ := tmod_b g3
            go_wp2_with (first | (go_at_call 11; refine (implMulDiv_any a n d 4 _).mono ?_; rintro e w4 ⟨rfl, b4⟩; replace BR : Hid (Below w.heap.size w w4) := BR.out.trans (b4.mono BR.out.size); clear b4) | (go_at_call 13; refine (abs_pos _ _ (by omega)).mono ?_; rintro e w' ⟨rfl, rfl⟩) | (go_at_call 13; refine (abs_neg _ _ (by omega) (by omega)).mono ?_; rintro e w' ⟨rfl, rfl⟩))
            go_roundw
            case rel => exact ⟨5, by omega, by omega, by go_num, BR.out⟩
            case measure => simp [intOf] <;> omega
        · subst hk0
          have hv1 : mdV a n d 5 = x := hv
          have ht1 : mdB a n d 5 = true := ht
          clear hv ht
          have nr := near5 (a * n) d (x * d) o5 (by rw [← HX.out]; rfl)
          clear HX
          obtain ⟨g1, g2⟩ := nr
          all_goals go_wp2_with (first | (go_at_call 11; refine (implMulDiv_any a n d 5 _).mono ?_; rintro e w4 ⟨rfl, b4⟩; replace BR : Hid (Below w.heap.size w w4) := BR.out.trans (b4.mono BR.out.size); clear b4) | (go_at_call 13; refine (abs_pos _ _ (by omega)).mono ?_; rintro e w' ⟨rfl, rfl⟩) | (go_at_call 13; refine (abs_neg _ _ (by omega) (by omega)).mono ?_; rintro e w' ⟨rfl, rfl⟩))
          all_goals
            go_roundw
            case rel => exact ⟨6, by omega, by omega, by go_num, BR.out⟩
            case measure => simp [intOf] <;> omega
        · subst hk0
          have hv1 : mdV a n d 6 = x := hv
          have ht1 : mdB a n d 6 = true := ht
          clear hv ht
          have nr := near6 (a * n) d (x * d) o5 (by rw [← HX.out]; rfl)
          clear HX
          obtain ⟨g1, g2⟩ := nr
          all_goals go_wp2_with (first | (go_at_call 11; refine (implMulDiv_any a n d 6 _).mono ?_; rintro e w4 ⟨rfl, b4⟩; replace BR : Hid (Below w.heap.size w w4) := BR.out.trans (b4.mono BR.out.size); clear b4) | (go_at_call 13; refine (abs_pos _ _ (by omega)).mono ?_; rintro e w' ⟨rfl, rfl⟩) | (go_at_call 13; refine (abs_neg _ _ (by omega) (by omega)).mono ?_; rintro e w' ⟨rfl, rfl⟩))
          all_goals
            go_roundw
            case rel => exact ⟨7, by omega, by omega, by go_num, BR.out⟩
            case measure => simp [intOf] <;> omega
    · go_wp2
      go_returns
      exact ⟨rfl, BR.out⟩

end Go.Proofs.Ytipdcegbfhokfaa
