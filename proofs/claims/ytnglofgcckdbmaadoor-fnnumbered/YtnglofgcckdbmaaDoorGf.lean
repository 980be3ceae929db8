/- MakeNumber of the model. -/
import Derived.Test.YtnglofgcckdbmaaDoorGe
namespace Go.Proofs.YtnglofgcckdbmaaDoor
open Go Go.ChangeShapes Go.WideShapes Go.ChangeAt Go.RowKit
set_option linter.unusedVariables false
set_option linter.unusedSimpArgs false

set_option maxHeartbeats 8000000 in
set_option maxRecDepth 1000000 in
theorem specMake_any (L R : ByteArray) (w : World) (hL : (L.size : Int) ≤ 1048576) (hR : (R.size : Int) ≤ 1048576) :
    Calls Tryd.prog 10 #[.string L, .string R] w fun e w' => e = .returned (.string (mkV L R)) ∧ Below w.heap.size w w' := by
  obtain ⟨V, hV⟩ : ∃ V, mkV L R = V := ⟨_, rfl⟩
  rw [hV]
  have HV : Hid (mkV L R = V) := hV
  clear hV
  go_enter Tryd.func10, Tryd.ntmps10
  go_wp2
  go_loopw [5, 6] (fun i _ wr => ∃ k : Nat, 2 ≤ k ∧ k ≤ 99 ∧ i = .int .i64 (k : Int) ∧ Hid ((okB L R = true → k ≤ ckN L R) ∧ Below w.heap.size w wr)) (fun i _ _ => 99 - (intOf i).toNat)
  case atStart => exact ⟨2, by omega, by omega, rfl, fun _ => (ckN_bd L R).1, Below.refl _ _⟩
  case round =>
    obtain ⟨k, hk2, hk9, rfl, HH⟩ := hrel
    by_cases hlt : k ≤ 98
    · have hlt2 : (k : Int) ≤ 98 := by omega
      have hk2' : (2 : Int) ≤ (k : Int) := by omega
      obtain ⟨q1, q2⟩ := dec_hun (n := k) (by omega)
      have HTX : Hid (∀ W, Calls Tryd.prog 27 #[.int .i64 (100 + (k : Int))] W fun e w' => e = .returned (.string (Mny.str (Lib.decDigits (100 + k)))) ∧ ∃ q, w' = W.drewN q) := hid (fun W => by
        have := Mny.text_any (100 + k) W (by omega)
        rw [show ((100 + k : Nat) : Int) = 100 + (k : Int) by omega] at this; exact this)
      obtain ⟨T, hT⟩ : ∃ T, Mny.str (Lib.decDigits (100 + k)) = T := ⟨_, rfl⟩
      rw [hT] at q1 q2 HTX
      have HE : Hid (T.extract 1 3 = ddB k) := q2
      have hz2 : (ddB k).size = 2 := rfl
      obtain ⟨E, hE⟩ : ∃ E, T.extract 1 3 = E := ⟨_, rfl⟩
      have hEs : E.size = 2 := by rw [← hE, HE.out]; rfl
      have HAC : Hid (∀ W, Calls Tryd.prog 13 #[.string ((L ++ E) ++ R)] W fun e w' => e = .returned (.bool (anP ((L ++ E) ++ R).data.toList)) ∧ Below W.heap.size W w') := hid (fun W => specAcc_any _ W (by simp only [ByteArray.size_append]; omega))
      have HEE : Hid (E = ddB k) := hid (hE.symm.trans HE.out)
      have s1 : L.size + E.size ≤ 9223372036854775807 := by omega
      have s2 : (L ++ E).size + R.size ≤ 9223372036854775807 := by simp only [ByteArray.size_append]; omega
      clear q2 hT HE hz2
      by_cases h2 : L.size = 2
      · have d2 : ((L.size : Int) == 2) = true := by simp [h2]
        have HAN : Hid (anP ((L ++ E) ++ R).data.toList = (okB L R && decide (k = ckN L R))) := hid (by rw [HEE.out, an_cat h2 (by omega), ck_one hk2 hlt])
        cases hv : (okB L R && decide (k = ckN L R))
        · rw [HAN.out, hv] at HAC
          have HN : Hid (okB L R = true → k + 1 ≤ ckN L R) := hid (fun ho => by
            rw [ho, Bool.true_and] at hv
            have := of_decide_eq_false hv
            have := HH.out.1 ho
            omega)
          clear HAN hv
          go_wp2_with (first
            | (go_at_call 27; refine (HTX.out _).mono ?_; rintro e w1 ⟨rfl, q, rfl⟩; have HB1 : Hid (Below w.heap.size w (wr.drewN q)) := hid (bd_N HH.out.2 q))
            | (go_at_call 13; refine (HAC.out _).mono ?_; rintro e w2 ⟨rfl, b2⟩; have HB2 := hid (bel_on HB1.out b2); clear b2))
          go_roundw
          case rel => exact ⟨k + 1, by omega, by omega, by go_num, HN.out, HB2.out⟩
          case measure => simp [intOf]; omega
        · rw [HAN.out, hv] at HAC
          have HF : Hid ((L ++ E) ++ R = V) := hid (by
            simp only [Bool.and_eq_true, decide_eq_true_eq] at hv
            rw [← HV.out]
            unfold mkV
            rw [if_pos hv.1, HEE.out, hv.2])
          clear HAN hv
          go_wp2_with (first
            | (go_at_call 27; refine (HTX.out _).mono ?_; rintro e w1 ⟨rfl, q, rfl⟩; have HB1 : Hid (Below w.heap.size w (wr.drewN q)) := hid (bd_N HH.out.2 q))
            | (go_at_call 13; refine (HAC.out _).mono ?_; rintro e w2 ⟨rfl, b2⟩; have HB2 := hid (bel_on HB1.out b2); clear b2))
          go_returns
          exact ⟨by rw [← HF.out]; rfl, HB2.out⟩
      · have d2 : ((L.size : Int) == 2) = false := by
          have : ¬ (L.size : Int) = 2 := by omega
          simpa using this
        have HN : Hid (okB L R = true → k + 1 ≤ ckN L R) := hid (fun ho => by unfold okB at ho; rw [decide_eq_false h2] at ho; cases ho)
        clear h2
        go_wp2_with (go_at_call 27; refine (HTX.out _).mono ?_; rintro e w1 ⟨rfl, q, rfl⟩; have HB1 : Hid (Below w.heap.size w (wr.drewN q)) := hid (bd_N HH.out.2 q))
        go_roundw
        case rel => exact ⟨k + 1, by omega, by omega, by go_num, HN.out, HB1.out⟩
        case measure => simp [intOf]; omega
    · have hlt2 : ¬ (k : Int) ≤ 98 := by omega
      have HF : Hid (⟨#[]⟩ = V) := hid (by
        rw [← HV.out]
        unfold mkV
        rw [if_neg (fun ho => by have := HH.out.1 ho; have := (ckN_bd L R).2; omega)])
      go_wp2
      go_returns
      exact ⟨by rw [← HF.out]; rfl, HH.out.2⟩
end Go.Proofs.YtnglofgcckdbmaaDoor
