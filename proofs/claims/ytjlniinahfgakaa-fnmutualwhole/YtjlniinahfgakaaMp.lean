/- The model's l7Parts. -/
import Derived.Test.YtjlniinahfgakaaMe
import Derived.Test.YtjlniinahfgakaaSs
namespace Go.Proofs.Ytjlniinahfgakaa
open Go Go.ChangeShapes Go.WideShapes Go.ChangeAt Go.RowKit
set_option linter.unusedVariables false
set_option linter.unusedSimpArgs false

def PaP (n N : Nat) (z : Nat → Nat → Int) (c : Nat → Int) (w : World) (e : Ending) (w' : World) : Prop := ∃ cad ccap, e = .returned (.tuple #[.slice cad n ccap, .bool true]) ∧ SR w' cad n (cmN n N z c) (cmV n N z c) ∧ Below w.heap.size w w'
def PaN (w : World) (e : Ending) (w' : World) : Prop := ∃ b, e = .returned (.tuple #[.slice (some ⟨b, 0, none⟩) 0 0, .bool false]) ∧ Below w.heap.size w w'
theorem ShS.lens {N m : Nat} {sv : Int} {ln : Nat → Nat} {z : Nat → Nat → Int} (h : ShS N sv m ln z) : ∀ i, i < m → ln i = N := fun i hi => (h.2.2.2 i hi).1
theorem ShS.nums {N m : Nat} {sv : Int} {ln : Nat → Nat} {z : Nat → Nat → Int} (h : ShS N sv m ln z) : ∀ i j, i < m → j < N → 0 ≤ z i j ∧ z i j ≤ 100 := fun i j hi hj => hunB_iff.1 ((h.2.2.2 i hi).2.2.1 j hj)
set_option maxRecDepth 20000 in
set_option maxHeartbeats 8000000 in
theorem l7Parts_ok (ca : Option Addr) (N ccap0 : Nat) (c : Nat → Int) (ad : Option Addr) (n cap : Nat) (ln : Nat → Nat) (z : Nat → Nat → Int) (w : World) (hcost : CostP N c) (hsh : ShS N (n : Int) n ln z) (hD : dl (mF n z) 3 (oF false false false) ≠ 0) (hc : IR w ca N c) (hr : SR w ad n ln z) :
    Calls Try.prog 64 #[.slice ca N ccap0, .int .i64 (n : Int), .slice ad n cap] w (PaP n N z c w) := by
  obtain ⟨j0, hj0, jz0, jz1, jz2⟩ := infoS
  have hNb : N ≤ 200 := hcost.1.2
  have hn3 : n ≤ 3 := by have := hsh.1; omega
  have hn1 : 0 < n := by have := hsh.1; omega
  have hnN : n < N := by have := hsh.2.1; omega
  have hnN2 : (n : Int) < (N : Int) := by omega
  have HSH : Hid (ShS N (n : Int) n ln z) := hsh
  obtain ⟨kc, oc, rfl, hkc⟩ := hc.addr (by omega)
  have HC : Hid (IR w (some ⟨kc, oc, none⟩) N c) := hc
  have HSR : Hid (SR w ad n ln z) := hr
  have HY1 : Hid (Below w.heap.size w (w.alloc (.cells #[] 24 (0, 0)))) := (Below.refl _ _).alloc (Nat.le_refl _) _
  have HAC : Hid (Calls Try.prog 59 #[.slice (some ⟨kc, oc, none⟩) N ccap0] (w.alloc (.cells #[] 24 (0, 0))) fun e w' => e = .returned (.bool true) ∧ w' = (w.alloc (.cells #[] 24 (0, 0)))) := by
    have := l7Costs_any (some ⟨kc, oc, none⟩) N ccap0 c (w.alloc (.cells #[] 24 (0, 0))) (by omega) (hc.below HY1.out)
    rw [costB_t hcost] at this; exact this
  have HSS : Hid (Calls Try.prog 82 #[.int .i64 (N : Int), .int .i64 (n : Int), .slice ad n cap] (w.alloc (.cells #[] 24 (0, 0))) fun e w' => e = .returned (.bool true) ∧ w' = (w.alloc (.cells #[] 24 (0, 0)))) := l7Shares_eq N (n : Int) ad n cap ln z _ hNb (by omega) (fun j hj => by rw [hsh.lens j hj]; omega) (hr.below HY1.out) (shsB_t hsh)
  have HEN : Hid (∀ (W : World) (s : Nat), Below w.heap.size w W → s < n → Calls Try.prog 83 #[.int .i64 (N : Int), .int .i64 (n : Int), .slice ad n cap, .int .i64 (s : Int)] W (EnP n N s z W)) := fun W s b hs => l7Ends_any ad n cap N s ln z W hn3 hs hnN hNb hsh.lens hsh.nums (hr.below b)
  obtain ⟨D, hDD⟩ : ∃ D, dl (mF n z) 3 (oF false false false) = D := ⟨_, rfl⟩
  have HD : Hid (dl (mF n z) 3 (oF false false false) = D) := hDD
  have hD0 : (D == 0) = false := by rw [← hDD]; simpa using hD
  have HW0 : Hid (CW w 0 (some ⟨w.heap.size, 0, none⟩) 0 w.heap.size [] n N z c (w.alloc (.cells #[] 24 (0, 0))) ∧ Below w.heap.size w (w.alloc (.cells #[] 24 (0, 0)))) := ⟨⟨World.ownsRow_made w #[] 0 (Nat.le_refl _) (Nat.zero_le _) rfl, fun q hq => by omega⟩, HY1.out⟩
  clear hcost hsh hD hc hr hDD HY1
  go_enter Try.func64, Try.ntmps64
  go_wp2_with (first | (go_at_call 59; refine HAC.out.mono ?_; rintro e w' ⟨rfl, ew⟩; replace ew := ew.symm; subst ew) | (go_at_call 82; refine HSS.out.mono ?_; rintro e w' ⟨rfl, ew⟩; replace ew := ew.symm; subst ew))
  go_loopw [8, 9, 10, 11] (fun v8 v9 _ _ wr => ∃ (i : Nat) (cad : Option Addr) (ccap : Nat) (vs : List Value), i ≤ n ∧ v9 = .int .i64 (i : Int) ∧ v8 = .slice cad i ccap ∧ Hid (CW w i cad ccap w.heap.size vs n N z c wr ∧ Below w.heap.size w wr)) (fun _ v9 _ _ _ => n - (intOf v9).toNat)
  case atStart => exact ⟨0, _, _, [], by omega, rfl, rfl, HW0⟩
  case round =>
    clear HW0 HAC HSS
    obtain ⟨i, cad, ccap, vs, hi, rfl, rfl, HW⟩ := hrel
    by_cases hlt : i < n
    · have hlt2 : (i : Int) < (n : Int) := by omega
      have hiN : (i : Int) < (N : Int) := by omega
      have HE := HEN.out wr i HW.out.2 hlt
      have HEH : Hid (Calls Try.prog 83 #[.int .i64 (N : Int), .int .i64 (n : Int), .slice ad n cap, .int .i64 (i : Int)] wr (EnP n N i z wr)) := HE
      clear HE
      obtain ⟨x, hx⟩ : ∃ x, c i = x := ⟨_, rfl⟩
      have HX : Hid (c i = x) := hx
      clear hx
      obtain ⟨M, hM⟩ : ∃ M, cmN n N z c i = M := ⟨_, rfl⟩
      have HM : Hid (cmN n N z c i = M) := hM
      clear hM
      go_wp2_with (first | (go_at_call 83; go_loud (refine HEH.out.mono ?_; rintro e w2 ⟨wad, wcap, rfl, o2, b2⟩; rw [HD.out]; have HB2 : Hid (Below w.heap.size w w2 ∧ Below wr.heap.size wr w2 ∧ IR w2 wad (N - n) (wtF n z i)) := ⟨bel_on HW.out.2 b2, b2, row_IR o2 (fun j hj => intL_get hj)⟩; have c2 := (HC.out.below HB2.out.1).cell (j := i) (by omega); rw [HX.out] at c2; clear o2 b2)) | (go_at_call 12; go_loud (refine (specShares_any x wad (N - n) wcap (wtF n z i) w2 (by omega) HB2.out.2.2).mono ?_; rintro e w3 ⟨sad, scap, rfl, o3, b3⟩; have HB3 : Hid (w3.ownsRow w.heap.size 3 1 (.slice sad (cmN n N z c i) scap) (cmN n N z c i) (intL (cmV n N z c i) (cmN n N z c i)) ∧ Below wr.heap.size wr w3) := ⟨by unfold cmN cmV; rw [HX.out]; exact row_lower o3 HB2.out.1.size, bel_on HB2.out.2.1 b3⟩; have e3 : shM x (N - n) (wtF n z i) = M := (by rw [← HM.out]; unfold cmN; rw [HX.out]); rw [e3]; rw [HM.out] at HB3; clear o3 b3 e3)) | (at_builtin; go_loud (refine wpList_append_own_at _ rfl _ _ 37 rfl w.heap.size 24 j0 (.slice none 0 0) 1 24 Try.underlying37 hj0 jz0 jz1 jz2 rfl (by decide) (.slice cad i ccap) i vs rfl (row_below (HW.out.1.below HB3.out.2).row ((Below.refl _ _).alloc (Nat.le_refl _) _)) ⟨w3.heap.size, 0, none⟩ 1 1 [.slice sad M scap] rfl rfl (cell_one_at rfl) (fun u hu => by simp at hu; subst hu; rfl) (by unfold maxLen; omega) (by omega) (by have := (bel_on HW.out.2 HB3.out.2).size; simp; omega) ?_; intro v' w6 hown hgrow _ _; obtain ⟨ad6, cap6, rfl⟩ := row_form hown; have HW6 : Hid (CW w (i + 1) ad6 cap6 w.heap.size (vs ++ [.slice sad (cmN n N z c i) scap]) n N z c w6 ∧ Below w.heap.size w w6) := ⟨(HW.out.1.below HB3.out.2).app (by rw [HM.out]; exact HB3.out.1) (by rw [HM.out]; exact hown) hgrow, Below.grown ((bel_on HW.out.2 HB3.out.2).alloc (bel_on HW.out.2 HB3.out.2).size _) hgrow (by have := (bel_on HW.out.2 HB3.out.2).size; simp; omega) (fun x hx => ((HW.out.1.below HB3.out.2).row.lt x hx).1)⟩; clear hown hgrow)))
      go_roundw
      case rel => exact ⟨i + 1, ad6, cap6, _, by omega, by go_num, rfl, HW6⟩
      case measure => simp [intOf]; omega
    · obtain rfl : n = i := by omega
      have lkk : ¬ (n : Int) < (n : Int) := by omega
      go_wp2
      go_returns
      exact ⟨cad, ccap, rfl, HW.out.1.sr, HW.out.2⟩
set_option maxRecDepth 20000 in
set_option maxHeartbeats 8000000 in
theorem l7Parts_no (ca : Option Addr) (N ccap0 : Nat) (c : Nat → Int) (sv : Int) (ad : Option Addr) (m cap : Nat) (ln : Nat → Nat) (z : Nat → Nat → Int) (w : World) (hN2 : (N : Int) ≤ 1048576) (hm2 : (m : Int) ≤ 1048576) (hll : ∀ j, j < m → (ln j : Int) ≤ 1048576) (hbad : ¬ (CostP N c ∧ ShS N sv m ln z ∧ dl (mF m z) 3 (oF false false false) ≠ 0)) (hc : IR w ca N c) (hr : SR w ad m ln z) :
    Calls Try.prog 64 #[.slice ca N ccap0, .int .i64 sv, .slice ad m cap] w (PaN w) := by
  have HY1 : Hid (Below w.heap.size w (w.alloc (.cells #[] 24 (0, 0)))) := (Below.refl _ _).alloc (Nat.le_refl _) _
  have HAC : Hid (∀ v, costB N c = v → Calls Try.prog 59 #[.slice ca N ccap0] (w.alloc (.cells #[] 24 (0, 0))) fun e w' => e = .returned (.bool v) ∧ w' = (w.alloc (.cells #[] 24 (0, 0)))) := fun v h => h ▸ l7Costs_any ca N ccap0 c _ hN2 (hc.below HY1.out)
  cases hb : costB N c with
  | false =>
    have HB0 : Hid (PaN w (.returned (.tuple #[.slice (some ⟨w.heap.size, 0, none⟩) 0 0, .bool false])) (w.alloc (.cells #[] 24 (0, 0)))) := ⟨_, rfl, HY1.out⟩
    clear hbad hc hr hll
    go_enter Try.func64, Try.ntmps64
    go_wp2_with (go_at_call 59; refine (HAC.out _ hb).mono ?_; rintro e w' ⟨rfl, ew⟩; replace ew := ew.symm; subst ew)
    go_returns
    exact HB0.out
  | true =>
    have hcost := costB_iff.1 hb
    have hNb : N ≤ 200 := hcost.1.2
    have HSS : Hid (∀ v, shsB N sv m ln z = v → Calls Try.prog 82 #[.int .i64 (N : Int), .int .i64 sv, .slice ad m cap] (w.alloc (.cells #[] 24 (0, 0))) fun e w' => e = .returned (.bool v) ∧ w' = (w.alloc (.cells #[] 24 (0, 0)))) := fun v h => l7Shares_eq N sv ad m cap ln z _ hNb hm2 hll (hr.below HY1.out) h
    cases hb2 : shsB N sv m ln z with
    | false =>
      have HB0 : Hid (PaN w (.returned (.tuple #[.slice (some ⟨w.heap.size, 0, none⟩) 0 0, .bool false])) (w.alloc (.cells #[] 24 (0, 0)))) := ⟨_, rfl, HY1.out⟩
      clear hbad hc hr hll hcost
      go_enter Try.func64, Try.ntmps64
      go_wp2_with (first | (go_at_call 59; refine (HAC.out _ hb).mono ?_; rintro e w' ⟨rfl, ew⟩; replace ew := ew.symm; subst ew) | (go_at_call 82; refine (HSS.out _ hb2).mono ?_; rintro e w' ⟨rfl, ew⟩; replace ew := ew.symm; subst ew))
      go_returns
      exact HB0.out
    | true =>
      have hsh := shsB_iff.1 hb2
      obtain rfl : (m : Int) = sv := hsh.2.2.1
      have hD : dl (mF m z) 3 (oF false false false) = 0 := by
        by_cases e : dl (mF m z) 3 (oF false false false) = 0
        · exact e
        · exact absurd ⟨hcost, hsh, e⟩ hbad
      have hn3 : m ≤ 3 := by have := hsh.1; omega
      have hn1 : 0 < m := by have := hsh.1; omega
      have hnN : m < N := by have := hsh.2.1; omega
      have hn2 : (0 : Int) < (m : Int) := by omega
      have HEN : Hid (∀ (W : World), Below w.heap.size w W → Calls Try.prog 83 #[.int .i64 (N : Int), .int .i64 (m : Int), .slice ad m cap, .int .i64 0] W (EnP m N 0 z W)) := fun W b => l7Ends_any ad m cap N 0 ln z W hn3 hn1 hnN hNb hsh.lens hsh.nums (hr.below b)
      have HD : Hid (dl (mF m z) 3 (oF false false false) = 0) := hD
      clear hbad hc hr hll hcost hsh hD
      go_enter Try.func64, Try.ntmps64
      go_wp2_with (first | (go_at_call 59; refine (HAC.out _ hb).mono ?_; rintro e w' ⟨rfl, ew⟩; replace ew := ew.symm; subst ew) | (go_at_call 82; refine (HSS.out _ hb2).mono ?_; rintro e w' ⟨rfl, ew⟩; replace ew := ew.symm; subst ew))
      go_loopw [8, 9, 10, 11] (fun _ v9 _ _ wr => v9 = .int .i64 0 ∧ Hid (Below w.heap.size w wr)) (fun _ _ _ _ _ => 0)
      case atStart => exact ⟨rfl, HY1⟩
      case round =>
        clear HAC HSS HY1
        obtain ⟨rfl, HW⟩ := hrel
        have HEH : Hid (Calls Try.prog 83 #[.int .i64 (N : Int), .int .i64 (m : Int), .slice ad m cap, .int .i64 0] wr (EnP m N 0 z wr)) := HEN.out wr HW.out
        go_wp2_with (go_at_call 83; go_loud (refine HEH.out.mono ?_; rintro e w2 ⟨wad, wcap, rfl, o2, b2⟩; rw [HD.out]; have HB2 : Hid (PaN w (.returned (.tuple #[.slice (some ⟨w2.heap.size, 0, none⟩) 0 0, .bool false])) (w2.alloc (.cells #[] 24 (0, 0)))) := ⟨_, rfl, (bel_on HW.out b2).alloc (bel_on HW.out b2).size _⟩; clear o2 b2))
        go_returns
        exact HB2.out
end Go.Proofs.Ytjlniinahfgakaa
