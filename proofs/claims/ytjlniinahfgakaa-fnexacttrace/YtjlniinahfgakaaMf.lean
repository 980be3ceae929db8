/- The model's Trace. -/
import Derived.Test.YtjlniinahfgakaaMg
namespace Go.Proofs.Ytjlniinahfgakaa
open Go Go.ChangeShapes Go.WideShapes Go.ChangeAt Go.RowKit
set_option linter.unusedVariables false
set_option linter.unusedSimpArgs false

open Classical in
theorem muB_iff {N : Nat} {c : Nat → Int} {sv : Int} {m : Nat} {ln : Nat → Nat} {z : Nat → Nat → Int} : muB N c sv m ln z = true ↔ MuOk N c sv m ln z := by unfold muB; simp
set_option maxRecDepth 20000 in
set_option maxHeartbeats 8000000 in
theorem specTrace_any (ca : Option Addr) (N ccap0 : Nat) (c : Nat → Int) (sv : Int) (ad : Option Addr) (m cap : Nat) (ln : Nat → Nat) (z : Nat → Nat → Int) (pl : Int) (w : World) (hN2 : (N : Int) ≤ 1048576) (hm2 : (m : Int) ≤ 1048576) (hll : ∀ j, j < m → (ln j : Int) ≤ 1048576) (hc : IR w ca N c) (hr : SR w ad m ln z) :
    Calls Try.prog 35 #[.slice ca N ccap0, .int .i64 sv, .slice ad m cap, .int .i64 pl] w (TrP N c sv m ln z pl w) := by
  have HMU : Hid (Calls Try.prog 21 #[.slice ca N ccap0, .int .i64 sv, .slice ad m cap] w (MuP N c sv m ln z w)) := specMutual_any ca N ccap0 c sv ad m cap ln z w hN2 hm2 hll hc hr
  obtain ⟨M, hM⟩ : ∃ M, muM N c sv m ln z = M := ⟨_, rfl⟩
  have HM : Hid (muM N c sv m ln z = M) := hM
  clear hM
  cases hb : muB N c sv m ln z with
  | false =>
    have HF : Hid (trB N c sv m ln z pl = false) := trB_f (fun q => by have := muB_t q.1; rw [hb] at this; cases this)
    clear hc hr hll
    go_enter Try.func35, Try.ntmps35
    go_wp2_with (go_at_call 21; go_loud (refine HMU.out.mono ?_; rintro e w1 ⟨oad, ocap, rfl, o1, b1⟩; rw [hb, HM.out]; have HB : Hid (Below w.heap.size w w1) := b1; clear o1 b1))
    go_returns
    exact TrP.none rfl HF.out HB.out
  | true =>
    have hok := muB_iff.1 hb
    obtain rfl : (m : Int) = sv := hok.1.2.1.2.2.1
    have HOK : Hid (MuOk N c (m : Int) m ln z) := hok
    have hn3 : m ≤ 3 := by have := hok.1.2.1.1; omega
    have hn1 : 0 < m := by have := hok.1.2.1.1; omega
    have hnN : m < N := by have := hok.1.2.1.2.1; omega
    have HPA : Hid (∀ W, Below w.heap.size w W → Calls Try.prog 64 #[.slice ca N ccap0, .int .i64 (m : Int), .slice ad m cap] W (PaP m N z c W)) := fun W b => l7Parts_ok ca N ccap0 c ad m cap ln z W hok.1.1 hok.1.2.1 hok.1.2.2 (hc.below b) (hr.below b)
    clear hc hr hll hok
    cases hin : inB pl (m : Int) ((N : Int) - 1) with
    | false =>
      have HF : Hid (trB N c (m : Int) m ln z pl = false) := trB_f (fun q => by
        have h1 := q.2.1
        have h2 := q.2.2
        rw [inB_t h1 (by omega)] at hin; cases hin)
      go_enter Try.func35, Try.ntmps35
      go_wp2_with (first
        | (go_at_call 21; refine HMU.out.mono ?_; rintro e w1 ⟨oad, ocap, rfl, o1, b1⟩; rw [hb, HM.out]; have HB : Hid (Below w.heap.size w w1) := b1; clear o1 b1)
        | (go_at_call 60; refine (l1In_any _ _ _ _).mono ?_; rintro e w' ⟨rfl, ew⟩; replace ew := ew.symm; subst ew; rw [hin]))
      go_returns
      exact TrP.none rfl HF.out HB.out
    | true =>
      have hpb := inB_iff.1 hin
      obtain ⟨hpl1, hpl2⟩ := hpb
      have HF : Hid (trB N c (m : Int) m ln z pl = true) := trB_t ⟨HOK.out, hpl1, by omega⟩
      obtain ⟨q, hq⟩ : ∃ q : Nat, pl - (m : Int) = (q : Int) := ⟨(pl - (m : Int)).toNat, by omega⟩
      have HV : Hid (∀ i, trV N c m z pl i = cmV m N z c i q) := fun i => by unfold trV; rw [show pl.toNat - m = q by omega]
      have hqN : q < N - m := by omega
      have HCM : Hid (∀ i, i < m → cmN m N z c i = N - m) := fun i hi => cm_full HOK.out.1.1 HOK.out.1.2.1 HOK.out.1.2.2 hi
      have hpl3 : pl < (N : Int) := by omega
      obtain ⟨i0, hi0, hz0, hz1, hz2⟩ := info3
      go_enter Try.func35, Try.ntmps35
      go_wp2_with (first
        | (go_at_call 21; refine HMU.out.mono ?_; rintro e w0 ⟨oad, ocap, rfl, o1, b1⟩; rw [hb, HM.out]; have HB0 : Hid (Below w.heap.size w w0) := b1; clear o1 b1)
        | (go_at_call 60; refine (l1In_any _ _ _ _).mono ?_; rintro e w' ⟨rfl, ew⟩; replace ew := ew.symm; subst ew; rw [hin])
        | (go_at_call 64; go_loud (refine (HPA.out w0 HB0.out).mono ?_; rintro e w1 ⟨cad, ccap, rfl, s1, b1⟩; obtain ⟨pb, po, rfl, _⟩ := s1.addr hn1; have HB : Hid (Below w.heap.size w w1 ∧ SR w1 (some ⟨pb, po, none⟩) m (cmN m N z c) (cmV m N z c)) := ⟨bel_on HB0.out b1, s1⟩; clear s1 b1)))
      have HT0 : Hid ((w1.alloc (.cells #[] 3 (0, 0))).ownsRow w1.heap.size 3 1 (.slice (some ⟨w1.heap.size, 0, none⟩) 0 0) 0 (intL (fun j => cmV m N z c j q) 0) ∧ Below w1.heap.size w1 (w1.alloc (.cells #[] 3 (0, 0)))) := ⟨none_own w1, (Below.refl _ _).alloc (Nat.le_refl _) _⟩
      go_loopw [14, 15] (fun v14 v15 wr => ∃ (i : Nat) (tad : Option Addr) (tcap : Nat), i ≤ m ∧ v15 = .int .i64 (i : Int) ∧ v14 = .slice tad i tcap ∧ Hid (wr.ownsRow w1.heap.size 3 1 (.slice tad i tcap) i (intL (fun j => cmV m N z c j q) i) ∧ Below w1.heap.size w1 wr)) (fun _ v15 _ => m - (intOf v15).toNat)
      case atStart => exact ⟨0, _, _, by omega, rfl, rfl, HT0⟩
      case round =>
        clear HT0
        obtain ⟨i, tad, tcap, hi, rfl, rfl, HT⟩ := hrel
        by_cases hlt : i < m
        · have hlt2 : (i : Int) < (m : Int) := by omega
          obtain ⟨a, cp, c1, r1⟩ := HB.out.2.at HT.out.2 hlt
          rw [HCM.out i hlt] at c1 r1
          obtain ⟨ka, oa, rfl, _⟩ := r1.addr (by omega)
          have c2 := r1.cell hqN
          obtain ⟨L, hL⟩ : ∃ L, N - m = L := ⟨_, rfl⟩
          rw [hL] at c1
          have hqL : (q : Int) < (L : Int) := by omega
          clear r1
          go_wp2_with (at_builtin; go_loud (refine wpList_append_own_at _ rfl _ _ 24 rfl w1.heap.size 3 i0 (.int .i64 0) 1 8 Try.underlying24 hi0 hz0 hz1 hz2 rfl (by decide) (.slice tad i tcap) i (intL (fun j => cmV m N z c j q) i) rfl (row_below HT.out.1 ((Below.refl _ _).alloc (Nat.le_refl _) _)) ⟨wr.heap.size, 0, none⟩ 1 1 [.int .i64 (cmV m N z c i q)] rfl rfl (cell_one_at rfl) (fun u hu => by simp at hu; subst hu; rfl) (by unfold maxLen; omega) (by omega) (by have := HT.out.2.size; simp; omega) ?_; intro v' w5 hown hgrow _ _; rw [← intL_succ (fun j => cmV m N z c j q) i] at hown; obtain ⟨ad5, cap5, rfl⟩ := row_form hown; have HT5 : Hid (w5.ownsRow w1.heap.size 3 1 (.slice ad5 (i + 1) cap5) (i + 1) (intL (fun j => cmV m N z c j q) (i + 1)) ∧ Below w1.heap.size w1 w5) := ⟨hown, Below.grown (HT.out.2.alloc HT.out.2.size _) hgrow (by have := HT.out.2.size; simp; omega) (fun x hx => (HT.out.1.lt x hx).1)⟩; clear hown hgrow))
          go_roundw
          case rel => exact ⟨i + 1, ad5, cap5, by omega, by go_num, rfl, HT5⟩
          case measure => simp [intOf]; omega
        · obtain rfl : m = i := by omega
          have lkk : ¬ (m : Int) < (m : Int) := by omega
          have HX : Hid (TrP N c (m : Int) m ln z pl w (.returned (.tuple #[.slice tad m tcap, .bool true])) wr) := TrP.some HF.out (by
            have := row_lower HT.out.1 HB.out.1.size
            rw [intL_congr (o' := trV N c m z pl) (fun j hj => by rw [HV.out])] at this
            exact this) (bel_on HB.out.1 HT.out.2)
          go_wp2
          go_returns
          exact HX.out
end Go.Proofs.Ytjlniinahfgakaa
