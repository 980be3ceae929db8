/- TaxOf of the model. -/
import Derived.Test.YtbhghghkgojpgaaTo
namespace Go.Proofs.Ytbhghghkgojpgaa
open Go Go.ChangeShapes Go.WideShapes Go.ChangeAt Go.RowKit
set_option linter.unusedVariables false
set_option linter.unusedSimpArgs false

set_option maxRecDepth 20000 in
set_option maxHeartbeats 16000000 in
theorem specTax_any (ad : Option Addr) (n cap : Nat) (c : Nat → T5) (ca : Option Addr) (m ccap : Nat) (cs : Nat → ByteArray) (fa : Option Addr) (f fcap : Nat) (fs : Nat → ByteArray) (p d : Int) (w : World) (hn : (n : Int) ≤ 1048576) (hm : (m : Int) ≤ 1048576) (hf : (f : Int) ≤ 1048576) (hs : ∀ j, (c j).code.size ≤ maxLen) (hcc : m ≤ ccap) (hr : TR w ad n c) (hc : STR w ca m cs) (hfr : STR w fa f fs) :
    Calls Try.prog 11 #[.slice ad n cap, .slice ca m ccap, .slice fa f fcap, .int .i64 p, .int .i64 d] w (TaxS n c m cs f fs p d w) := by
  obtain ⟨i3, hi3, hz30, hz31, hz32⟩ := ainfo3
  obtain ⟨i4, hi4, hz40, hz41, hz42⟩ := info34
  have HR : Hid (TR w ad n c) := hr
  have HC : Hid (STR w ca m cs) := hc
  have HF : Hid (STR w fa f fs) := hfr
  have HS : Hid (∀ j, (c j).code.size ≤ maxLen) := hs
  clear hr hc hfr hs
  have HW0 : Hid (Below w.heap.size w ((w.alloc (.cells #[.int .i64 0, .int .i64 0, .slice none 0 0] 30 (0, 0))).alloc (.cells #[.int .i64 0, .int .i64 0, .slice none 0 0] 30 (0, 0)))) := ((Below.refl _ _).alloc (Nat.le_refl _) _).alloc (by simp) _
  cases ht : trB n c
  case false =>
    have HNP : Hid (¬ TaxP n c m cs f fs p d) := hid (fun H => by rw [trB_t H.1] at ht; cases ht)
    have HT : Hid (trB n c = false) := ht
    clear ht
    go_enter Try.func11, Try.ntmps11
    go_wp2_with (go_at_call 17; refine (specRules_eq _ _ _ c _ hn HS.out (HR.out.below HW0.out) HT.out).mono ?_; rintro e w1 ⟨rfl, b1⟩; have hR : CB w1 w.heap.size #[.int .i64 0, .int .i64 0, .slice none 0 0] 30 := ((CB.new _ _).alloc _).below b1 (by simp; omega); have hN : CB w1 (w.heap.size + 1) #[.int .i64 0, .int .i64 0, .slice none 0 0] 30 := (CB.newAt (by simp) _ _).below b1 (by simp); have r0 := (hR.cell 0).trans rfl; have rf0 := hR.fr 0; have n0 := (hN.cell 0).trans rfl; have r1 := (hR.cell 1).trans rfl; have rf1 := hR.fr 1; have n1 := (hN.cell 1).trans rfl; have r2 := (hR.cell 2).trans rfl; have rf2 := hR.fr 2; have n2 := (hN.cell 2).trans rfl; have HCR : Hid (CB w1 w.heap.size #[.int .i64 0, .int .i64 0, .slice none 0 0] 30) := hR; have HCN : Hid (CB w1 (w.heap.size + 1) #[.int .i64 0, .int .i64 0, .slice none 0 0] 30) := hN; clear hR hN; have HBW : Hid (Below w.heap.size w w1) := bel_on HW0.out b1; clear b1)
    have hX := ((HCR.out.set 0 (.int .i64 0)).set 1 (.int .i64 0)).set 2 (.slice none 0 0)
    have hZ := ((HBW.out.setCell (p := ⟨w.heap.size, 0, none⟩) (by simp) (.int .i64 0)).setCell (p := ⟨w.heap.size, 1, none⟩) (by simp) (.int .i64 0)).setCell (p := ⟨w.heap.size, 2, none⟩) (by simp) (.slice none 0 0)
    have e0 := hX.cell 0
    have e1 := hX.cell 1
    have e2 := hX.cell 2
    simp at e0 e1 e2
    clear hX r0 r1 r2 rf0 rf1 rf2 n0 n1 n2 
    generalize (World.setCell _ _ _) = W5 at e0 e1 e2 hZ ⊢
    refine bodyPost_ret (by simp [results, Try.results11, go_sem, e0, e1, e2]; try rfl) rfl ?_
    exact ⟨hZ, .inr ⟨HNP.out, rfl⟩⟩
  have HTP : Hid (TrP n c) := trB_iff ht
  have HT : Hid (trB n c = true) := ht
  have hn60 : (n : Int) ≤ 60 := by have := HTP.out.1; omega
  clear ht
  by_cases hm6 : (6 : Int) < (m : Int)
  · have HNP : Hid (¬ TaxP n c m cs f fs p d) := hid (fun H => by have := H.2.1; omega)
    go_enter Try.func11, Try.ntmps11
    go_wp2_with (go_at_call 17; refine (specRules_eq _ _ _ c _ hn HS.out (HR.out.below HW0.out) HT.out).mono ?_; rintro e w1 ⟨rfl, b1⟩; have hR : CB w1 w.heap.size #[.int .i64 0, .int .i64 0, .slice none 0 0] 30 := ((CB.new _ _).alloc _).below b1 (by simp; omega); have hN : CB w1 (w.heap.size + 1) #[.int .i64 0, .int .i64 0, .slice none 0 0] 30 := (CB.newAt (by simp) _ _).below b1 (by simp); have r0 := (hR.cell 0).trans rfl; have rf0 := hR.fr 0; have n0 := (hN.cell 0).trans rfl; have r1 := (hR.cell 1).trans rfl; have rf1 := hR.fr 1; have n1 := (hN.cell 1).trans rfl; have r2 := (hR.cell 2).trans rfl; have rf2 := hR.fr 2; have n2 := (hN.cell 2).trans rfl; have HCR : Hid (CB w1 w.heap.size #[.int .i64 0, .int .i64 0, .slice none 0 0] 30) := hR; have HCN : Hid (CB w1 (w.heap.size + 1) #[.int .i64 0, .int .i64 0, .slice none 0 0] 30) := hN; clear hR hN; have HBW : Hid (Below w.heap.size w w1) := bel_on HW0.out b1; clear b1)
    have hX := ((HCR.out.set 0 (.int .i64 0)).set 1 (.int .i64 0)).set 2 (.slice none 0 0)
    have hZ := ((HBW.out.setCell (p := ⟨w.heap.size, 0, none⟩) (by simp) (.int .i64 0)).setCell (p := ⟨w.heap.size, 1, none⟩) (by simp) (.int .i64 0)).setCell (p := ⟨w.heap.size, 2, none⟩) (by simp) (.slice none 0 0)
    have e0 := hX.cell 0
    have e1 := hX.cell 1
    have e2 := hX.cell 2
    simp at e0 e1 e2
    clear hX r0 r1 r2 rf0 rf1 rf2 n0 n1 n2 
    generalize (World.setCell _ _ _) = W5 at e0 e1 e2 hZ ⊢
    refine bodyPost_ret (by simp [results, Try.results11, go_sem, e0, e1, e2]; try rfl) rfl ?_
    exact ⟨hZ, .inr ⟨HNP.out, rfl⟩⟩
  have hm7 : (m : Int) ≤ 6 := by omega
  clear hm6
  by_cases hf6 : (60 : Int) < (f : Int)
  · have HNP : Hid (¬ TaxP n c m cs f fs p d) := hid (fun H => by have := H.2.2.1; omega)
    go_enter Try.func11, Try.ntmps11
    go_wp2_with (go_at_call 17; refine (specRules_eq _ _ _ c _ hn HS.out (HR.out.below HW0.out) HT.out).mono ?_; rintro e w1 ⟨rfl, b1⟩; have hR : CB w1 w.heap.size #[.int .i64 0, .int .i64 0, .slice none 0 0] 30 := ((CB.new _ _).alloc _).below b1 (by simp; omega); have hN : CB w1 (w.heap.size + 1) #[.int .i64 0, .int .i64 0, .slice none 0 0] 30 := (CB.newAt (by simp) _ _).below b1 (by simp); have r0 := (hR.cell 0).trans rfl; have rf0 := hR.fr 0; have n0 := (hN.cell 0).trans rfl; have r1 := (hR.cell 1).trans rfl; have rf1 := hR.fr 1; have n1 := (hN.cell 1).trans rfl; have r2 := (hR.cell 2).trans rfl; have rf2 := hR.fr 2; have n2 := (hN.cell 2).trans rfl; have HCR : Hid (CB w1 w.heap.size #[.int .i64 0, .int .i64 0, .slice none 0 0] 30) := hR; have HCN : Hid (CB w1 (w.heap.size + 1) #[.int .i64 0, .int .i64 0, .slice none 0 0] 30) := hN; clear hR hN; have HBW : Hid (Below w.heap.size w w1) := bel_on HW0.out b1; clear b1)
    have hX := ((HCR.out.set 0 (.int .i64 0)).set 1 (.int .i64 0)).set 2 (.slice none 0 0)
    have hZ := ((HBW.out.setCell (p := ⟨w.heap.size, 0, none⟩) (by simp) (.int .i64 0)).setCell (p := ⟨w.heap.size, 1, none⟩) (by simp) (.int .i64 0)).setCell (p := ⟨w.heap.size, 2, none⟩) (by simp) (.slice none 0 0)
    have e0 := hX.cell 0
    have e1 := hX.cell 1
    have e2 := hX.cell 2
    simp at e0 e1 e2
    clear hX r0 r1 r2 rf0 rf1 rf2 n0 n1 n2 
    generalize (World.setCell _ _ _) = W5 at e0 e1 e2 hZ ⊢
    refine bodyPost_ret (by simp [results, Try.results11, go_sem, e0, e1, e2]; try rfl) rfl ?_
    exact ⟨hZ, .inr ⟨HNP.out, rfl⟩⟩
  have hf7 : (f : Int) ≤ 60 := by omega
  clear hf6
  cases ha : amt p
  case false =>
    have HNP : Hid (¬ TaxP n c m cs f fs p d) := hid (fun H => by have := H.2.2.2.1; rw [ha] at this; cases this)
    go_enter Try.func11, Try.ntmps11
    go_wp2_with (first | (go_at_call 17; refine (specRules_eq _ _ _ c _ hn HS.out (HR.out.below HW0.out) HT.out).mono ?_; rintro e w1 ⟨rfl, b1⟩; have hR : CB w1 w.heap.size #[.int .i64 0, .int .i64 0, .slice none 0 0] 30 := ((CB.new _ _).alloc _).below b1 (by simp; omega); have hN : CB w1 (w.heap.size + 1) #[.int .i64 0, .int .i64 0, .slice none 0 0] 30 := (CB.newAt (by simp) _ _).below b1 (by simp); have r0 := (hR.cell 0).trans rfl; have rf0 := hR.fr 0; have n0 := (hN.cell 0).trans rfl; have r1 := (hR.cell 1).trans rfl; have rf1 := hR.fr 1; have n1 := (hN.cell 1).trans rfl; have r2 := (hR.cell 2).trans rfl; have rf2 := hR.fr 2; have n2 := (hN.cell 2).trans rfl; have HCR : Hid (CB w1 w.heap.size #[.int .i64 0, .int .i64 0, .slice none 0 0] 30) := hR; have HCN : Hid (CB w1 (w.heap.size + 1) #[.int .i64 0, .int .i64 0, .slice none 0 0] 30) := hN; clear hR hN; have HBW : Hid (Below w.heap.size w w1) := bel_on HW0.out b1; clear b1) | (go_at_call 47; refine (amountS_any _ _).mono ?_; rintro e w4 ⟨rfl, rfl⟩; rw [ha]))
    have hX := ((HCR.out.set 0 (.int .i64 0)).set 1 (.int .i64 0)).set 2 (.slice none 0 0)
    have hZ := ((HBW.out.setCell (p := ⟨w.heap.size, 0, none⟩) (by simp) (.int .i64 0)).setCell (p := ⟨w.heap.size, 1, none⟩) (by simp) (.int .i64 0)).setCell (p := ⟨w.heap.size, 2, none⟩) (by simp) (.slice none 0 0)
    have e0 := hX.cell 0
    have e1 := hX.cell 1
    have e2 := hX.cell 2
    simp at e0 e1 e2
    clear hX r0 r1 r2 rf0 rf1 rf2 n0 n1 n2 
    generalize (World.setCell _ _ _) = W5 at e0 e1 e2 hZ ⊢
    refine bodyPost_ret (by simp [results, Try.results11, go_sem, e0, e1, e2]; try rfl) rfl ?_
    exact ⟨hZ, .inr ⟨HNP.out, rfl⟩⟩
  have HAM : Hid (amt p = true) := ha
  go_enter Try.func11, Try.ntmps11
  go_wp2_with (first | (go_at_call 17; refine (specRules_eq _ _ _ c _ hn HS.out (HR.out.below HW0.out) HT.out).mono ?_; rintro e w1 ⟨rfl, b1⟩; have hR : CB w1 w.heap.size #[.int .i64 0, .int .i64 0, .slice none 0 0] 30 := ((CB.new _ _).alloc _).below b1 (by simp; omega); have hN : CB w1 (w.heap.size + 1) #[.int .i64 0, .int .i64 0, .slice none 0 0] 30 := (CB.newAt (by simp) _ _).below b1 (by simp); have r0 := (hR.cell 0).trans rfl; have rf0 := hR.fr 0; have n0 := (hN.cell 0).trans rfl; have r1 := (hR.cell 1).trans rfl; have rf1 := hR.fr 1; have n1 := (hN.cell 1).trans rfl; have r2 := (hR.cell 2).trans rfl; have rf2 := hR.fr 2; have n2 := (hN.cell 2).trans rfl; have HCR : Hid (CB w1 w.heap.size #[.int .i64 0, .int .i64 0, .slice none 0 0] 30) := hR; have HCN : Hid (CB w1 (w.heap.size + 1) #[.int .i64 0, .int .i64 0, .slice none 0 0] 30) := hN; clear hR hN; have HBW : Hid (Below w.heap.size w w1) := bel_on HW0.out b1; clear b1) | (go_at_call 47; refine (amountS_any _ _).mono ?_; rintro e w4 ⟨rfl, rfl⟩; rw [ha]) | (go_at_call 48; refine (l10Rules_any _ _ _ c _ _ _ cs _ _ _ fs d _ HTP.out (by omega) hf hcc (HR.out.below HBW.out) (HC.out.below HBW.out) (HF.out.below HBW.out)).mono ?_; rintro e w2 ⟨b2, hres⟩; have HB2 : Hid (Below w.heap.size w w2) := bel_on HBW.out b2; have HCR2 : Hid (CB w2 w.heap.size #[.int .i64 0, .int .i64 0, .slice none 0 0] 30) := HCR.out.below b2 HCR.out.lt; have HCN2 : Hid (CB w2 (w.heap.size + 1) #[.int .i64 0, .int .i64 0, .slice none 0 0] 30) := HCN.out.below b2 HCN.out.lt; clear b2 HCR HCN HBW r0 r1 r2 rf0 rf1 rf2 n0 n1 n2; have hR : CB w2 w.heap.size #[.int .i64 0, .int .i64 0, .slice none 0 0] 30 := HCR2.out; have hN : CB w2 (w.heap.size + 1) #[.int .i64 0, .int .i64 0, .slice none 0 0] 30 := HCN2.out; have r0 := (hR.cell 0).trans rfl; have rf0 := hR.fr 0; have n0 := (hN.cell 0).trans rfl; have r1 := (hR.cell 1).trans rfl; have rf1 := hR.fr 1; have n1 := (hN.cell 1).trans rfl; have r2 := (hR.cell 2).trans rfl; have rf2 := hR.fr 2; have n2 := (hN.cell 2).trans rfl; have HCR : Hid (CB w2 w.heap.size #[.int .i64 0, .int .i64 0, .slice none 0 0] 30) := hR; have HCN : Hid (CB w2 (w.heap.size + 1) #[.int .i64 0, .int .i64 0, .slice none 0 0] 30) := hN; clear hR hN; rcases hres with ⟨hU, ua, uc, rfl, hUT⟩ | ⟨hU, ua, ul, uc, rfl⟩))
  rotate_left
  · have HNP : Hid (¬ TaxP n c m cs f fs p d) := hid (fun H => hU H.2.2.2.2.1)
    have HBW : Hid (Below w.heap.size w w2) := HB2
    have hX := ((HCR.out.set 0 (.int .i64 0)).set 1 (.int .i64 0)).set 2 (.slice none 0 0)
    have hZ := ((HBW.out.setCell (p := ⟨w.heap.size, 0, none⟩) (by simp) (.int .i64 0)).setCell (p := ⟨w.heap.size, 1, none⟩) (by simp) (.int .i64 0)).setCell (p := ⟨w.heap.size, 2, none⟩) (by simp) (.slice none 0 0)
    have e0 := hX.cell 0
    have e1 := hX.cell 1
    have e2 := hX.cell 2
    simp at e0 e1 e2
    clear hX r0 r1 r2 rf0 rf1 rf2 n0 n1 n2 
    generalize (World.setCell _ _ _) = W5 at e0 e1 e2 hZ ⊢
    refine bodyPost_ret (by simp [results, Try.results11, go_sem, e0, e1, e2]; try rfl) rfl ?_
    exact ⟨hZ, .inr ⟨HNP.out, rfl⟩⟩
  obtain ⟨u, hu⟩ : ∃ u, usR n c cs f fs d = u := ⟨_, rfl⟩
  rw [hu] at hUT
  have HUE : Hid (usR n c cs f fs d = u) := hu
  have HUO : Hid (UOk u m) := hid (by rw [← hu]; exact u_ok HTP.out hU)
  have HU : Hid (UsP n c m cs d) := hU
  have HUT : Hid (TR w2 ua m u) := hUT
  clear hu hU hUT r0 r1 r2 rf0 rf1 rf2 n0 n1 n2 HCR HCN
  go_loopw [15, 16, 17] (fun wv rv i wr => ∃ (k : Nat) (ra : Option Addr) (rc : Nat) (a : Int), k ≤ m ∧ i = .int .i64 (k : Int) ∧ wv = .int .i64 a ∧ rv = .slice ra k rc ∧ (0 ≤ a ∧ a ≤ 1000000 * (k : Int)) ∧ Hid (a = Sh.sm (wsW u) k ∧ wr.ownsRow w2.heap.size 3 1 (.slice ra k rc) k (Sh.intL (wsW u) k) ∧ Below w2.heap.size w2 wr)) (fun _ _ i _ => m - (intOf i).toNat)
  case atStart => exact ⟨0, _, _, 0, Nat.zero_le _, rfl, rfl, rfl, by omega, rfl, ⟨rfl, .inr ⟨w2.heap.size, 0, #[], rfl, Nat.le_refl _, CB.new _ _, Nat.le_refl _, Nat.zero_le _, rfl, rfl⟩⟩, (Below.refl _ _).alloc (Nat.le_refl _) _⟩
  case round =>
    obtain ⟨k, ra, rc, a, hk, rfl, rfl, rfl, hab, HO⟩ := hrel
    obtain ⟨wo, rfl⟩ : ∃ x, x = wr := ⟨wr, rfl⟩
    by_cases hlt : k < m
    · have hlt2 : (k : Int) < (m : Int) := by omega
      obtain ⟨ub, uo, rfl, hub⟩ := HUT.out.addr (by omega)
      obtain ⟨c0, c1, c2, c3, c4⟩ := (HUT.out.below HO.out.2.2).cell hlt
      have hrt := (HUO.out k hlt).1
      obtain ⟨r, hr⟩ : ∃ r, u k = r := ⟨_, rfl⟩
      have HK : Hid (u k = r) := hr
      rw [hr] at c3 c4 hrt
      obtain ⟨q0, q1, q2, q3, q4⟩ := r
      simp only at c3 c4 hrt
      clear hr c0 c1 c2
      by_cases h3 : q4 = 3
      · have e3 := eq_t h3
        have HWS : Hid (wsW u k = q3) := hid (by unfold wsW; rw [HK.out]; exact if_pos h3)
        clear h3
        go_wp2_with ((at_builtin; go_loud (refine wpList_append_own_at _ rfl _ _ 73 rfl w2.heap.size 3 i3 (.int .i64 0) 1 8 Try.underlying73 hi3 hz30 hz31 hz32 rfl (by decide) (.slice ra k rc) k (Sh.intL (wsW u) k) rfl (arow_keep (w := wo) HO.out.2.1 (by go_grown)) ⟨wo.heap.size, 0, none⟩ 1 1 [.int .i64 q3] rfl rfl (acells_at (by simp)) (fun u hu => by simp at hu; subst hu; rfl) (by unfold maxLen; omega) (by omega) (by have := HO.out.2.2.size; simp; omega) ?_); intro v9 w9 hown hgrow hnil hat; obtain ⟨ra9, rc9, rfl⟩ := arow_form hown; have HOW : Hid (w9.ownsRow w2.heap.size 3 1 (.slice ra9 (k + 1) rc9) (k + 1) (Sh.intL (wsW u) (k + 1))) := hid (by rw [Sh.intL_succ, HWS.out]; exact hown); have HB9 : Hid (Below w2.heap.size w2 w9) := hid (bel_grown (bel_on HO.out.2.2 (by go_grown)) (Nat.le_refl _) hgrow (own_ge HO.out.2.1)); clear hown hgrow hnil hat))
        go_roundw
        case rel => exact ⟨k + 1, ra9, rc9, a + q3, by omega, by go_num, rfl, rfl, by omega, by rw [Sh.sm_succ, HWS.out, HO.out.1], HOW.out, HB9.out⟩
        case measure => simp [intOf]; omega
      · have e3 := eq_f h3
        have HWS : Hid (wsW u k = 0) := hid (by unfold wsW; rw [HK.out]; exact if_neg h3)
        clear h3
        go_wp2_with ((at_builtin; go_loud (refine wpList_append_own_at _ rfl _ _ 73 rfl w2.heap.size 3 i3 (.int .i64 0) 1 8 Try.underlying73 hi3 hz30 hz31 hz32 rfl (by decide) (.slice ra k rc) k (Sh.intL (wsW u) k) rfl (arow_keep (w := wo) HO.out.2.1 (by go_grown)) ⟨wo.heap.size, 0, none⟩ 1 1 [.int .i64 0] rfl rfl (acells_at (by simp)) (fun u hu => by simp at hu; subst hu; rfl) (by unfold maxLen; omega) (by omega) (by have := HO.out.2.2.size; simp; omega) ?_); intro v9 w9 hown hgrow hnil hat; obtain ⟨ra9, rc9, rfl⟩ := arow_form hown; have HOW : Hid (w9.ownsRow w2.heap.size 3 1 (.slice ra9 (k + 1) rc9) (k + 1) (Sh.intL (wsW u) (k + 1))) := hid (by rw [Sh.intL_succ, HWS.out]; exact hown); have HB9 : Hid (Below w2.heap.size w2 w9) := hid (bel_grown (bel_on HO.out.2.2 (by go_grown)) (Nat.le_refl _) hgrow (own_ge HO.out.2.1)); clear hown hgrow hnil hat))
        go_roundw
        case rel => exact ⟨k + 1, ra9, rc9, a, by omega, by go_num, by simp, rfl, by omega, by rw [Sh.sm_succ, HWS.out, HO.out.1]; omega, HOW.out, HB9.out⟩
        case measure => simp [intOf]; omega
    · obtain rfl : k = m := by omega
      have lkk : ¬ (k : Int) < (k : Int) := by omega
      have ha6 := al_bd HUO.out (by omega : k ≤ 6)
      have hal : alW u k = a := HO.out.1.symm
      rw [hal] at ha6
      have HAL : Hid (alW u k = a) := hal
      have hpb := amt_t HAM.out
      obtain ⟨nt, hnt⟩ : ∃ x, netV u k p = x := ⟨_, rfl⟩
      have HNT : Hid (netV u k p = nt) := hnt
      have HMV : Hid (mdV p 100000 (100000 + a) 3 = nt) := hid (by rw [← hnt, ← hal]; rfl)
      have hnb := (net_bd ha6.1 ha6.2 hpb).2
      rw [HMV.out] at hnb
      have HI0 : Hid (IR wo ra k (wsW u)) := hid (Sh.row_IR HO.out.2.1 (fun j hj => Sh.intL_get hj))
      have HW2 : Hid (Below w2.heap.size w2 wo) := HO.out.2.2
      have hk3 : (k : Int) ≤ 1048576 := by omega
      clear hal hnt
      go_wp2_with (first
        | (go_at_call 49; refine (specMulDiv_any _ _ _ _ _).mono ?_; rintro e w3 ⟨rfl, ew⟩; replace ew := ew.symm; subst ew; rw [HMV.out])
        | (go_at_call 50; refine (Sh.specShares_any _ _ _ _ (wsW u) _ hk3 HI0.out).mono ?_; rintro e w5 ⟨wa, wc, rfl, ow, b5⟩; have HWI : Hid (a ≠ 0 → Sh.shM (p - nt) k (wsW u) = k ∧ IR w5 wa k (wiV u k p)) := hid (fun h0 => by have hM : Sh.shM (p - nt) k (wsW u) = k := (by rw [← HNT.out]; exact Sh.shM_ok (sh_ok HUO.out (by omega) HAM.out (by rw [HAL.out]; exact h0))); rw [hM] at ow; exact ⟨hM, Sh.row_IR (z := wiV u k p) ow (fun j hj => by rw [Sh.intL_get hj]; unfold wiV; rw [HAL.out, if_neg h0, HNT.out])⟩); have HB5 : Hid (Below w2.heap.size w2 w5) := bel_on HW2.out b5; clear ow b5))
      have HCR5 : Hid (CB w5 w.heap.size #[.int .i64 0, .int .i64 0, .slice none 0 0] 30) := HCR2.out.below HB5.out HCR2.out.lt
      have HCN5 : Hid (CB w5 (w.heap.size + 1) #[.int .i64 0, .int .i64 0, .slice none 0 0] 30) := HCN2.out.below HB5.out HCN2.out.lt
      have HU5 : Hid (TR w5 ua k u) := HUT.out.below HB5.out
      have HBW5 : Hid (Below w.heap.size w w5) := bel_on HB2.out HB5.out
      obtain ⟨wl, hwl⟩ : ∃ x, Sh.shM (p - nt) k (wsW u) = x := ⟨_, rfl⟩
      rw [hwl] at HWI
      rw [hwl]
      clear hwl HI0 HW2 HO
      go_loopw [23] (fun i wr => ∃ (x : Nat) (pa : Option Addr) (pc : Nat) (g : Int), x ≤ k ∧ i = .int .i64 (x : Int) ∧ CB wr w5.heap.size #[.int .i64 nt, .int .i64 g, .slice pa x pc] 30 ∧ Hid (wr.ownsRow (w5.heap.size + 1) 34 4 (.slice pa x pc) x (fl4 (ptV u nt (wiV u k p)) x) ∧ (∀ j, j < x → lvO (u j) (grV u nt (wiV u k p) j) nt = true) ∧ Below w5.heap.size w5 wr) ∧ Hid (g = grV u nt (wiV u k p) x)) (fun i _ => k - (intOf i).toNat)
      case atStart => exact ⟨0, none, 0, nt, Nat.zero_le _, rfl, CB.new _ _, ⟨⟨rfl, .inl ⟨rfl, rfl⟩⟩, fun j hj => by omega, (Below.refl _ _).alloc (Nat.le_refl _) _⟩, rfl⟩
      case round =>
        obtain ⟨x, pa, pc, g, hx, rfl, hC, HO, HG⟩ := hrel
        obtain ⟨wo2, rfl⟩ : ∃ y, y = wr := ⟨wr, rfl⟩
        by_cases hxl : x < k
        · have hxl2 : (x : Int) < (k : Int) := by omega
          obtain ⟨ub, uo, rfl, hub⟩ := HU5.out.addr (by omega)
          obtain ⟨c0, c1, c2, c3, c4⟩ := (HU5.out.below HO.out.2.2).cell hxl
          obtain ⟨r, hr⟩ : ∃ r, u x = r := ⟨_, rfl⟩
          have HK : Hid (u x = r) := hr
          rw [hr] at c0 c3 c4
          have hkd := (HUO.out x hxl).2
          rw [hr] at hkd
          obtain ⟨q0, q1, q2, q3, kd⟩ := r
          simp only at c0 c3 c4 hkd
          clear hr c1 c2
          have HC2 : Hid (CB wo2 w5.heap.size #[.int .i64 nt, .int .i64 g, .slice pa x pc] 30) := hC
          clear hC
          go_wp2
          refine wp_region_noPanic ?_
          refine wp_region_held_drew (S := fun w' => w'.cell? ⟨ub, uo + x * 5, none⟩ = some (.string q0) ∧ w'.cell? ⟨ub, uo + x * 5 + 4, none⟩ = some (.int .i64 kd)) (by kernel_rfl) (by exact ⟨c0, c4⟩) (fun hHeld => ?_)
          refine wpAnyH_take (i := 0) (oi := { dst := some 105, op := Go.Op.move (Go.Operand.tmp 13), type := 24, pos := "l10_tax.go:77", after := #[], guard := none }) (v := ?_) rfl (by kernel_rfl) (by kernel_rfl) (by kernel_rfl) (fun _ _ _ h => h) (Or.inl ⟨by rfl, ?_⟩) (by assumption) ?_
          rotate_left
          · (intro w hSw; (try dsimp only at hSw); go_simp <;> try with_reducible rfl)
          try simp only [Act.put, List.setIfInBounds_toArray, List.set_cons_zero, List.set_cons_succ]
          refine wpAnyH_take (i := 1) (oi := { dst := some 106, op := Go.Op.move (Go.Operand.tmp 23), type := 3, pos := "l10_tax.go:77", after := #[], guard := none }) (v := ?_) rfl (by kernel_rfl) (by kernel_rfl) (by kernel_rfl) (fun _ _ _ h => h) (Or.inl ⟨by rfl, ?_⟩) (by assumption) ?_
          rotate_left
          · (intro w hSw; (try dsimp only at hSw); go_simp <;> try with_reducible rfl)
          try simp only [Act.put, List.setIfInBounds_toArray, List.set_cons_zero, List.set_cons_succ]
          refine wpAnyH_take (i := 2) (oi := { dst := some 107, op := Go.Op.indexAddr 24 (Go.Operand.tmp 105) (Go.Operand.tmp 106), type := 0, pos := "l10_tax.go:77", after := #[{ on := 0, ground := Go.Ground.data }, { on := 1, ground := Go.Ground.data }], guard := none }) (v := ?_) rfl (by kernel_rfl) (by kernel_rfl) (by kernel_rfl) (fun _ _ _ h => h) (Or.inl ⟨by rfl, ?_⟩) (by assumption) ?_
          rotate_left
          · (intro w hSw; (try dsimp only at hSw); go_simp <;> try with_reducible rfl)
          try simp only [Act.put, List.setIfInBounds_toArray, List.set_cons_zero, List.set_cons_succ]
          refine wpAnyH_take (i := 3) (oi := { dst := some 108, op := Go.Op.fieldAddr 79 (Go.Operand.tmp 107) 0, type := 0, pos := "l10_tax.go:77", after := #[{ on := 2, ground := Go.Ground.data }], guard := none }) (v := ?_) rfl (by kernel_rfl) (by kernel_rfl) (by kernel_rfl) (fun _ _ _ h => h) (Or.inl ⟨by rfl, ?_⟩) (by assumption) ?_
          rotate_left
          · (intro w hSw; (try dsimp only at hSw); go_simp <;> try with_reducible rfl)
          try simp only [Act.put, List.setIfInBounds_toArray, List.set_cons_zero, List.set_cons_succ]
          refine wpAnyH_take (i := 4) (oi := { dst := some 109, op := Go.Op.load 9 (Go.Operand.tmp 108), type := 9, pos := "l10_tax.go:77", after := #[{ on := 3, ground := Go.Ground.data }], guard := none }) (v := ?_) rfl (by kernel_rfl) (by kernel_rfl) (by kernel_rfl) (fun _ _ _ h => h) (Or.inl ⟨by rfl, ?_⟩) (by assumption) ?_
          rotate_left
          · (intro w hSw; (try dsimp only at hSw); go_simp <;> try with_reducible rfl)
          try simp only [Act.put, List.setIfInBounds_toArray, List.set_cons_zero, List.set_cons_succ]
          refine wpAnyH_take (i := 5) (oi := { dst := some 110, op := Go.Op.move (Go.Operand.tmp 13), type := 24, pos := "l10_tax.go:77", after := #[], guard := none }) (v := ?_) rfl (by kernel_rfl) (by kernel_rfl) (by kernel_rfl) (fun _ _ _ h => h) (Or.inl ⟨by rfl, ?_⟩) (by assumption) ?_
          rotate_left
          · (intro w hSw; (try dsimp only at hSw); go_simp <;> try with_reducible rfl)
          try simp only [Act.put, List.setIfInBounds_toArray, List.set_cons_zero, List.set_cons_succ]
          refine wpAnyH_take (i := 6) (oi := { dst := some 111, op := Go.Op.move (Go.Operand.tmp 23), type := 3, pos := "l10_tax.go:77", after := #[], guard := none }) (v := ?_) rfl (by kernel_rfl) (by kernel_rfl) (by kernel_rfl) (fun _ _ _ h => h) (Or.inl ⟨by rfl, ?_⟩) (by assumption) ?_
          rotate_left
          · (intro w hSw; (try dsimp only at hSw); go_simp <;> try with_reducible rfl)
          try simp only [Act.put, List.setIfInBounds_toArray, List.set_cons_zero, List.set_cons_succ]
          refine wpAnyH_take (i := 7) (oi := { dst := some 112, op := Go.Op.indexAddr 24 (Go.Operand.tmp 110) (Go.Operand.tmp 111), type := 0, pos := "l10_tax.go:77", after := #[{ on := 5, ground := Go.Ground.data }, { on := 6, ground := Go.Ground.data }], guard := none }) (v := ?_) rfl (by kernel_rfl) (by kernel_rfl) (by kernel_rfl) (fun _ _ _ h => h) (Or.inl ⟨by rfl, ?_⟩) (by assumption) ?_
          rotate_left
          · (intro w hSw; (try dsimp only at hSw); go_simp <;> try with_reducible rfl)
          try simp only [Act.put, List.setIfInBounds_toArray, List.set_cons_zero, List.set_cons_succ]
          refine wpAnyH_take (i := 8) (oi := { dst := some 113, op := Go.Op.fieldAddr 79 (Go.Operand.tmp 112) 4, type := 0, pos := "l10_tax.go:77", after := #[{ on := 7, ground := Go.Ground.data }], guard := none }) (v := ?_) rfl (by kernel_rfl) (by kernel_rfl) (by kernel_rfl) (fun _ _ _ h => h) (Or.inl ⟨by rfl, ?_⟩) (by assumption) ?_
          rotate_left
          · (intro w hSw; (try dsimp only at hSw); go_simp <;> try with_reducible rfl)
          try simp only [Act.put, List.setIfInBounds_toArray, List.set_cons_zero, List.set_cons_succ]
          refine wpAnyH_take (i := 9) (oi := { dst := some 114, op := Go.Op.load 3 (Go.Operand.tmp 113), type := 3, pos := "l10_tax.go:77", after := #[{ on := 8, ground := Go.Ground.data }], guard := none }) (v := ?_) rfl (by kernel_rfl) (by kernel_rfl) (by kernel_rfl) (fun _ _ _ h => h) (Or.inl ⟨by rfl, ?_⟩) (by assumption) ?_
          rotate_left
          · (intro w hSw; (try dsimp only at hSw); go_simp <;> try with_reducible rfl)
          try simp only [Act.put, List.setIfInBounds_toArray, List.set_cons_zero, List.set_cons_succ]
          refine wpAnyH_take (i := 10) (oi := { dst := some 115, op := Go.Op.move (Go.Operand.tmp 19), type := 3, pos := "l10_tax.go:77", after := #[], guard := none }) (v := ?_) rfl (by kernel_rfl) (by kernel_rfl) (by kernel_rfl) (fun _ _ _ h => h) (Or.inl ⟨by rfl, ?_⟩) (by assumption) ?_
          rotate_left
          · (intro w hSw; (try dsimp only at hSw); go_simp <;> try with_reducible rfl)
          try simp only [Act.put, List.setIfInBounds_toArray, List.set_cons_zero, List.set_cons_succ]
          refine wpAnyH_take (i := 11) (oi := { dst := some 116, op := Go.Op.build 34 #[(0, Go.Operand.tmp 109), (1, Go.Operand.tmp 114), (2, Go.Operand.tmp 115)], type := 34, pos := "l10_tax.go:77", after := #[{ on := 4, ground := Go.Ground.data }, { on := 9, ground := Go.Ground.data }, { on := 10, ground := Go.Ground.data }], guard := none }) (v := ?_) rfl (by kernel_rfl) (by kernel_rfl) (by kernel_rfl) (fun _ _ _ h => h) (Or.inl ⟨by rfl, ?_⟩) (by assumption) ?_
          rotate_left
          · (intro w hSw; (try dsimp only at hSw); go_simp <;> try with_reducible rfl)
          try simp only [Act.put, List.setIfInBounds_toArray, List.set_cons_zero, List.set_cons_succ]
          refine wpAnyH_ready (rs := [12]) (by kernel_rfl) (by simp) ?_
          refine AllReadyH.cons (o := { dst := some 24, op := Go.Op.alloc 34, type := 0, pos := "l10_tax.go:77", after := #[], guard := none }) rfl (fun K hK => ?_) (AllReadyH.nil)
          go_simp
          first | refine hK.out _ _ (by exact ⟨keep_cell ((Below.refl _ _).alloc (Nat.le_refl _) _) (show wo2.drew.cell? _ = _ from c0), keep_cell ((Below.refl _ _).alloc (Nat.le_refl _) _) (show wo2.drew.cell? _ = _ from c4)⟩) (fun hHeld => ?_) | (go_wp2_with fail; refine hK.out _ _ (by exact ⟨keep_cell ((Below.refl _ _).alloc (Nat.le_refl _) _) (show wo2.drew.cell? _ = _ from c0), keep_cell ((Below.refl _ _).alloc (Nat.le_refl _) _) (show wo2.drew.cell? _ = _ from c4)⟩) (fun hHeld => ?_))
          clear hK K
          try simp only [Act.put, List.setIfInBounds_toArray, List.set_cons_zero, List.set_cons_succ]
          refine wpAnyH_ready (rs := [13]) (by kernel_rfl) (by simp) ?_
          refine AllReadyH.cons (o := { dst := none, op := Go.Op.store 34 (Go.Operand.tmp 24) (Go.Operand.tmp 116), type := 0, pos := "l10_tax.go:77", after := #[{ on := 12, ground := Go.Ground.data }, { on := 11, ground := Go.Ground.data }, { on := 0, ground := Go.Ground.phase }, { on := 1, ground := Go.Ground.phase }, { on := 2, ground := Go.Ground.phase }, { on := 3, ground := Go.Ground.phase }, { on := 4, ground := Go.Ground.phase }, { on := 5, ground := Go.Ground.phase }, { on := 6, ground := Go.Ground.phase }, { on := 7, ground := Go.Ground.phase }, { on := 8, ground := Go.Ground.phase }, { on := 9, ground := Go.Ground.phase }, { on := 10, ground := Go.Ground.phase }, { on := 11, ground := Go.Ground.phase }, { on := 12, ground := Go.Ground.phase }], guard := none }) rfl (fun K hK => ?_) (AllReadyH.nil)
          go_simp
          first | refine hK.out _ _ (by exact ⟨keep_cell ((Below.refl _ _).alloc (Nat.le_refl _) _) (show wo2.drew.cell? _ = _ from c0), keep_cell ((Below.refl _ _).alloc (Nat.le_refl _) _) (show wo2.drew.cell? _ = _ from c4)⟩) (fun hHeld => ?_) | (go_wp2_with fail; refine hK.out _ _ (by exact ⟨keep_cell ((Below.refl _ _).alloc (Nat.le_refl _) _) (show wo2.drew.cell? _ = _ from c0), keep_cell ((Below.refl _ _).alloc (Nat.le_refl _) _) (show wo2.drew.cell? _ = _ from c4)⟩) (fun hHeld => ?_))
          clear hK K
          try simp only [Act.put, List.setIfInBounds_toArray, List.set_cons_zero, List.set_cons_succ]
          refine wpAnyH_done (by kernel_rfl) ?_ _
          refine NoPanic.normal ?_
          clear hHeld
          obtain ⟨T0, hT0⟩ : ∃ t : Int, t = 0 := ⟨_, rfl⟩
          have HT0 : Hid (T0 = 0) := hT0
          have hsz5 := HO.out.2.2.size
          have hlt5 := HC2.out.lt
          have Q0 : Hid (PQ w5 wo2.heap.size nt g pa x pc (ptV u nt (wiV u k p)) q0 kd nt T0 (wo2.alloc (.cells #[.string q0, .int .i64 kd, .int .i64 nt, .int .i64 0] 34 (0, 0))).drew) := hid ⟨by rw [hT0]; exact CB.new _ _, HC2.out.alloc _, arow_keep HO.out.1 (by have := (Below.refl wo2.heap.size wo2).alloc (Nat.le_refl _) (.cells #[.string q0, .int .i64 kd, .int .i64 nt, .int .i64 0] 34 (0, 0)); exact this.drew), (HO.out.2.2.alloc hsz5 _).drew, hlt5, fun q hq => by have := (HO.out.1.lt q hq).2; omega⟩
          have z0 : (wo2.alloc (.cells #[.string q0, .int .i64 kd, .int .i64 nt, .int .i64 0] 34 (0, 0))).drew.cell? ⟨ub, uo + x * 5 + 3, none⟩ = some (.int .i64 q3) := keep_cell (W := wo2) (by have := (Below.refl wo2.heap.size wo2).alloc (Nat.le_refl _) (.cells #[.string q0, .int .i64 kd, .int .i64 nt, .int .i64 0] 34 (0, 0)); exact this.drew) c3
          have z1 : Hid (wo2.heap.size < (wo2.alloc (.cells #[.string q0, .int .i64 kd, .int .i64 nt, .int .i64 0] 34 (0, 0))).drew.heap.size) := by show wo2.heap.size < (wo2.alloc _).heap.size; simp
          clear hT0 c0 c3 c4
          generalize hWW : (wo2.alloc (.cells #[.string q0, .int .i64 kd, .int .i64 nt, .int .i64 0] 34 (0, 0))).drew = W at Q0 z0 z1 ⊢
          clear hWW
          have HNE : Hid (∀ q, (Value.slice pa x pc).ownBlock = some q → w5.heap.size + 1 ≤ q) := own_ge HO.out.1
          have HLO : Hid (∀ j, j < x → lvO (u j) (grV u nt (wiV u k p) j) nt = true) := HO.out.2.1
          clear HO HC2
          generalize wo2.heap.size = pb at Q0 z1 hlt5 hsz5 ⊢
          have hgb := gr_bd HUO.out (by omega : k ≤ 6) HAM.out x (by omega)
          rw [HNT.out, ← HG.out] at hgb
          have hub5 : ub ≠ pb ∧ ub ≠ w5.heap.size := ⟨by omega, by omega⟩
          have hk4 : kd = 1 ∨ kd = 2 ∨ kd = 3 ∨ kd = 4 := by omega
          clear hkd
          rcases hk4 with rfl | rfl | rfl | rfl
          · obtain ⟨v, hv⟩ : ∃ v, mdV nt q3 100000 3 = v := ⟨_, rfl⟩
            obtain ⟨b, hb⟩ : ∃ b, mdB nt q3 100000 3 = b := ⟨_, rfl⟩
            have HV : Hid (mdV nt q3 100000 3 = v) := hv
            have HVO : Hid (mdB nt q3 100000 3 = b) := hb
            have hvb := md_abs nt q3 100000 3
            rw [hv] at hvb
            have HMD : Hid (∀ W, Calls Try.prog 49 #[.int .i64 nt, .int .i64 q3, .int .i64 100000, .int .i64 3] W fun e w' => e = .returned (.tuple #[.int .i64 v, .bool b]) ∧ w' = W) := hid (fun W => by have := specMulDiv_any nt q3 100000 3 W; rw [hv, hb] at this; exact this)
            clear hv hb
            have p0 := (Q0.out.cp.cell 0).trans rfl
            have p1 := (Q0.out.cp.cell 1).trans rfl
            have p2 := (Q0.out.cp.cell 2).trans rfl
            have p3 := (Q0.out.cp.cell 3).trans rfl
            have pf2 := Q0.out.cp.fr 2
            have pf3 := Q0.out.cp.fr 3
            have b1 := (Q0.out.cb.cell 1).trans rfl
            have b2 := (Q0.out.cb.cell 2).trans rfl
            have bf1 := Q0.out.cb.fr 1
            go_wp2
            go_quiet (first | (go_at_call 49; exact Calls.quiet_of_same (HMD.out _)))
            have Q1 : Hid (PQ w5 pb nt g pa x pc (ptV u nt (wiV u k p)) q0 1 nt T0 (W.drewN nq)) := Q0.out.dN nq
            have z2 : Hid (pb < (W.drewN nq).heap.size) := by show pb < W.heap.size; have := z1.out; simpa [World.setCell] using this
            clear p0 p1 p2 p3 pf2 pf3 b1 b2 bf1
            clear z0 z1 Q0
            generalize hW4 : W.drewN nq = W2 at Q1 z2 ⊢
            clear hW4
            have z1 : Hid (pb < W2.heap.size) := z2
            cases b
            · have HNP : Hid (¬ TaxP n c k cs f fs p d) := hid (fun H => by have h5 := H.2.2.2.2.2; rw [HUE.out] at h5; have := h5.2.1 x hxl; rw [HNT.out, HK.out, ← HG.out] at this; have t : mdB nt q3 100000 3 = true := this; rw [HVO.out] at t; cases t)
              have hR : CB W2 w.heap.size #[.int .i64 0, .int .i64 0, .slice none 0 0] 30 := HCR5.out.below Q1.out.bel HCR5.out.lt
              have hN : CB W2 (w.heap.size + 1) #[.int .i64 0, .int .i64 0, .slice none 0 0] 30 := HCN5.out.below Q1.out.bel HCN5.out.lt
              have r0 := (hR.cell 0).trans rfl
              have rf0 := hR.fr 0
              have n0 := (hN.cell 0).trans rfl
              have r1 := (hR.cell 1).trans rfl
              have rf1 := hR.fr 1
              have n1 := (hN.cell 1).trans rfl
              have r2 := (hR.cell 2).trans rfl
              have rf2 := hR.fr 2
              have n2 := (hN.cell 2).trans rfl
              have HCR : Hid (CB W2 w.heap.size #[.int .i64 0, .int .i64 0, .slice none 0 0] 30) := hR
              have HCN : Hid (CB W2 (w.heap.size + 1) #[.int .i64 0, .int .i64 0, .slice none 0 0] 30) := hN
              clear hR hN
              have HBW : Hid (Below w.heap.size w W2) := bel_on HBW5.out Q1.out.bel
              go_wp2
              have hX := ((HCR.out.set 0 (.int .i64 0)).set 1 (.int .i64 0)).set 2 (.slice none 0 0)
              have hZ := ((HBW.out.setCell (p := ⟨w.heap.size, 0, none⟩) (by simp) (.int .i64 0)).setCell (p := ⟨w.heap.size, 1, none⟩) (by simp) (.int .i64 0)).setCell (p := ⟨w.heap.size, 2, none⟩) (by simp) (.slice none 0 0)
              have e0 := hX.cell 0
              have e1 := hX.cell 1
              have e2 := hX.cell 2
              simp at e0 e1 e2
              clear hX r0 r1 r2 rf0 rf1 rf2 n0 n1 n2 
              generalize (World.setCell _ _ _) = W5 at e0 e1 e2 hZ ⊢
              refine bodyPost_ret (by simp [results, Try.results11, go_sem, e0, e1, e2]; try rfl) rfl ?_
              exact ⟨hZ, .inr ⟨HNP.out, rfl⟩⟩
            · have HPT : Hid (ptV u nt (wiV u k p) x = ⟨q0, 1, nt, v⟩) := hid (by unfold ptV; rw [← HG.out, HK.out]; show (⟨q0, 1, nt, mdV nt q3 100000 3⟩ : P4) = _; rw [HV.out])
              have HGG : Hid (g + v = grV u nt (wiV u k p) (x + 1)) := hid (by show _ = grV u nt (wiV u k p) x + lvG (u x) (grV u nt (wiV u k p) x) nt (wiV u k p x); rw [← HG.out, HK.out]; show _ = g + mdV nt q3 100000 3; rw [HV.out])
              have HLX : Hid (∀ j, j < x + 1 → lvO (u j) (grV u nt (wiV u k p) j) nt = true) := hid (fun j hj => by by_cases e : j = x; (subst e; rw [← HG.out, HK.out]; exact HVO.out); exact HLO.out j (by omega))
              have p0 := (Q1.out.cp.cell 0).trans rfl
              have p1 := (Q1.out.cp.cell 1).trans rfl
              have p2 := (Q1.out.cp.cell 2).trans rfl
              have p3 := (Q1.out.cp.cell 3).trans rfl
              have pf2 := Q1.out.cp.fr 2
              have pf3 := Q1.out.cp.fr 3
              have b1 := (Q1.out.cb.cell 1).trans rfl
              have b2 := (Q1.out.cb.cell 2).trans rfl
              have bf1 := Q1.out.cb.fr 1
              have QA : Hid (PQ w5 pb nt (g + v) pa x pc (ptV u nt (wiV u k p)) q0 1 nt v ((W2.setCell ⟨pb, 3, none⟩ (.int .i64 v)).setCell ⟨w5.heap.size, 1, none⟩ (.int .i64 (g + v)))) := (Q1.out.setP3 v).setB1 (g + v)
              go_wp2_with ((at_builtin; go_loud (refine wpList_append_own_at _ rfl _ _ 28 rfl (w5.heap.size + 1) 34 i4 (.agg #[.string ByteArray.empty, .int .i64 0, .int .i64 0, .int .i64 0]) 4 40 Try.underlying28 hi4 hz40 hz41 hz42 rfl (by decide) (.slice pa x pc) x (fl4 (ptV u nt (wiV u k p)) x) rfl (arow_keep QA.out.own ((Below.refl _ _).alloc (Nat.le_refl _) _)) ⟨W2.heap.size, 0, none⟩ 1 1 [.string q0, .int .i64 1, .int .i64 nt, .int .i64 v] rfl rfl (acells_at (by simp [World.setCell])) (fun u hu => by simp at hu; rcases hu with rfl | rfl | rfl | rfl <;> rfl) (by unfold maxLen; omega) (by omega) (by have := z1.out; simp [World.setCell]; omega) ?_); intro v9 w9 hown hgrow hnil hat; obtain ⟨pa9, pc9, rfl⟩ := arow_form hown; obtain ⟨C9, B9⟩ := QA.out.grown hgrow; have k2 := (C9.cell 2).trans rfl; have kf2 := C9.fr 2; have HC9 : Hid (CB w9 w5.heap.size #[.int .i64 nt, .int .i64 (g + v), .slice pa x pc] 30) := C9; have HB9 : Hid (Below w5.heap.size w5 w9) := B9; have HOW : Hid (w9.ownsRow (w5.heap.size + 1) 34 4 (.slice pa9 (x + 1) pc9) (x + 1) (fl4 (ptV u nt (wiV u k p)) (x + 1))) := hid (by rw [fl4, HPT.out]; exact hown); clear hown hgrow hnil hat C9 B9))
              go_roundw
              case rel => exact ⟨x + 1, pa9, pc9, g + v, by omega, by go_num, HC9.out.set 2 _, ⟨arow_block HOW.out (fun q hq => Below.heap_setCell _ _ _ _ (by have := own_ge HOW.out q hq; simp; omega)), HLX.out, HB9.out.setCell (Nat.le_refl _) _⟩, HGG⟩
              case measure => simp [intOf]; omega
          · obtain ⟨v, hv⟩ : ∃ v, mdV g q3 100000 3 = v := ⟨_, rfl⟩
            obtain ⟨b, hb⟩ : ∃ b, mdB g q3 100000 3 = b := ⟨_, rfl⟩
            have HV : Hid (mdV g q3 100000 3 = v) := hv
            have HVO : Hid (mdB g q3 100000 3 = b) := hb
            have hvb := md_abs g q3 100000 3
            rw [hv] at hvb
            have HMD : Hid (∀ W, Calls Try.prog 49 #[.int .i64 g, .int .i64 q3, .int .i64 100000, .int .i64 3] W fun e w' => e = .returned (.tuple #[.int .i64 v, .bool b]) ∧ w' = W) := hid (fun W => by have := specMulDiv_any g q3 100000 3 W; rw [hv, hb] at this; exact this)
            clear hv hb
            have p0 := (Q0.out.cp.cell 0).trans rfl
            have p1 := (Q0.out.cp.cell 1).trans rfl
            have p2 := (Q0.out.cp.cell 2).trans rfl
            have p3 := (Q0.out.cp.cell 3).trans rfl
            have pf2 := Q0.out.cp.fr 2
            have pf3 := Q0.out.cp.fr 3
            have b1 := (Q0.out.cb.cell 1).trans rfl
            have b2 := (Q0.out.cb.cell 2).trans rfl
            have bf1 := Q0.out.cb.fr 1
            have q0c : (W.setCell ⟨pb, 2, none⟩ (.int .i64 g)).cell? ⟨pb, 1, none⟩ = some (.int .i64 2) := ((Q0.out.setP2 g).cp.cell 1).trans rfl
            have q1c : (W.setCell ⟨pb, 2, none⟩ (.int .i64 g)).cell? ⟨pb, 2, none⟩ = some (.int .i64 g) := ((Q0.out.setP2 g).cp.cell 2).trans rfl
            have q2c : (W.setCell ⟨pb, 2, none⟩ (.int .i64 g)).cell? ⟨ub, uo + x * 5 + 3, none⟩ = some (.int .i64 q3) := (World.cell?_of_block (w := W) (Below.heap_setCell _ _ _ _ (by simpa using hub5.1))).trans z0
            go_wp2
            clear p0 p1 p2 p3 pf2 pf3 b1 b2 bf1
            generalize hW3 : (W.setCell ⟨pb, 2, none⟩ (.int .i64 g)) = W3 at q0c q1c q2c ⊢
            go_quiet (first | (go_at_call 49; exact Calls.quiet_of_same (HMD.out _)))
            subst hW3
            have Q1 : Hid (PQ w5 pb nt g pa x pc (ptV u nt (wiV u k p)) q0 2 g T0 ((W.setCell ⟨pb, 2, none⟩ (.int .i64 g)).drewN nq)) := (Q0.out.setP2 g).dN nq
            have z2 : Hid (pb < ((W.setCell ⟨pb, 2, none⟩ (.int .i64 g)).drewN nq).heap.size) := by show pb < (W.setCell ⟨pb, 2, none⟩ (.int .i64 g)).heap.size; have := z1.out; simpa [World.setCell] using this
            clear q0c q1c q2c
            clear z0 z1 Q0
            generalize hW4 : (W.setCell ⟨pb, 2, none⟩ (.int .i64 g)).drewN nq = W2 at Q1 z2 ⊢
            clear hW4
            have z1 : Hid (pb < W2.heap.size) := z2
            cases b
            · have HNP : Hid (¬ TaxP n c k cs f fs p d) := hid (fun H => by have h5 := H.2.2.2.2.2; rw [HUE.out] at h5; have := h5.2.1 x hxl; rw [HNT.out, HK.out, ← HG.out] at this; have t : mdB g q3 100000 3 = true := this; rw [HVO.out] at t; cases t)
              have hR : CB W2 w.heap.size #[.int .i64 0, .int .i64 0, .slice none 0 0] 30 := HCR5.out.below Q1.out.bel HCR5.out.lt
              have hN : CB W2 (w.heap.size + 1) #[.int .i64 0, .int .i64 0, .slice none 0 0] 30 := HCN5.out.below Q1.out.bel HCN5.out.lt
              have r0 := (hR.cell 0).trans rfl
              have rf0 := hR.fr 0
              have n0 := (hN.cell 0).trans rfl
              have r1 := (hR.cell 1).trans rfl
              have rf1 := hR.fr 1
              have n1 := (hN.cell 1).trans rfl
              have r2 := (hR.cell 2).trans rfl
              have rf2 := hR.fr 2
              have n2 := (hN.cell 2).trans rfl
              have HCR : Hid (CB W2 w.heap.size #[.int .i64 0, .int .i64 0, .slice none 0 0] 30) := hR
              have HCN : Hid (CB W2 (w.heap.size + 1) #[.int .i64 0, .int .i64 0, .slice none 0 0] 30) := hN
              clear hR hN
              have HBW : Hid (Below w.heap.size w W2) := bel_on HBW5.out Q1.out.bel
              go_wp2
              have hX := ((HCR.out.set 0 (.int .i64 0)).set 1 (.int .i64 0)).set 2 (.slice none 0 0)
              have hZ := ((HBW.out.setCell (p := ⟨w.heap.size, 0, none⟩) (by simp) (.int .i64 0)).setCell (p := ⟨w.heap.size, 1, none⟩) (by simp) (.int .i64 0)).setCell (p := ⟨w.heap.size, 2, none⟩) (by simp) (.slice none 0 0)
              have e0 := hX.cell 0
              have e1 := hX.cell 1
              have e2 := hX.cell 2
              simp at e0 e1 e2
              clear hX r0 r1 r2 rf0 rf1 rf2 n0 n1 n2 
              generalize (World.setCell _ _ _) = W5 at e0 e1 e2 hZ ⊢
              refine bodyPost_ret (by simp [results, Try.results11, go_sem, e0, e1, e2]; try rfl) rfl ?_
              exact ⟨hZ, .inr ⟨HNP.out, rfl⟩⟩
            · have HPT : Hid (ptV u nt (wiV u k p) x = ⟨q0, 2, g, v⟩) := hid (by unfold ptV; rw [← HG.out, HK.out]; show (⟨q0, 2, g, mdV g q3 100000 3⟩ : P4) = _; rw [HV.out])
              have HGG : Hid (g + v = grV u nt (wiV u k p) (x + 1)) := hid (by show _ = grV u nt (wiV u k p) x + lvG (u x) (grV u nt (wiV u k p) x) nt (wiV u k p x); rw [← HG.out, HK.out]; show _ = g + mdV g q3 100000 3; rw [HV.out])
              have HLX : Hid (∀ j, j < x + 1 → lvO (u j) (grV u nt (wiV u k p) j) nt = true) := hid (fun j hj => by by_cases e : j = x; (subst e; rw [← HG.out, HK.out]; exact HVO.out); exact HLO.out j (by omega))
              have p0 := (Q1.out.cp.cell 0).trans rfl
              have p1 := (Q1.out.cp.cell 1).trans rfl
              have p2 := (Q1.out.cp.cell 2).trans rfl
              have p3 := (Q1.out.cp.cell 3).trans rfl
              have pf2 := Q1.out.cp.fr 2
              have pf3 := Q1.out.cp.fr 3
              have b1 := (Q1.out.cb.cell 1).trans rfl
              have b2 := (Q1.out.cb.cell 2).trans rfl
              have bf1 := Q1.out.cb.fr 1
              have QA : Hid (PQ w5 pb nt (g + v) pa x pc (ptV u nt (wiV u k p)) q0 2 g v ((W2.setCell ⟨pb, 3, none⟩ (.int .i64 v)).setCell ⟨w5.heap.size, 1, none⟩ (.int .i64 (g + v)))) := (Q1.out.setP3 v).setB1 (g + v)
              go_wp2_with ((at_builtin; go_loud (refine wpList_append_own_at _ rfl _ _ 28 rfl (w5.heap.size + 1) 34 i4 (.agg #[.string ByteArray.empty, .int .i64 0, .int .i64 0, .int .i64 0]) 4 40 Try.underlying28 hi4 hz40 hz41 hz42 rfl (by decide) (.slice pa x pc) x (fl4 (ptV u nt (wiV u k p)) x) rfl (arow_keep QA.out.own ((Below.refl _ _).alloc (Nat.le_refl _) _)) ⟨W2.heap.size, 0, none⟩ 1 1 [.string q0, .int .i64 2, .int .i64 g, .int .i64 v] rfl rfl (acells_at (by simp [World.setCell])) (fun u hu => by simp at hu; rcases hu with rfl | rfl | rfl | rfl <;> rfl) (by unfold maxLen; omega) (by omega) (by have := z1.out; simp [World.setCell]; omega) ?_); intro v9 w9 hown hgrow hnil hat; obtain ⟨pa9, pc9, rfl⟩ := arow_form hown; obtain ⟨C9, B9⟩ := QA.out.grown hgrow; have k2 := (C9.cell 2).trans rfl; have kf2 := C9.fr 2; have HC9 : Hid (CB w9 w5.heap.size #[.int .i64 nt, .int .i64 (g + v), .slice pa x pc] 30) := C9; have HB9 : Hid (Below w5.heap.size w5 w9) := B9; have HOW : Hid (w9.ownsRow (w5.heap.size + 1) 34 4 (.slice pa9 (x + 1) pc9) (x + 1) (fl4 (ptV u nt (wiV u k p)) (x + 1))) := hid (by rw [fl4, HPT.out]; exact hown); clear hown hgrow hnil hat C9 B9))
              go_roundw
              case rel => exact ⟨x + 1, pa9, pc9, g + v, by omega, by go_num, HC9.out.set 2 _, ⟨arow_block HOW.out (fun q hq => Below.heap_setCell _ _ _ _ (by have := own_ge HOW.out q hq; simp; omega)), HLX.out, HB9.out.setCell (Nat.le_refl _) _⟩, HGG⟩
              case measure => simp [intOf]; omega
          · by_cases a0 : a = 0
            · have ea : ¬ (0 < a) := by omega
              have HWZ : Hid (wiV u k p x = T0) := hid (by unfold wiV; rw [HAL.out, if_pos a0, HT0.out])
              have hT1 : T0 = 0 := HT0.out
              have HPT : Hid (ptV u nt (wiV u k p) x = ⟨q0, 3, nt, T0⟩) := hid (by unfold ptV; rw [← HG.out, HK.out]; show (⟨q0, 3, nt, wiV u k p x⟩ : P4) = _; rw [HWZ.out])
              have HGG : Hid (g + T0 = grV u nt (wiV u k p) (x + 1)) := hid (by show _ = grV u nt (wiV u k p) x + lvG (u x) (grV u nt (wiV u k p) x) nt (wiV u k p x); rw [← HG.out, HK.out]; show _ = g + wiV u k p x; rw [HWZ.out])
              have HLX : Hid (∀ j, j < x + 1 → lvO (u j) (grV u nt (wiV u k p) j) nt = true) := hid (fun j hj => by by_cases e : j = x; (subst e; rw [← HG.out, HK.out]; rfl); exact HLO.out j (by omega))
              have p0 := (Q0.out.cp.cell 0).trans rfl
              have p1 := (Q0.out.cp.cell 1).trans rfl
              have p2 := (Q0.out.cp.cell 2).trans rfl
              have p3 := (Q0.out.cp.cell 3).trans rfl
              have pf2 := Q0.out.cp.fr 2
              have pf3 := Q0.out.cp.fr 3
              have b1 := (Q0.out.cb.cell 1).trans rfl
              have b2 := (Q0.out.cb.cell 2).trans rfl
              have bf1 := Q0.out.cb.fr 1
              have QA : Hid (PQ w5 pb nt (g + T0) pa x pc (ptV u nt (wiV u k p)) q0 3 nt T0 (W.setCell ⟨w5.heap.size, 1, none⟩ (.int .i64 (g + T0)))) := Q0.out.setB1 (g + T0)
              clear hT1 a0
              have hT2 : -1 ≤ T0 ∧ T0 ≤ 1 := by have := HT0.out; omega
              go_wp2_with ((at_builtin; go_loud (refine wpList_append_own_at _ rfl _ _ 28 rfl (w5.heap.size + 1) 34 i4 (.agg #[.string ByteArray.empty, .int .i64 0, .int .i64 0, .int .i64 0]) 4 40 Try.underlying28 hi4 hz40 hz41 hz42 rfl (by decide) (.slice pa x pc) x (fl4 (ptV u nt (wiV u k p)) x) rfl (arow_keep QA.out.own ((Below.refl _ _).alloc (Nat.le_refl _) _)) ⟨W.heap.size, 0, none⟩ 1 1 [.string q0, .int .i64 3, .int .i64 nt, .int .i64 T0] rfl rfl (acells_at (by simp [World.setCell])) (fun u hu => by simp at hu; rcases hu with rfl | rfl | rfl | rfl <;> rfl) (by unfold maxLen; omega) (by omega) (by have := z1.out; simp [World.setCell]; omega) ?_); intro v9 w9 hown hgrow hnil hat; obtain ⟨pa9, pc9, rfl⟩ := arow_form hown; obtain ⟨C9, B9⟩ := QA.out.grown hgrow; have k2 := (C9.cell 2).trans rfl; have kf2 := C9.fr 2; have HC9 : Hid (CB w9 w5.heap.size #[.int .i64 nt, .int .i64 (g + T0), .slice pa x pc] 30) := C9; have HB9 : Hid (Below w5.heap.size w5 w9) := B9; have HOW : Hid (w9.ownsRow (w5.heap.size + 1) 34 4 (.slice pa9 (x + 1) pc9) (x + 1) (fl4 (ptV u nt (wiV u k p)) (x + 1))) := hid (by rw [fl4, HPT.out]; exact hown); clear hown hgrow hnil hat C9 B9))
              go_roundw
              case rel => exact ⟨x + 1, pa9, pc9, g + T0, by omega, by go_num, HC9.out.set 2 _, ⟨arow_block HOW.out (fun q hq => Below.heap_setCell _ _ _ _ (by have := own_ge HOW.out q hq; simp; omega)), HLX.out, HB9.out.setCell (Nat.le_refl _) _⟩, HGG⟩
              case measure => simp [intOf]; omega
            · have ea : 0 < a := by omega
              obtain ⟨hwl, hwi⟩ := HWI.out a0
              subst hwl
              obtain ⟨wb, wof, rfl, hwb⟩ := hwi.addr (by omega)
              have y0 := (hwi.below Q0.out.bel).cell hxl
              have hwbd := wi_bd HUO.out (by omega : wl ≤ 6) HAM.out x hxl
              obtain ⟨ta, hta⟩ : ∃ t, wiV u wl p x = t := ⟨_, rfl⟩
              have HWZ : Hid (wiV u wl p x = ta) := hta
              rw [hta] at y0 hwbd
              have HPT : Hid (ptV u nt (wiV u wl p) x = ⟨q0, 3, nt, ta⟩) := hid (by unfold ptV; rw [← HG.out, HK.out]; show (⟨q0, 3, nt, wiV u wl p x⟩ : P4) = _; rw [HWZ.out])
              have HGG : Hid (g + ta = grV u nt (wiV u wl p) (x + 1)) := hid (by show _ = grV u nt (wiV u wl p) x + lvG (u x) (grV u nt (wiV u wl p) x) nt (wiV u wl p x); rw [← HG.out, HK.out]; show _ = g + wiV u wl p x; rw [HWZ.out])
              have HLX : Hid (∀ j, j < x + 1 → lvO (u j) (grV u nt (wiV u wl p) j) nt = true) := hid (fun j hj => by by_cases e : j = x; (subst e; rw [← HG.out, HK.out]; rfl); exact HLO.out j (by omega))
              have p0 := (Q0.out.cp.cell 0).trans rfl
              have p1 := (Q0.out.cp.cell 1).trans rfl
              have p2 := (Q0.out.cp.cell 2).trans rfl
              have p3 := (Q0.out.cp.cell 3).trans rfl
              have pf2 := Q0.out.cp.fr 2
              have pf3 := Q0.out.cp.fr 3
              have b1 := (Q0.out.cb.cell 1).trans rfl
              have b2 := (Q0.out.cb.cell 2).trans rfl
              have bf1 := Q0.out.cb.fr 1
              have QA : Hid (PQ w5 pb nt (g + ta) pa x pc (ptV u nt (wiV u wl p)) q0 3 nt ta ((W.setCell ⟨pb, 3, none⟩ (.int .i64 ta)).setCell ⟨w5.heap.size, 1, none⟩ (.int .i64 (g + ta)))) := (Q0.out.setP3 ta).setB1 (g + ta)
              clear hta hwi a0
              go_wp2_with ((at_builtin; go_loud (refine wpList_append_own_at _ rfl _ _ 28 rfl (w5.heap.size + 1) 34 i4 (.agg #[.string ByteArray.empty, .int .i64 0, .int .i64 0, .int .i64 0]) 4 40 Try.underlying28 hi4 hz40 hz41 hz42 rfl (by decide) (.slice pa x pc) x (fl4 (ptV u nt (wiV u wl p)) x) rfl (arow_keep QA.out.own ((Below.refl _ _).alloc (Nat.le_refl _) _)) ⟨W.heap.size, 0, none⟩ 1 1 [.string q0, .int .i64 3, .int .i64 nt, .int .i64 ta] rfl rfl (acells_at (by simp [World.setCell])) (fun u hu => by simp at hu; rcases hu with rfl | rfl | rfl | rfl <;> rfl) (by unfold maxLen; omega) (by omega) (by have := z1.out; simp [World.setCell]; omega) ?_); intro v9 w9 hown hgrow hnil hat; obtain ⟨pa9, pc9, rfl⟩ := arow_form hown; obtain ⟨C9, B9⟩ := QA.out.grown hgrow; have k2 := (C9.cell 2).trans rfl; have kf2 := C9.fr 2; have HC9 : Hid (CB w9 w5.heap.size #[.int .i64 nt, .int .i64 (g + ta), .slice pa x pc] 30) := C9; have HB9 : Hid (Below w5.heap.size w5 w9) := B9; have HOW : Hid (w9.ownsRow (w5.heap.size + 1) 34 4 (.slice pa9 (x + 1) pc9) (x + 1) (fl4 (ptV u nt (wiV u wl p)) (x + 1))) := hid (by rw [fl4, HPT.out]; exact hown); clear hown hgrow hnil hat C9 B9))
              go_roundw
              case rel => exact ⟨x + 1, pa9, pc9, g + ta, by omega, by go_num, HC9.out.set 2 _, ⟨arow_block HOW.out (fun q hq => Below.heap_setCell _ _ _ _ (by have := own_ge HOW.out q hq; simp; omega)), HLX.out, HB9.out.setCell (Nat.le_refl _) _⟩, HGG⟩
              case measure => simp [intOf]; omega
          · obtain ⟨v, hv⟩ : ∃ v, mdV nt q3 100000 3 = v := ⟨_, rfl⟩
            obtain ⟨b, hb⟩ : ∃ b, mdB nt q3 100000 3 = b := ⟨_, rfl⟩
            have HV : Hid (mdV nt q3 100000 3 = v) := hv
            have HVO : Hid (mdB nt q3 100000 3 = b) := hb
            have hvb := md_abs nt q3 100000 3
            rw [hv] at hvb
            have HMD : Hid (∀ W, Calls Try.prog 49 #[.int .i64 nt, .int .i64 q3, .int .i64 100000, .int .i64 3] W fun e w' => e = .returned (.tuple #[.int .i64 v, .bool b]) ∧ w' = W) := hid (fun W => by have := specMulDiv_any nt q3 100000 3 W; rw [hv, hb] at this; exact this)
            clear hv hb
            have p0 := (Q0.out.cp.cell 0).trans rfl
            have p1 := (Q0.out.cp.cell 1).trans rfl
            have p2 := (Q0.out.cp.cell 2).trans rfl
            have p3 := (Q0.out.cp.cell 3).trans rfl
            have pf2 := Q0.out.cp.fr 2
            have pf3 := Q0.out.cp.fr 3
            have b1 := (Q0.out.cb.cell 1).trans rfl
            have b2 := (Q0.out.cb.cell 2).trans rfl
            have bf1 := Q0.out.cb.fr 1
            go_wp2
            go_quiet (first | (go_at_call 49; exact Calls.quiet_of_same (HMD.out _)))
            have Q1 : Hid (PQ w5 pb nt g pa x pc (ptV u nt (wiV u k p)) q0 4 nt T0 (W.drewN nq)) := Q0.out.dN nq
            have z2 : Hid (pb < (W.drewN nq).heap.size) := by show pb < W.heap.size; have := z1.out; simpa [World.setCell] using this
            clear p0 p1 p2 p3 pf2 pf3 b1 b2 bf1
            clear z0 z1 Q0
            generalize hW4 : W.drewN nq = W2 at Q1 z2 ⊢
            clear hW4
            have z1 : Hid (pb < W2.heap.size) := z2
            cases b
            · have HNP : Hid (¬ TaxP n c k cs f fs p d) := hid (fun H => by have h5 := H.2.2.2.2.2; rw [HUE.out] at h5; have := h5.2.1 x hxl; rw [HNT.out, HK.out, ← HG.out] at this; have t : mdB nt q3 100000 3 = true := this; rw [HVO.out] at t; cases t)
              have hR : CB W2 w.heap.size #[.int .i64 0, .int .i64 0, .slice none 0 0] 30 := HCR5.out.below Q1.out.bel HCR5.out.lt
              have hN : CB W2 (w.heap.size + 1) #[.int .i64 0, .int .i64 0, .slice none 0 0] 30 := HCN5.out.below Q1.out.bel HCN5.out.lt
              have r0 := (hR.cell 0).trans rfl
              have rf0 := hR.fr 0
              have n0 := (hN.cell 0).trans rfl
              have r1 := (hR.cell 1).trans rfl
              have rf1 := hR.fr 1
              have n1 := (hN.cell 1).trans rfl
              have r2 := (hR.cell 2).trans rfl
              have rf2 := hR.fr 2
              have n2 := (hN.cell 2).trans rfl
              have HCR : Hid (CB W2 w.heap.size #[.int .i64 0, .int .i64 0, .slice none 0 0] 30) := hR
              have HCN : Hid (CB W2 (w.heap.size + 1) #[.int .i64 0, .int .i64 0, .slice none 0 0] 30) := hN
              clear hR hN
              have HBW : Hid (Below w.heap.size w W2) := bel_on HBW5.out Q1.out.bel
              go_wp2
              have hX := ((HCR.out.set 0 (.int .i64 0)).set 1 (.int .i64 0)).set 2 (.slice none 0 0)
              have hZ := ((HBW.out.setCell (p := ⟨w.heap.size, 0, none⟩) (by simp) (.int .i64 0)).setCell (p := ⟨w.heap.size, 1, none⟩) (by simp) (.int .i64 0)).setCell (p := ⟨w.heap.size, 2, none⟩) (by simp) (.slice none 0 0)
              have e0 := hX.cell 0
              have e1 := hX.cell 1
              have e2 := hX.cell 2
              simp at e0 e1 e2
              clear hX r0 r1 r2 rf0 rf1 rf2 n0 n1 n2 
              generalize (World.setCell _ _ _) = W5 at e0 e1 e2 hZ ⊢
              refine bodyPost_ret (by simp [results, Try.results11, go_sem, e0, e1, e2]; try rfl) rfl ?_
              exact ⟨hZ, .inr ⟨HNP.out, rfl⟩⟩
            · have HPT : Hid (ptV u nt (wiV u k p) x = ⟨q0, 4, nt, v⟩) := hid (by unfold ptV; rw [← HG.out, HK.out]; show (⟨q0, 4, nt, mdV nt q3 100000 3⟩ : P4) = _; rw [HV.out])
              have HGG : Hid (g = grV u nt (wiV u k p) (x + 1)) := hid (by show _ = grV u nt (wiV u k p) x + lvG (u x) (grV u nt (wiV u k p) x) nt (wiV u k p x); rw [← HG.out, HK.out]; show g = g + 0; omega)
              have HLX : Hid (∀ j, j < x + 1 → lvO (u j) (grV u nt (wiV u k p) j) nt = true) := hid (fun j hj => by by_cases e : j = x; (subst e; rw [← HG.out, HK.out]; exact HVO.out); exact HLO.out j (by omega))
              have p0 := (Q1.out.cp.cell 0).trans rfl
              have p1 := (Q1.out.cp.cell 1).trans rfl
              have p2 := (Q1.out.cp.cell 2).trans rfl
              have p3 := (Q1.out.cp.cell 3).trans rfl
              have pf2 := Q1.out.cp.fr 2
              have pf3 := Q1.out.cp.fr 3
              have b1 := (Q1.out.cb.cell 1).trans rfl
              have b2 := (Q1.out.cb.cell 2).trans rfl
              have bf1 := Q1.out.cb.fr 1
              have QA : Hid (PQ w5 pb nt g pa x pc (ptV u nt (wiV u k p)) q0 4 nt v (W2.setCell ⟨pb, 3, none⟩ (.int .i64 v))) := Q1.out.setP3 v
              go_wp2_with ((at_builtin; go_loud (refine wpList_append_own_at _ rfl _ _ 28 rfl (w5.heap.size + 1) 34 i4 (.agg #[.string ByteArray.empty, .int .i64 0, .int .i64 0, .int .i64 0]) 4 40 Try.underlying28 hi4 hz40 hz41 hz42 rfl (by decide) (.slice pa x pc) x (fl4 (ptV u nt (wiV u k p)) x) rfl (arow_keep QA.out.own ((Below.refl _ _).alloc (Nat.le_refl _) _)) ⟨W2.heap.size, 0, none⟩ 1 1 [.string q0, .int .i64 4, .int .i64 nt, .int .i64 v] rfl rfl (acells_at (by simp [World.setCell])) (fun u hu => by simp at hu; rcases hu with rfl | rfl | rfl | rfl <;> rfl) (by unfold maxLen; omega) (by omega) (by have := z1.out; simp [World.setCell]; omega) ?_); intro v9 w9 hown hgrow hnil hat; obtain ⟨pa9, pc9, rfl⟩ := arow_form hown; obtain ⟨C9, B9⟩ := QA.out.grown hgrow; have k2 := (C9.cell 2).trans rfl; have kf2 := C9.fr 2; have HC9 : Hid (CB w9 w5.heap.size #[.int .i64 nt, .int .i64 (g), .slice pa x pc] 30) := C9; have HB9 : Hid (Below w5.heap.size w5 w9) := B9; have HOW : Hid (w9.ownsRow (w5.heap.size + 1) 34 4 (.slice pa9 (x + 1) pc9) (x + 1) (fl4 (ptV u nt (wiV u k p)) (x + 1))) := hid (by rw [fl4, HPT.out]; exact hown); clear hown hgrow hnil hat C9 B9))
              go_roundw
              case rel => exact ⟨x + 1, pa9, pc9, g, by omega, by go_num, HC9.out.set 2 _, ⟨arow_block HOW.out (fun q hq => Below.heap_setCell _ _ _ _ (by have := own_ge HOW.out q hq; simp; omega)), HLX.out, HB9.out.setCell (Nat.le_refl _) _⟩, HGG⟩
              case measure => simp [intOf]; omega
        · obtain rfl : x = k := by omega
          have lkx : ¬ (x : Int) < (x : Int) := by omega
          have g0 := (hC.cell 0).trans rfl
          have g1 := (hC.cell 1).trans rfl
          have g2 := (hC.cell 2).trans rfl
          have hR : CB wo2 w.heap.size #[.int .i64 0, .int .i64 0, .slice none 0 0] 30 := HCR5.out.below HO.out.2.2 HCR5.out.lt
          have hN : CB wo2 (w.heap.size + 1) #[.int .i64 0, .int .i64 0, .slice none 0 0] 30 := HCN5.out.below HO.out.2.2 HCN5.out.lt
          have r0 := (hR.cell 0).trans rfl
          have rf0 := hR.fr 0
          have n0 := (hN.cell 0).trans rfl
          have r1 := (hR.cell 1).trans rfl
          have rf1 := hR.fr 1
          have n1 := (hN.cell 1).trans rfl
          have r2 := (hR.cell 2).trans rfl
          have rf2 := hR.fr 2
          have n2 := (hN.cell 2).trans rfl
          have HCR : Hid (CB wo2 w.heap.size #[.int .i64 0, .int .i64 0, .slice none 0 0] 30) := hR
          have HCN : Hid (CB wo2 (w.heap.size + 1) #[.int .i64 0, .int .i64 0, .slice none 0 0] 30) := hN
          clear hR hN
          have HBW : Hid (Below w.heap.size w wo2) := bel_on HBW5.out HO.out.2.2
          have HBB : Hid (CB wo2 w5.heap.size #[.int .i64 nt, .int .i64 g, .slice pa x pc] 30) := hC
          have HPR : Hid (PRow wo2 pa x (ptV u nt (wiV u x p))) := row_PR HO.out.1
          have hrb : w.heap.size + 1 < w5.heap.size := HCN5.out.lt
          have HNB : Hid (∀ q off, pa = some ⟨q, off, none⟩ → q ≠ w.heap.size) := hid (fun q off e => by subst e; have := own_ge HO.out.1 q rfl; omega)
          clear hC
          cases hg : amt g
          · have HNP : Hid (¬ TaxP n c x cs f fs p d) := hid (fun H => by have h5 := H.2.2.2.2.2; rw [HUE.out] at h5; have := h5.2.2; rw [HNT.out, ← HG.out, hg] at this; cases this)
            go_wp2_with (go_at_call 47; refine (amountS_any _ _).mono ?_; rintro e w6 ⟨rfl, rfl⟩; rw [hg])
            have hX := ((HCR.out.set 0 (.int .i64 0)).set 1 (.int .i64 0)).set 2 (.slice none 0 0)
            have hZ := ((HBW.out.setCell (p := ⟨w.heap.size, 0, none⟩) (by simp) (.int .i64 0)).setCell (p := ⟨w.heap.size, 1, none⟩) (by simp) (.int .i64 0)).setCell (p := ⟨w.heap.size, 2, none⟩) (by simp) (.slice none 0 0)
            have e0 := hX.cell 0
            have e1 := hX.cell 1
            have e2 := hX.cell 2
            simp at e0 e1 e2
            clear hX r0 r1 r2 rf0 rf1 rf2 n0 n1 n2 g0 g1 g2
            generalize (World.setCell _ _ _) = W5 at e0 e1 e2 hZ ⊢
            refine bodyPost_ret (by simp [results, Try.results11, go_sem, e0, e1, e2]; try rfl) rfl ?_
            exact ⟨hZ, .inr ⟨HNP.out, rfl⟩⟩
          · have HTX : Hid (TaxP n c x cs f fs p d) := hid ⟨HTP.out, by omega, by omega, HAM.out, HU.out, by rw [HUE.out]; exact ⟨HAM.out, by rw [HNT.out]; exact HO.out.2.1, by rw [HNT.out, ← HG.out]; exact hg⟩⟩
            have HLO : Hid (∀ j, j < x → lvO (u j) (grV u nt (wiV u x p) j) nt = true) := HO.out.2.1
            go_wp2_with (go_at_call 47; refine (amountS_any _ _).mono ?_; rintro e w6 ⟨rfl, rfl⟩; rw [hg])
            go_loop [27] (fun i => ∃ (y : Nat), y ≤ x ∧ i = .int .i64 (y : Int)) (fun i => x - (intOf i).toNat)
            case atStart => exact ⟨0, Nat.zero_le _, rfl⟩
            case round =>
              obtain ⟨y, hy, rfl⟩ := hrel
              by_cases hyl : y < x
              · have hyl2 : (y : Int) < (x : Int) := by omega
                obtain ⟨sb, so, rfl, hsb⟩ := HPR.out.addr (by omega)
                obtain ⟨t0, t1, t2, t3⟩ := HPR.out.cell hyl
                have HT2 : Hid (amt (ptV u nt (wiV u x p) y).base = true) := hid (by
                  have q1 := HLO.out y hyl
                  have q2 := net_bd ha6.1 ha6.2 hpb
                  rw [HMV.out] at q2
                  show amt (lvB (u y) (grV u nt (wiV u x p) y) nt) = true
                  unfold lvO at q1
                  split at q1
                  · rename_i h3
                    have : lvB (u y) (grV u nt (wiV u x p) y) nt = nt := by unfold lvB; rw [if_neg (by omega)]
                    rw [this]
                    exact decide_eq_true (by omega)
                  · unfold mdB at q1
                    simp only [Bool.and_eq_true, decide_eq_true_eq] at q1
                    exact decide_eq_true ⟨q1.1.1, q1.1.2.1⟩)
                have HT3 : Hid (amt (ptV u nt (wiV u x p) y).tax = true) := hid (by
                  have q1 := lv_bd HUO.out (by omega : x ≤ 6) HAM.out (grV u nt (wiV u x p) y) y hyl
                  rw [HNT.out] at q1
                  exact decide_eq_true q1)
                generalize (ptV u nt (wiV u x p) y).base = tb at t2 HT2
                generalize (ptV u nt (wiV u x p) y).tax = tt at t3 HT3
                clear t0 t1
                go_wp2_with (go_at_call 47; refine (amountS_any _ _).mono ?_; rintro e w6 ⟨rfl, rfl⟩; first | rw [HT2.out] | rw [HT3.out])
                go_round
                case rel => exact ⟨y + 1, by omega, by go_num⟩
                case measure => simp [intOf]; omega
              · obtain rfl : y = x := by omega
                have lky : ¬ (y : Int) < (y : Int) := by omega
                go_wp2
                have hX := ((HCR.out.set 0 (.int .i64 nt)).set 1 (.int .i64 g)).set 2 (.slice pa y pc)
                have hZ := ((HBW.out.setCell (p := ⟨w.heap.size, 0, none⟩) (by simp) (.int .i64 nt)).setCell (p := ⟨w.heap.size, 1, none⟩) (by simp) (.int .i64 g)).setCell (p := ⟨w.heap.size, 2, none⟩) (by simp) (.slice pa y pc)
                have hY : PRow _ pa y (ptV u nt (wiV u y p)) := (((HPR.out.other (b := w.heap.size) (o := 0) (.int .i64 nt) HNB.out).other (b := w.heap.size) (o := 1) (.int .i64 g) HNB.out).other (b := w.heap.size) (o := 2) (.slice pa y pc) HNB.out)
                have e0 := hX.cell 0
                have e1 := hX.cell 1
                have e2 := hX.cell 2
                simp at e0 e1 e2
                clear hX r0 r1 r2 rf0 rf1 rf2 n0 n1 n2 g0 g1 g2
                generalize (World.setCell _ _ _) = W5 at e0 e1 e2 hY hZ ⊢
                refine bodyPost_ret (by simp [results, Try.results11, go_sem, e0, e1, e2]; try rfl) rfl ?_
                exact ⟨hZ, .inl ⟨HTX.out, pa, pc, by rw [HUE.out, HNT.out, ← HG.out], by rw [HUE.out, HNT.out]; exact hY⟩⟩
end Go.Proofs.Ytbhghghkgojpgaa
