/- Received of the model. -/
import Derived.Test.YtghphlnpginmhaaRh
import Derived.BigRegion
import Derived.Deep.QuietTactic
namespace Go.Proofs.Ytghphlnpginmhaa
open Go.ChangeShapes Go.WideShapes Go.ChangeAt Go.RowKit
set_option linter.unusedVariables false
set_option linter.unusedSimpArgs false

theorem zeros_get (n j : Nat) (h : j < n) : (zeros n)[j]? = some (.int .i64 0) := by
  simp [zeros, madeCells, h, Nat.mod_one]
/-- What stands by in the model: the tolerance in its box, the numbers by line in a row (block X). -/
structure GB (w : World) (X : Nat) (tov tpr tle : Int) (n : Nat) (g : Nat → Int) (cs : Array Value) (W : World) : Prop where
  bl : Below w.heap.size w W
  t : CB W w.heap.size #[.int .i64 tov, .int .i64 tpr, .int .i64 tle] 40
  x : w.heap.size < X
  a : CB W X cs 3
  s : cs.size = n
  g : ∀ j, j < n → cs[j]? = some (.int .i64 (g j))
section
variable {w W W' : World} {X : Nat} {tov tpr tle : Int} {n : Nat} {g : Nat → Int} {cs : Array Value}
theorem GB.below (h : GB w X tov tpr tle n g cs W) (b : Below W.heap.size W W') : GB w X tov tpr tle n g cs W' := ⟨bel_on h.bl b, h.t.below b h.t.lt, h.x, h.a.below b h.a.lt, h.s, h.g⟩
theorem GB.alloc (h : GB w X tov tpr tle n g cs W) (o : Obj) : GB w X tov tpr tle n g cs (W.alloc o) := h.below ((Below.refl _ _).alloc (Nat.le_refl _) o)
theorem GB.drew (h : GB w X tov tpr tle n g cs W) : GB w X tov tpr tle n g cs W.drew := h.below ((Below.refl _ _).drew)
theorem GB.put (h : GB w X tov tpr tle n g cs W) {L : Nat} {y : Int} (hL : L < n) {g' : Nat → Int} (h1 : g' L = y) (h2 : ∀ j, j ≠ L → g' j = g j) : GB w X tov tpr tle n g' (cs.setIfInBounds L (.int .i64 y)) (W.setCell ⟨X, L, none⟩ (.int .i64 y)) := by
  have hx := h.x
  refine ⟨h.bl.setCell (by simp; omega) _, h.t.other _ (by omega), h.x, h.a.set _ _, by simpa using h.s, fun j hj => ?_⟩
  by_cases e : j = L
  · subst e; rw [get_set_eq (by rw [h.s]; exact hj), h1]
  · rw [get_set_ne (by omega), h2 j e]; exact h.g j hj
theorem GB.row (h : GB w X tov tpr tle n g cs W) (hn : n ≤ 1048576) : W.ownsRow w.heap.size 3 1 (.slice (some ⟨X, 0, none⟩) n n) n (intL g n) := by
  have e : cs.toList = intL g n := by
    apply List.ext_getElem?
    intro j
    by_cases hj : j < n
    · rw [intL_get hj]; simpa using h.g j hj
    · rw [List.getElem?_eq_none (by simp [h.s]; omega), List.getElem?_eq_none (by rw [intL_len]; omega)]
  rw [← e]
  exact row_of_block h.a h.s (by have := h.x; omega) hn
end

set_option maxRecDepth 20000 in
set_option maxHeartbeats 8000000 in
theorem specRec_any (ad : Option Addr) (len cap : Nat) (c : Nat → OL3) (ar : Option Addr) (nr rcap : Nat) (rc : Nat → RC2) (tov tpr tle : Int) (w : World) (hl : (len : Int) ≤ 1048576) (hn : (nr : Int) ≤ 1048576) (hs : ∀ j, (c j).item.size ≤ maxLen) (hr : OLr w ad len c) (hrr : RCr w ar nr rc) :
    Calls Try.prog 39 #[.slice ad len cap, .slice ar nr rcap, .agg #[.int .i64 tov, .int .i64 tpr, .int .i64 tle]] w fun e w' => ReP len c nr rc tov tpr tle w e w' := by
  have HR : Hid (OLr w ad len c) := hr
  have HRR : Hid (RCr w ar nr rc) := hrr
  have HS : Hid (∀ j, (c j).item.size ≤ maxLen) := hs
  clear hr hrr hs
  cases h1 : orB len c
  · have HV : Hid (reB len c nr tov tpr tle = false) := hid (by simp [reB, h1])
    go_enter Try.func39, Try.ntmps39
    go_wp2_with (first | (go_at_call 34; refine (specOrder_any ad len cap c _ hl HS.out (HR.out.alloc _)).mono ?_; rintro e w1 ⟨rfl, b1⟩; obtain ⟨C1, B1⟩ := tol_bl b1; have HT1 : Hid (CB w1 w.heap.size #[.int .i64 tov, .int .i64 tpr, .int .i64 tle] 40) := C1; have HB1 : Hid (Below w.heap.size w w1) := B1; clear b1 C1 B1; have x0 := (HT1.out.cell 0).trans rfl; have x1 := (HT1.out.cell 1).trans rfl; have x2 := (HT1.out.cell 2).trans rfl) | (go_at_call 104; refine (l12Tol_any tov tpr tle _).mono ?_; rintro e w2 ⟨rfl, b2⟩; have HT2 : Hid (CB w2 w.heap.size #[.int .i64 tov, .int .i64 tpr, .int .i64 tle] 40) := HT1.out.below b2 HT1.out.lt; have HB2 : Hid (Below w.heap.size w w2) := bel_on HB1.out b2; clear b2; replace x0 := (HT2.out.cell 0).trans rfl; replace x1 := (HT2.out.cell 1).trans rfl; replace x2 := (HT2.out.cell 2).trans rfl))
    go_returns
    exact re_none (reT_no HV.out).1 (reT_no HV.out).2 HB1.out
  have HOR : Hid (OrP len c) := hid (orB_p h1)
  cases h2 : tolB tov tpr tle
  · have HV : Hid (reB len c nr tov tpr tle = false) := hid (by simp [reB, h2])
    go_enter Try.func39, Try.ntmps39
    go_wp2_with (first | (go_at_call 34; refine (specOrder_any ad len cap c _ hl HS.out (HR.out.alloc _)).mono ?_; rintro e w1 ⟨rfl, b1⟩; obtain ⟨C1, B1⟩ := tol_bl b1; have HT1 : Hid (CB w1 w.heap.size #[.int .i64 tov, .int .i64 tpr, .int .i64 tle] 40) := C1; have HB1 : Hid (Below w.heap.size w w1) := B1; clear b1 C1 B1; have x0 := (HT1.out.cell 0).trans rfl; have x1 := (HT1.out.cell 1).trans rfl; have x2 := (HT1.out.cell 2).trans rfl) | (go_at_call 104; refine (l12Tol_any tov tpr tle _).mono ?_; rintro e w2 ⟨rfl, b2⟩; have HT2 : Hid (CB w2 w.heap.size #[.int .i64 tov, .int .i64 tpr, .int .i64 tle] 40) := HT1.out.below b2 HT1.out.lt; have HB2 : Hid (Below w.heap.size w w2) := bel_on HB1.out b2; clear b2; replace x0 := (HT2.out.cell 0).trans rfl; replace x1 := (HT2.out.cell 1).trans rfl; replace x2 := (HT2.out.cell 2).trans rfl))
    go_returns
    exact re_none (reT_no HV.out).1 (reT_no HV.out).2 HB2.out
  by_cases h3 : 400 < (nr : Int)
  · have HV : Hid (reB len c nr tov tpr tle = false) := hid (by simp [reB]; intro _ _; omega)
    go_enter Try.func39, Try.ntmps39
    go_wp2_with (first | (go_at_call 34; refine (specOrder_any ad len cap c _ hl HS.out (HR.out.alloc _)).mono ?_; rintro e w1 ⟨rfl, b1⟩; obtain ⟨C1, B1⟩ := tol_bl b1; have HT1 : Hid (CB w1 w.heap.size #[.int .i64 tov, .int .i64 tpr, .int .i64 tle] 40) := C1; have HB1 : Hid (Below w.heap.size w w1) := B1; clear b1 C1 B1; have x0 := (HT1.out.cell 0).trans rfl; have x1 := (HT1.out.cell 1).trans rfl; have x2 := (HT1.out.cell 2).trans rfl) | (go_at_call 104; refine (l12Tol_any tov tpr tle _).mono ?_; rintro e w2 ⟨rfl, b2⟩; have HT2 : Hid (CB w2 w.heap.size #[.int .i64 tov, .int .i64 tpr, .int .i64 tle] 40) := HT1.out.below b2 HT1.out.lt; have HB2 : Hid (Below w.heap.size w w2) := bel_on HB1.out b2; clear b2; replace x0 := (HT2.out.cell 0).trans rfl; replace x1 := (HT2.out.cell 1).trans rfl; replace x2 := (HT2.out.cell 2).trans rfl))
    go_returns
    exact re_none (reT_no HV.out).1 (reT_no HV.out).2 HB2.out
  have h4 : (nr : Int) ≤ 400 := by omega
  have HV : Hid (reB len c nr tov tpr tle = true) := hid (by simp [reB, h1, h2]; omega)
  have hl6 : (len : Int) ≤ 60 := by have := HOR.out.2.1; omega
  have hl1 : (1 : Int) ≤ (len : Int) := by have := HOR.out.1; omega
  clear h3
  have hmk := mkI len hl
  go_enter Try.func39, Try.ntmps39
  go_wp2_with (first | (go_at_call 34; refine (specOrder_any ad len cap c _ hl HS.out (HR.out.alloc _)).mono ?_; rintro e w1 ⟨rfl, b1⟩; obtain ⟨C1, B1⟩ := tol_bl b1; have HT1 : Hid (CB w1 w.heap.size #[.int .i64 tov, .int .i64 tpr, .int .i64 tle] 40) := C1; have HB1 : Hid (Below w.heap.size w w1) := B1; clear b1 C1 B1; have x0 := (HT1.out.cell 0).trans rfl; have x1 := (HT1.out.cell 1).trans rfl; have x2 := (HT1.out.cell 2).trans rfl) | (go_at_call 104; refine (l12Tol_any tov tpr tle _).mono ?_; rintro e w2 ⟨rfl, b2⟩; have HT2 : Hid (CB w2 w.heap.size #[.int .i64 tov, .int .i64 tpr, .int .i64 tle] 40) := HT1.out.below b2 HT1.out.lt; have HB2 : Hid (Below w.heap.size w w2) := bel_on HB1.out b2; clear b2; replace x0 := (HT2.out.cell 0).trans rfl; replace x1 := (HT2.out.cell 1).trans rfl; replace x2 := (HT2.out.cell 2).trans rfl))
  clear x0 x1 x2 hmk h1 h2
  obtain ⟨X, hX⟩ : ∃ X, w2.heap.size = X := ⟨_, rfl⟩
  have HG0 : Hid (GB w X tov tpr tle len (gS rc 0) (zeros len) (w2.alloc (.cells (zeros len) 3 (0, 0)))) := hid ⟨HB2.out.alloc HB2.out.size _, HT2.out.alloc _, by have := HT2.out.lt; omega, CB.newAt hX _ _, zeros_size _, fun j hj => zeros_get len j hj⟩
  rw [hX]
  clear hX
  go_loopw [9] (fun i wr => ∃ (k : Nat) (cs : Array Value), k ≤ nr ∧ i = .int .i64 (k : Int) ∧ Hid (GB w X tov tpr tle len (gS rc k) cs wr ∧ ∀ j, j < k → rcB len c rc tov j = true)) (fun i _ => nr - (intOf i).toNat)
  case atStart => exact ⟨0, _, Nat.zero_le _, rfl, ⟨HG0.out, fun j hj => by omega⟩⟩
  case round =>
    obtain ⟨k, cs, hk, rfl, HG⟩ := hrel
    obtain ⟨wo, rfl⟩ : ∃ x, x = wr := ⟨wr, rfl⟩
    by_cases hlt : k < nr
    · have hlt2 : (k : Int) < (nr : Int) := by omega
      obtain ⟨kb, off, rfl, hkb⟩ := HRR.out.addr (by omega)
      have k0 := (HRR.out.below HG.out.1.bl).cell hlt
      obtain ⟨e, he⟩ : ∃ e, rc k = e := ⟨_, rfl⟩
      rw [he] at k0
      obtain ⟨ln, q⟩ := e
      have HX : Hid (rc k = ⟨ln, q⟩) := he
      obtain ⟨c0, c1⟩ := k0
      simp only at c0 c1
      clear he
      have HP1 : Hid (rcB len c rc tov k = false → reT len c nr rc tov tpr tle = (k : Int) ∧ reM len c nr rc tov tpr tle = 0) := hid (fun h => by
        have := told_bad hlt HG.out.2 h
        exact ⟨(reT_yes HV.out).trans this, reM_no HV.out (by rw [this]; omega)⟩)
      have HG1 : Hid (GB w X tov tpr tle len (gS rc k) cs (wo.alloc (.cells #[.int .i64 ln, .int .i64 q] 157 (0, 0)))) := hid (HG.out.1.alloc _)
      cases hp : inB ln 0 ((len : Int) - 1)
      · have HT := HP1.out (rcB_1 HX.out hp)
        have HT : Hid (reT len c nr rc tov tpr tle = (k : Int) ∧ reM len c nr rc tov tpr tle = 0) := HT
        go_wp2_with (go_at_call 67; refine (l1In_any _ _ _ _).mono ?_; rintro e w5 ⟨rfl, ew⟩; replace ew := ew.symm; subst ew)
        go_returns
        exact re_none_at (by simp) HT.out.1 HT.out.2 HG1.out.bl
      have hp2 := inB_t hp
      cases hq : inB q (-1000000) 1000000
      · have HT : Hid (reT len c nr rc tov tpr tle = (k : Int) ∧ reM len c nr rc tov tpr tle = 0) := HP1.out (rcB_2 HX.out hq)
        go_wp2_with (go_at_call 67; refine (l1In_any _ _ _ _).mono ?_; rintro e w5 ⟨rfl, ew⟩; replace ew := ew.symm; subst ew)
        go_returns
        exact re_none_at (by simp) HT.out.1 HT.out.2 HG1.out.bl
      have hq2 := inB_t hq
      obtain ⟨L, rfl⟩ : ∃ L : Nat, ln = (L : Int) := ⟨ln.toNat, by omega⟩
      have hL : L < len := by omega
      have hC : CB (wo.alloc (.cells #[.int .i64 (L : Int), .int .i64 q] 157 (0, 0))) wo.heap.size #[.int .i64 (L : Int), .int .i64 q] 157 := CB.new _ _
      have hlo := HG.out.1.a.lt
      go_wp2_with (go_at_call 67; refine (l1In_any _ _ _ _).mono ?_; rintro e w5 ⟨rfl, ew⟩; replace ew := ew.symm; subst ew)
      have hG := HG1.out
      clear c0 c1
      generalize wo.alloc (.cells #[.int .i64 (L : Int), .int .i64 q] 157 (0, 0)) = W1 at hC hG ⊢
      obtain ⟨B, hB⟩ : ∃ B, wo.heap.size = B := ⟨_, rfl⟩
      rw [hB] at hC hlo ⊢
      clear hB HG1 hp hq
      obtain ⟨ka, ofa, rfl, hka⟩ := HR.out.addr (by omega)
      obtain ⟨_, o1, _⟩ := (HR.out.below hG.bl).cell hL
      obtain ⟨V, hV⟩ : ∃ V, (c L).qty = V := ⟨_, rfl⟩
      rw [hV] at o1
      have hVb := (olB_p (HOR.out.2.2 L hL)).2.1
      rw [hV] at hVb
      have hDb := md_abs V tov 1000 1
      have HMD : Hid (∀ W, Calls Try.prog 83 #[.int .i64 V, .int .i64 tov, .int .i64 1000, .int .i64 1] W fun e w' => e = .returned (.tuple #[.int .i64 (mdV V tov 1000 1), .bool (mdB V tov 1000 1)]) ∧ w' = W) := fun W => specMulDiv_any V tov 1000 1 W
      obtain ⟨D, hD⟩ : ∃ D, mdV V tov 1000 1 = D := ⟨_, rfl⟩
      obtain ⟨DB, hDB⟩ : ∃ D, mdB V tov 1000 1 = D := ⟨_, rfl⟩
      rw [hD, hDB] at HMD
      rw [hD] at hDb
      have HM : Hid (mostV (c L).qty tov = V + D) := hid (by unfold mostV; rw [hV, hD])
      have HVV : Hid ((c L).qty = V) := hV
      clear hD hDB hV
      have d0 := (hC.cell 0).trans rfl
      have d1 := (hC.cell 1).trans rfl
      have t0 := (hG.t.cell 0).trans rfl
      have HHC : Hid (CB W1 B #[.int .i64 (L : Int), .int .i64 q] 157) := hC
      have HHG : Hid (GB w X tov tpr tle len (gS rc k) cs W1) := hG
      have HLO : Hid (X < B) := hlo
      have hLl : (L : Int) < (len : Int) := by omega
      have hL0 : (0 : Int) ≤ (L : Int) := by omega
      clear hC hG hlo
      go_quiet (first | (go_at_call 83; exact Calls.quiet_of_same (HMD.out _)))
      have hG : GB w X tov tpr tle len (gS rc k) cs (W1.drewN nq) := HHG.out.below (bd_N (Below.refl _ _) _)
      have hC : CB (W1.drewN nq) B #[.int .i64 (L : Int), .int .i64 q] 157 := HHC.out
      clear d0 d1 t0 o1 HHC HHG
      generalize W1.drewN nq = W2 at hG hC ⊢
      obtain ⟨G, hGv⟩ : ∃ G, gS rc k L = G := ⟨_, rfl⟩
      have hGb := gS_bd HOR.out.2.2 HG.out.2 L
      rw [hGv] at hGb
      have d0 := (hC.cell 0).trans rfl
      have d1 := (hC.cell 1).trans rfl
      have a0 : W2.cell? ⟨X, L, none⟩ = some (.int .i64 G) := by rw [hG.a.cell, hG.g L (by omega), hGv]
      have f0 := hG.a.fr L
      have hw : IntKind.i64.wrap (G + q) = G + q := IntWalk.i64_in _ ⟨by omega, by omega⟩
      have HHC : Hid (CB W2 B #[.int .i64 (L : Int), .int .i64 q] 157) := hC
      have HHG : Hid (GB w X tov tpr tle len (gS rc k) cs W2) := hG
      have HGV : Hid (gS rc k L = G) := hGv
      clear hC hG hGv
      go_wp2
      go_region
      have hG2 : GB w X tov tpr tle len (gS rc (k + 1)) (cs.setIfInBounds L (.int .i64 (G + q))) (W2.setCell ⟨X, L, none⟩ (.int .i64 (G + q))).drew := (HHG.out.put (by omega) (by rw [gS_hit HX.out, HGV.out]) (fun j hj => gS_miss HX.out hj)).drew
      have hC2 : CB (W2.setCell ⟨X, L, none⟩ (.int .i64 (G + q))).drew B #[.int .i64 (L : Int), .int .i64 q] 157 := HHC.out.other _ (by have := HLO.out; omega)
      have a2 : (W2.setCell ⟨X, L, none⟩ (.int .i64 (G + q))).drew.cell? ⟨X, L, none⟩ = some (.int .i64 (G + q)) := (hG2.a.cell L).trans (get_set_eq (by rw [HHG.out.s]; omega))
      clear d0 d1 a0 f0 HHC HHG
      generalize (W2.setCell ⟨X, L, none⟩ (.int .i64 (G + q))).drew = W3 at hG2 hC2 a2 ⊢
      generalize cs.setIfInBounds L (.int .i64 (G + q)) = cs2 at hG2
      obtain ⟨Y, hY⟩ : ∃ Y, G + q = Y := ⟨_, rfl⟩
      have HY : Hid (gS rc k L + q = Y) := hid (by rw [HGV.out]; exact hY)
      have hYb : -1000000 ≤ Y ∧ Y ≤ 300000000000 := by omega
      rw [hY] at a2 ⊢
      clear hw hY
      obtain ⟨_, o1, _⟩ := (HR.out.below hG2.bl).cell hL
      have HIM : Hid (inB (gS rc k L + q) 0 (mostV (c L).qty tov) = inB Y 0 (V + D)) := hid (by rw [HY.out, HM.out])
      have HOV : Hid ((c L).qty = V) := HVV
      rw [HOV.out] at o1
      have d0 := (hC2.cell 0).trans rfl
      have hwv : IntKind.i64.wrap (V + D) = V + D := IntWalk.i64_in _ ⟨by omega, by omega⟩
      have HG1 : Hid (GB w X tov tpr tle len (gS rc (k + 1)) cs2 W3) := hG2
      clear hC2 hG2
      by_cases hneg : Y < 0
      · have HT : Hid (reT len c nr rc tov tpr tle = (k : Int) ∧ reM len c nr rc tov tpr tle = 0) := HP1.out (rcB_3 HX.out (by rw [HIM.out]; unfold inB; exact decide_eq_false (by omega)))
        have hdn : decide (Y < 0) = true := decide_eq_true hneg
        go_wp2
        go_quiet (fail)
        have HG1 : Hid (GB w X tov tpr tle len (gS rc (k + 1)) cs2 (W3.drewN nq)) := hid (HG1.out.below (bd_N (Below.refl _ _) _))
        generalize W3.drewN nq = W5 at HG1 ⊢
        go_wp2
        go_returns
        exact re_none_at (by simp) HT.out.1 HT.out.2 HG1.out.bl
      have hdn : decide (Y < 0) = false := decide_eq_false hneg
      by_cases hmo : V + D < Y
      · have HT : Hid (reT len c nr rc tov tpr tle = (k : Int) ∧ reM len c nr rc tov tpr tle = 0) := HP1.out (rcB_3 HX.out (by rw [HIM.out]; unfold inB; exact decide_eq_false (by omega)))
        have hdm : decide (V + D < Y) = true := decide_eq_true hmo
        go_wp2
        go_quiet (fail)
        have HG1 : Hid (GB w X tov tpr tle len (gS rc (k + 1)) cs2 (W3.drewN nq)) := hid (HG1.out.below (bd_N (Below.refl _ _) _))
        generalize W3.drewN nq = W5 at HG1 ⊢
        go_wp2
        go_returns
        exact re_none_at (by simp) HT.out.1 HT.out.2 HG1.out.bl
      · have hdm : decide (V + D < Y) = false := decide_eq_false hmo
        have HN : Hid (∀ j, j < k + 1 → rcB len c rc tov j = true) := hid (fun j hj => by
          by_cases e : j = k
          · subst e; exact rcB_t HX.out (inB_y (by omega) (by omega)) (inB_y (by omega) (by omega)) (by rw [HIM.out]; exact inB_y (by omega) (by omega))
          · exact HG.out.2 j (by omega))
        go_wp2
        go_quiet (fail)
        have HG1 : Hid (GB w X tov tpr tle len (gS rc (k + 1)) cs2 (W3.drewN nq)) := hid (HG1.out.below (bd_N (Below.refl _ _) _))
        generalize W3.drewN nq = W5 at HG1 ⊢
        go_wp2
        go_roundw
        case rel => exact ⟨k + 1, cs2, by omega, by go_num, HG1.out, HN.out⟩
        case measure => simp [intOf]; omega
    · obtain rfl : k = nr := by omega
      have lkk : ¬ (k : Int) < (k : Int) := by omega
      have HT := told_good HG.out.2
      have HM1 : Hid (reM len c k rc tov tpr tle = len ∧ reT len c k rc tov tpr tle = -1) := hid ⟨reM_yes HV.out HT, (reT_yes HV.out).trans HT⟩
      clear HT
      go_wp2
      go_returns
      refine ⟨some ⟨X, 0, none⟩, len, ?_, ?_, HG.out.1.bl⟩
      · rw [HM1.out.1, HM1.out.2]; rfl
      · rw [HM1.out.1]; exact HG.out.1.row (by omega)

end Go.Proofs.Ytghphlnpginmhaa
