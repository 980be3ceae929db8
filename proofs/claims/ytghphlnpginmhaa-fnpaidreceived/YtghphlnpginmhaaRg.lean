/- What was received, gathered by line: the program's gatherReceipts. -/
import Derived.Test.YtghphlnpginmhaaRp
import Derived.BigRegion
import Derived.Deep.RegionHeld3
import Derived.Deep.QuietTactic
namespace Go.Proofs.Ytghphlnpginmhaa
open Go.ChangeShapes Go.WideShapes Go.ChangeAt Go.RowKit
set_option linter.unusedVariables false
set_option linter.unusedSimpArgs false

/-- What stands by while receipts are gathered: the tolerance in its box, the answer's box, the numbers by line. -/
structure GA (w : World) (tov tpr tle : Int) (g : Nat → Int) (cs : Array Value) (W : World) : Prop where
  bl : Below w.heap.size w W
  t : CB W w.heap.size #[.int .i64 tov, .int .i64 tpr, .int .i64 tle] 40
  r : CB W (w.heap.size + 1) z60 128
  a : CB W (w.heap.size + 1 + 1) cs 128
  s : cs.size = 60
  g : ∀ j, j < 60 → cs[j]? = some (.int .i64 (g j))
section
variable {w W W' : World} {tov tpr tle : Int} {g : Nat → Int} {cs : Array Value}
theorem GA.below (h : GA w tov tpr tle g cs W) (b : Below W.heap.size W W') : GA w tov tpr tle g cs W' := ⟨bel_on h.bl b, h.t.below b h.t.lt, h.r.below b h.r.lt, h.a.below b h.a.lt, h.s, h.g⟩
theorem GA.alloc (h : GA w tov tpr tle g cs W) (o : Obj) : GA w tov tpr tle g cs (W.alloc o) := h.below ((Below.refl _ _).alloc (Nat.le_refl _) o)
theorem GA.drew (h : GA w tov tpr tle g cs W) : GA w tov tpr tle g cs W.drew := h.below ((Below.refl _ _).drew)
theorem GA.put (h : GA w tov tpr tle g cs W) {L : Nat} {y : Int} (hL : L < 60) {g' : Nat → Int} (h1 : g' L = y) (h2 : ∀ j, j ≠ L → g' j = g j) : GA w tov tpr tle g' (cs.setIfInBounds L (.int .i64 y)) (W.setCell ⟨w.heap.size + 1 + 1, L, none⟩ (.int .i64 y)) := by
  refine ⟨h.bl.setCell (by simp; omega) _, h.t.other _ (by omega), h.r.other _ (by omega), h.a.set _ _, by simpa using h.s, fun j hj => ?_⟩
  by_cases e : j = L
  · subst e; rw [get_set_eq (by rw [h.s]; exact hj), h1]
  · rw [get_set_ne (by omega), h2 j e]; exact h.g j hj
end
theorem one_all {cs : Array Value} {g : Nat → Int} (hs : cs.size = 60) (h : ∀ j, j < 60 → cs[j]? = some (.int .i64 (g j))) : cs.all (·.oneCell') = true := by
  rw [Array.all_eq_true]
  intro i hi
  have := h i (by omega)
  rw [Array.getElem?_eq_getElem hi] at this
  rw [Option.some.inj this]
  rfl
theorem told_bad {len : Nat} {c : Nat → OL3} {nr k : Nat} {rc : Nat → RC2} {ov : Int} (hk : k < nr) (h : ∀ j, j < k → rcB len c rc ov j = true) (g : rcB len c rc ov k = false) : told len c nr rc ov = (k : Int) := by
  unfold told
  rcases fstF_spec (fun k => !rcB len c rc ov k) nr 0 with ⟨h1, h2⟩ | ⟨i, h1, _, h3, h4, h5⟩
  · have := h2 k (by omega) (by omega); simp [g] at this
  · rw [h1]
    have : i = k := by
      rcases Nat.lt_trichotomy i k with q | q | q
      · have := h i q; simp [this] at h4
      · exact q
      · have := h5 k (by omega) q; simp [g] at this
    rw [this]
theorem told_good {len : Nat} {c : Nat → OL3} {nr : Nat} {rc : Nat → RC2} {ov : Int} (h : ∀ j, j < nr → rcB len c rc ov j = true) : told len c nr rc ov = -1 := by
  unfold told
  rcases fstF_spec (fun k => !rcB len c rc ov k) nr 0 with ⟨h1, _⟩ | ⟨i, h1, _, h3, h4, _⟩
  · exact h1
  · have := h i (by omega); simp [this] at h4
theorem ret_ga {cs : Array Value} {a b : Int} (h : a = b) : Ending.returned (.tuple #[.agg cs, .int .i64 a]) = .returned (.tuple #[.agg cs, .int .i64 b]) := by rw [h]

set_option maxRecDepth 20000 in
set_option maxHeartbeats 8000000 in
theorem gather_any (ad : Option Addr) (len cap : Nat) (c : Nat → OL3) (ar : Option Addr) (nr rcap : Nat) (rc : Nat → RC2) (tov tpr tle : Int) (w : World) (hn : (nr : Int) ≤ 1048576) (hl1 : 1 ≤ len) (hl6 : len ≤ 60) (hol : ∀ j, j < len → olB (c j) = true) (hr : OLr w ad len c) (hrr : RCr w ar nr rc) :
    Calls Try.prog 107 #[.slice ad len cap, .slice ar nr rcap, .agg #[.int .i64 tov, .int .i64 tpr, .int .i64 tle]] w fun e w' => ∃ cs, e = .returned (.tuple #[.agg cs, .int .i64 (told len c nr rc tov)]) ∧ cs.size = 60 ∧ cs.all (·.oneCell') = true ∧ (told len c nr rc tov = -1 → ∀ j, j < 60 → cs[j]? = some (.int .i64 (gS rc nr j))) ∧ Below w.heap.size w w' := by
  have HR : Hid (OLr w ad len c) := hr
  have HRR : Hid (RCr w ar nr rc) := hrr
  have HOL : Hid (∀ j, j < len → olB (c j) = true) := hol
  clear hr hrr hol
  go_enter Try.func107, Try.ntmps107
  go_wp2_with (first | ((with_reducible show wpList _ _ _ ((⟨_, Op.alloc 128, _, _, _, _⟩ : Oper) :: _) _ _); refine wpL_alloc rfl rfl ?_) | ((with_reducible show wpList _ _ _ ((⟨_, Op.build 128 _, _, _, _, _⟩ : Oper) :: _) _ _); refine wpL_build rfl rfl ?_) | ((with_reducible show wpList _ _ _ ((⟨_, Op.store 128 (.tmp 8) _, _, _, _, _⟩ : Oper) :: _) _ _); go_loud (refine wpL_store (x := .tmp 8) (g := w.heap.size + 1 + 1) (old := z60) rfl rfl (by simp [Act.eval, Act.put]) rfl (CB.newAt (by simp) z60 _) z60_size z60_size z60_one ?_; rw [setRow_new (by simp)])))
  go_loopw [14] (fun i wr => ∃ (k : Nat) (cs : Array Value), k ≤ nr ∧ i = .int .i64 (k : Int) ∧ Hid (GA w tov tpr tle (gS rc k) cs wr ∧ ∀ j, j < k → rcB len c rc tov j = true)) (fun i _ => nr - (intOf i).toNat)
  case atStart => exact ⟨0, z60, Nat.zero_le _, rfl, ⟨⟨by go_grown, ((CB.new _ _).alloc _).alloc _, (CB.newAt (by simp) _ _).alloc _, CB.newAt (by simp) _ _, z60_size, fun j hj => z60_get hj⟩, fun j hj => by omega⟩⟩
  case round =>
    obtain ⟨k, cs, hk, rfl, HG⟩ := hrel
    obtain ⟨wo, rfl⟩ : ∃ x, x = wr := ⟨wr, rfl⟩
    by_cases hlt : k < nr
    · have hlt2 : (k : Int) < (nr : Int) := by omega
      obtain ⟨kb, off, rfl, hkb⟩ := HRR.out.addr (by omega)
      have k0 := (HRR.out.below HG.out.1.bl).cell hlt
      obtain ⟨e, he⟩ : ∃ e, rc k = e := ⟨_, rfl⟩
      rw [he] at k0
      obtain ⟨ln, q⟩ := e
      have HX : Hid (rc k = ⟨ln, q⟩) := he
      obtain ⟨c0, c1⟩ := k0
      simp only at c0 c1
      clear he
      have HP1 : Hid (rcB len c rc tov k = false → told len c nr rc tov = (k : Int)) := hid (fun h => told_bad hlt HG.out.2 h)
      have HG1 : Hid (GA w tov tpr tle (gS rc k) cs (wo.alloc (.cells #[.int .i64 ln, .int .i64 q] 157 (0, 0)))) := hid (HG.out.1.alloc _)
      cases hp : inB ln 0 ((len : Int) - 1)
      · have HT : Hid ((k : Int) = told len c nr rc tov) := hid (HP1.out (rcB_1 HX.out hp)).symm
        go_wp2_with (first | (go_at_call 90; refine (isPlace_any _ _ _).mono ?_; rintro e w1 ⟨rfl, ew⟩; replace ew := ew.symm; subst ew) | ((with_reducible show wpList _ _ _ ((⟨_, Op.build 128 _, _, _, _, _⟩ : Oper) :: _) _ _); refine wpL_build rfl rfl ?_) | ((with_reducible show wpList _ _ _ ((⟨_, Op.store 128 (.tmp 6) _, _, _, _, _⟩ : Oper) :: _) _ _); go_loud (refine wpL_store (x := .tmp 6) (g := w.heap.size + 1) (old := z60) rfl rfl (by simp [Act.eval, Act.put]) rfl HG1.out.r z60_size z60_size z60_one ?_; have hRR := HG1.out.r.setRow (cs := z60); have hBB := bel_row HG1.out.bl (g := w.heap.size + 1) z60 (by omega); generalize World.setRow _ _ _ = W9 at hRR hBB ⊢)))
        (try simp only [Exit.inBlock, Exit.then])
        refine bodyPost_ret (results_row_tmp rfl _ W9 (w.heap.size + 1) 128 z60 (0, 0) _ rfl hRR Try.underlying128 rfl (by rw [z60_size]; exact size_by)) rfl ?_
        exact ⟨z60, ret_ga HT.out, z60_size, z60_one, fun h => absurd (HT.out.trans h) (by omega), hBB⟩
      have hp2 := inB_t hp
      obtain ⟨L, rfl⟩ : ∃ L : Nat, ln = (L : Int) := ⟨ln.toNat, by omega⟩
      have hL : L < len := by omega
      cases hq : inB q (-1000000) 1000000
      · have HT : Hid ((k : Int) = told len c nr rc tov) := hid (HP1.out (rcB_2 HX.out hq)).symm
        have hq2 := inB_f hq
        by_cases hq3 : q < -1000000
        · clear hq2
          go_wp2_with (first | (go_at_call 90; refine (isPlace_any _ _ _).mono ?_; rintro e w1 ⟨rfl, ew⟩; replace ew := ew.symm; subst ew) | ((with_reducible show wpList _ _ _ ((⟨_, Op.build 128 _, _, _, _, _⟩ : Oper) :: _) _ _); refine wpL_build rfl rfl ?_) | ((with_reducible show wpList _ _ _ ((⟨_, Op.store 128 (.tmp 6) _, _, _, _, _⟩ : Oper) :: _) _ _); go_loud (refine wpL_store (x := .tmp 6) (g := w.heap.size + 1) (old := z60) rfl rfl (by simp [Act.eval, Act.put]) rfl HG1.out.r z60_size z60_size z60_one ?_; have hRR := HG1.out.r.setRow (cs := z60); have hBB := bel_row HG1.out.bl (g := w.heap.size + 1) z60 (by omega); generalize World.setRow _ _ _ = W9 at hRR hBB ⊢)))
          (try simp only [Exit.inBlock, Exit.then])
          refine bodyPost_ret (results_row_tmp rfl _ W9 (w.heap.size + 1) 128 z60 (0, 0) _ rfl hRR Try.underlying128 rfl (by rw [z60_size]; exact size_by)) rfl ?_
          exact ⟨z60, ret_ga HT.out, z60_size, z60_one, fun h => absurd (HT.out.trans h) (by omega), hBB⟩
        · have hq4 : 1000000 < q := by omega
          clear hq2
          go_wp2_with (first | (go_at_call 90; refine (isPlace_any _ _ _).mono ?_; rintro e w1 ⟨rfl, ew⟩; replace ew := ew.symm; subst ew) | ((with_reducible show wpList _ _ _ ((⟨_, Op.build 128 _, _, _, _, _⟩ : Oper) :: _) _ _); refine wpL_build rfl rfl ?_) | ((with_reducible show wpList _ _ _ ((⟨_, Op.store 128 (.tmp 6) _, _, _, _, _⟩ : Oper) :: _) _ _); go_loud (refine wpL_store (x := .tmp 6) (g := w.heap.size + 1) (old := z60) rfl rfl (by simp [Act.eval, Act.put]) rfl HG1.out.r z60_size z60_size z60_one ?_; have hRR := HG1.out.r.setRow (cs := z60); have hBB := bel_row HG1.out.bl (g := w.heap.size + 1) z60 (by omega); generalize World.setRow _ _ _ = W9 at hRR hBB ⊢)))
          (try simp only [Exit.inBlock, Exit.then])
          refine bodyPost_ret (results_row_tmp rfl _ W9 (w.heap.size + 1) 128 z60 (0, 0) _ rfl hRR Try.underlying128 rfl (by rw [z60_size]; exact size_by)) rfl ?_
          exact ⟨z60, ret_ga HT.out, z60_size, z60_one, fun h => absurd (HT.out.trans h) (by omega), hBB⟩
      have hq2 := inB_t hq
      have hq3 : ¬ q < -1000000 := by omega
      have hq4 : ¬ 1000000 < q := by omega
      go_wp2_with (first | (go_at_call 90; refine (isPlace_any _ _ _).mono ?_; rintro e w1 ⟨rfl, ew⟩; replace ew := ew.symm; subst ew))
      have hC : CB (wo.alloc (.cells #[.int .i64 (L : Int), .int .i64 q] 157 (0, 0))) wo.heap.size #[.int .i64 (L : Int), .int .i64 q] 157 := CB.new _ _
      have hG := HG1.out
      have hlo := HG.out.1.a.lt
      clear c0 c1
      generalize wo.alloc (.cells #[.int .i64 (L : Int), .int .i64 q] 157 (0, 0)) = W1 at hC hG ⊢
      obtain ⟨B, hB⟩ : ∃ B, wo.heap.size = B := ⟨_, rfl⟩
      rw [hB] at hC hlo ⊢
      obtain ⟨G, hGv⟩ : ∃ G, gS rc k L = G := ⟨_, rfl⟩
      have hGb := gS_bd HOL.out HG.out.2 L
      rw [hGv] at hGb
      have d0 := (hC.cell 0).trans rfl
      have d1 := (hC.cell 1).trans rfl
      have a0 : W1.cell? ⟨w.heap.size + 1 + 1, L, none⟩ = some (.int .i64 G) := by rw [hG.a.cell, hG.g L (by omega), hGv]
      have f0 := hG.a.fr L
      have hw : IntKind.i64.wrap (G + q) = G + q := IntWalk.i64_in _ ⟨by omega, by omega⟩
      have hL60 : (L : Int) < 60 := by omega
      have hL0 : (0 : Int) ≤ (L : Int) := by omega
      have HHC : Hid (CB W1 B #[.int .i64 (L : Int), .int .i64 q] 157) := hC
      have HHG : Hid (GA w tov tpr tle (gS rc k) cs W1) := hG
      have HGV : Hid (gS rc k L = G) := hGv
      have HLO : Hid (w.heap.size + 1 + 1 < B) := hlo
      clear hC hG hGv hlo hB HG1 hp hq
      go_region
      have hG2 : GA w tov tpr tle (gS rc (k + 1)) (cs.setIfInBounds L (.int .i64 (G + q))) (W1.setCell ⟨w.heap.size + 1 + 1, L, none⟩ (.int .i64 (G + q))).drew := (HHG.out.put (by omega) (by rw [gS_hit HX.out, HGV.out]) (fun j hj => gS_miss HX.out hj)).drew
      have hC2 : CB (W1.setCell ⟨w.heap.size + 1 + 1, L, none⟩ (.int .i64 (G + q))).drew B #[.int .i64 (L : Int), .int .i64 q] 157 := HHC.out.other _ (by have := HLO.out; omega)
      have a2 : (W1.setCell ⟨w.heap.size + 1 + 1, L, none⟩ (.int .i64 (G + q))).drew.cell? ⟨w.heap.size + 1 + 1, L, none⟩ = some (.int .i64 (G + q)) := (hG2.a.cell L).trans (get_set_eq (by rw [HHG.out.s]; omega))
      clear d0 d1 a0 f0 HHC HHG
      generalize (W1.setCell ⟨w.heap.size + 1 + 1, L, none⟩ (.int .i64 (G + q))).drew = W2 at hG2 hC2 a2 ⊢
      generalize cs.setIfInBounds L (.int .i64 (G + q)) = cs2 at hG2
      have HR3 : Hid (rcB len c rc tov k = false → told len c nr rc tov = (k : Int)) := HP1
      obtain ⟨Y, hY⟩ : ∃ Y, G + q = Y := ⟨_, rfl⟩
      have HY : Hid (gS rc k L + q = Y) := hid (by rw [HGV.out]; exact hY)
      have hYb : -1000000 ≤ Y ∧ Y ≤ 300000000000 := by omega
      rw [hY] at a2 ⊢
      clear hw hY
      obtain ⟨ka, ofa, rfl, hka⟩ := HR.out.addr (by omega)
      obtain ⟨_, o1, _⟩ := (HR.out.below hG2.bl).cell hL
      obtain ⟨V, hV⟩ : ∃ V, (c L).qty = V := ⟨_, rfl⟩
      rw [hV] at o1
      have hVb := (olB_p (HOL.out L hL)).2.1
      rw [hV] at hVb
      obtain ⟨M, hM⟩ : ∃ M, mostV V tov = M := ⟨_, rfl⟩
      have HM : Hid (mostV V tov = M) := hM
      have HIM : Hid (inB (gS rc k L + q) 0 (mostV (c L).qty tov) = inB Y 0 M) := hid (by rw [HY.out, hV, hM])
      clear hM hV
      have d0 := (hC2.cell 0).trans rfl
      have t0 := (hG2.t.cell 0).trans rfl
      have t1 := (hG2.t.cell 1).trans rfl
      have t2 := (hG2.t.cell 2).trans rfl
      have HC2 : Hid (CB W2 B #[.int .i64 (L : Int), .int .i64 q] 157) := hC2
      clear hC2
      by_cases hneg : Y < 0
      · have HT : Hid ((k : Int) = told len c nr rc tov) := hid (HR3.out (rcB_3 HX.out (by rw [HIM.out]; unfold inB; exact decide_eq_false (by omega)))).symm
        have hdn : decide (Y < 0) = true := decide_eq_true hneg
        have HG1 : Hid (GA w tov tpr tle (gS rc (k + 1)) cs2 W2) := hG2
        clear hG2
        go_wp2
        go_quiet (fail)
        have HG1 : Hid (GA w tov tpr tle (gS rc (k + 1)) cs2 (W2.drewN nq)) := hid (HG1.out.below (bd_N (Below.refl _ _) _))
        generalize W2.drewN nq = W5 at HG1 ⊢
        go_wp2_with (first | ((with_reducible show wpList _ _ _ ((⟨_, Op.build 128 _, _, _, _, _⟩ : Oper) :: _) _ _); refine wpL_build rfl rfl ?_) | ((with_reducible show wpList _ _ _ ((⟨_, Op.store 128 (.tmp 6) _, _, _, _, _⟩ : Oper) :: _) _ _); go_loud (refine wpL_store (x := .tmp 6) (g := w.heap.size + 1) (old := z60) rfl rfl (by simp [Act.eval, Act.put]) rfl HG1.out.r z60_size z60_size z60_one ?_; have hRR := HG1.out.r.setRow (cs := z60); have hBB := bel_row HG1.out.bl (g := w.heap.size + 1) z60 (by omega); generalize World.setRow _ _ _ = W9 at hRR hBB ⊢)))
        (try simp only [Exit.inBlock, Exit.then])
        refine bodyPost_ret (results_row_tmp rfl _ W9 (w.heap.size + 1) 128 z60 (0, 0) _ rfl hRR Try.underlying128 rfl (by rw [z60_size]; exact size_by)) rfl ?_
        exact ⟨z60, ret_ga HT.out, z60_size, z60_one, fun h => absurd (HT.out.trans h) (by omega), hBB⟩
      have hdn : decide (Y < 0) = false := decide_eq_false hneg
      have hGd : GA w tov tpr tle (gS rc (k + 1)) cs2 W2.drew := hG2.drew
      go_wp2
      go_region_held3 (fun w' => (w'.cell? ⟨B, 0, none⟩ = some (.int .i64 (L : Int))) ∧ (w'.cell? ⟨w.heap.size + 1 + 1, L, none⟩ = some (.int .i64 Y)) ∧ (w'.cell? ⟨w.heap.size, 0, none⟩ = some (.int .i64 tov)) ∧ (w'.cell? ⟨w.heap.size, 1, none⟩ = some (.int .i64 tpr)) ∧ (w'.cell? ⟨w.heap.size, 2, none⟩ = some (.int .i64 tle)) ∧ (w'.cell? ⟨ka, ofa + L * 3 + 1, none⟩ = some (.int .i64 V)) ∧ GA w tov tpr tle (gS rc (k + 1)) cs2 w')
        (refine ⟨?_, ?_, ?_, ?_, ?_, ?_, ?_⟩ <;> first | assumption | (simp [*]; done))
        (first
        | (go_at_call 141; go_loud (refine (mostOf_any tov tpr tle V M _ (by omega) HM.out).mono ?_; rintro e w2 ⟨rfl, b2⟩; have q0 : w2.cell? ⟨B, 0, none⟩ = some (.int .i64 (L : Int)) := keep_cell b2 (by simp [*]); have q1 : w2.cell? ⟨w.heap.size + 1 + 1, L, none⟩ = some (.int .i64 Y) := keep_cell b2 (by simp [*]); have q2 : w2.cell? ⟨w.heap.size, 0, none⟩ = some (.int .i64 tov) := keep_cell b2 (by simp [*]); have q3 : w2.cell? ⟨w.heap.size, 1, none⟩ = some (.int .i64 tpr) := keep_cell b2 (by simp [*]); have q4 : w2.cell? ⟨w.heap.size, 2, none⟩ = some (.int .i64 tle) := keep_cell b2 (by simp [*]); have q5 : w2.cell? ⟨ka, ofa + L * 3 + 1, none⟩ = some (.int .i64 V) := keep_cell b2 (by simp [*]); have q6 : GA w tov tpr tle (gS rc (k + 1)) cs2 w2 := GA.below (by assumption) b2; clear b2)))
      have HG1 : Hid (GA w tov tpr tle (gS rc (k + 1)) cs2 w2) := q6
      clear q0 q1 q2 q3 q4 q5 q6 d0 t0 t1 t2 a2 o1 hG2 hGd
      by_cases hmo : M < Y
      · have HT : Hid ((k : Int) = told len c nr rc tov) := hid (HR3.out (rcB_3 HX.out (by rw [HIM.out]; unfold inB; exact decide_eq_false (by omega)))).symm
        go_wp2_with (first | ((with_reducible show wpList _ _ _ ((⟨_, Op.build 128 _, _, _, _, _⟩ : Oper) :: _) _ _); refine wpL_build rfl rfl ?_) | ((with_reducible show wpList _ _ _ ((⟨_, Op.store 128 (.tmp 6) _, _, _, _, _⟩ : Oper) :: _) _ _); go_loud (refine wpL_store (x := .tmp 6) (g := w.heap.size + 1) (old := z60) rfl rfl (by simp [Act.eval, Act.put]) rfl HG1.out.r z60_size z60_size z60_one ?_; have hRR := HG1.out.r.setRow (cs := z60); have hBB := bel_row HG1.out.bl (g := w.heap.size + 1) z60 (by omega); generalize World.setRow _ _ _ = W9 at hRR hBB ⊢)))
        (try simp only [Exit.inBlock, Exit.then])
        refine bodyPost_ret (results_row_tmp rfl _ W9 (w.heap.size + 1) 128 z60 (0, 0) _ rfl hRR Try.underlying128 rfl (by rw [z60_size]; exact size_by)) rfl ?_
        exact ⟨z60, ret_ga HT.out, z60_size, z60_one, fun h => absurd (HT.out.trans h) (by omega), hBB⟩
      · have HN : Hid (∀ j, j < k + 1 → rcB len c rc tov j = true) := hid (fun j hj => by
          by_cases e : j = k
          · subst e; exact rcB_t HX.out (inB_y (by omega) (by omega)) (inB_y (by omega) (by omega)) (by rw [HIM.out]; exact inB_y (by omega) (by omega))
          · exact HG.out.2 j (by omega))
        go_wp2
        go_roundw
        case rel => exact ⟨k + 1, cs2, by omega, by go_num, HG1.out, HN.out⟩
        case measure => simp [intOf]; omega
    · obtain rfl : k = nr := by omega
      have lkk : ¬ (k : Int) < (k : Int) := by omega
      have HT : Hid (-1 = told len c k rc tov) := hid (told_good HG.out.2).symm
      have HG1 := HG.out.1
      have h1c : cs.all (·.oneCell') = true := one_all HG1.s HG1.g
      have HG2 : Hid (GA w tov tpr tle (gS rc k) cs wo) := HG1
      clear HG1
      go_wp2_with (first | ((with_reducible show wpList _ _ _ ((⟨_, Op.load 128 (.tmp 8), _, _, _, _⟩ : Oper) :: _) _ _); go_loud (refine wpL_load (x := .tmp 8) (g := w.heap.size + 1 + 1) (cs := cs) rfl rfl (by simp [Act.eval, Act.put]) HG2.out.a HG2.out.s ?_)) | ((with_reducible show wpList _ _ _ ((⟨_, Op.store 128 (.tmp 6) _, _, _, _, _⟩ : Oper) :: _) _ _); go_loud (refine wpL_store (x := .tmp 6) (g := w.heap.size + 1) (old := z60) (cells := cs) rfl rfl (by simp [Act.eval, Act.put]) rfl HG2.out.r HG2.out.s z60_size h1c ?_; have hRR := HG2.out.r.setRow (cs := cs); have hBB := bel_row HG2.out.bl (g := w.heap.size + 1) cs (by omega); generalize World.setRow _ _ _ = W9 at hRR hBB ⊢)))
      (try simp only [Exit.inBlock, Exit.then])
      refine bodyPost_ret (results_row_tmp rfl _ W9 (w.heap.size + 1) 128 cs (0, 0) _ rfl hRR Try.underlying128 rfl (by rw [HG2.out.s]; exact size_by)) rfl ?_
      exact ⟨cs, ret_ga HT.out, HG2.out.s, by first | exact h1c | simpa using h1c, fun _ => HG2.out.g, hBB⟩

end Go.Proofs.Ytghphlnpginmhaa
