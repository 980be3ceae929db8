/- Bills gathered by line: the program's gatherBill. -/
import Derived.Test.YtghphlnpginmhaaBp
import Derived.Test.YtghphlnpginmhaaRg
import Derived.BigRegion
namespace Go.Proofs.Ytghphlnpginmhaa
open Go.ChangeShapes Go.WideShapes Go.ChangeAt Go.RowKit
set_option linter.unusedVariables false
set_option linter.unusedSimpArgs false

structure GE (w : World) (b d : Nat → Int) (cs : Array Value) (W : World) : Prop where
  bl : Below w.heap.size w W
  r : CB W w.heap.size z120 130
  a : CB W (w.heap.size + 1) cs 130
  s : cs.size = 120
  q : ∀ j, j < 60 → cs[j]? = some (.int .i64 (b j))
  d : ∀ j, j < 60 → cs[60 + j]? = some (.int .i64 (d j))
section
variable {w W W' : World} {b d : Nat → Int} {cs : Array Value}
theorem GE.below (h : GE w b d cs W) (k : Below W.heap.size W W') : GE w b d cs W' := ⟨bel_on h.bl k, h.r.below k h.r.lt, h.a.below k h.a.lt, h.s, h.q, h.d⟩
theorem GE.alloc (h : GE w b d cs W) (o : Obj) : GE w b d cs (W.alloc o) := h.below ((Below.refl _ _).alloc (Nat.le_refl _) o)
theorem GE.drew (h : GE w b d cs W) : GE w b d cs W.drew := h.below ((Below.refl _ _).drew)
theorem GE.putq (h : GE w b d cs W) {L : Nat} {y : Int} (hL : L < 60) {b' : Nat → Int} (h1 : b' L = y) (h2 : ∀ j, j ≠ L → b' j = b j) : GE w b' d (cs.setIfInBounds L (.int .i64 y)) (W.setCell ⟨w.heap.size + 1, L, none⟩ (.int .i64 y)) := by
  refine ⟨h.bl.setCell (by simp) _, h.r.other _ (by omega), h.a.set _ _, by simpa using h.s, fun j hj => ?_, fun j hj => ?_⟩
  · by_cases e : j = L
    · subst e; rw [get_set_eq (by rw [h.s]; omega), h1]
    · rw [get_set_ne (by omega), h2 j e]; exact h.q j hj
  · rw [get_set_ne (by omega)]; exact h.d j hj
theorem GE.putd (h : GE w b d cs W) {L : Nat} {y : Int} (hL : L < 60) {d' : Nat → Int} (h1 : d' L = y) (h2 : ∀ j, j ≠ L → d' j = d j) : GE w b d' (cs.setIfInBounds (60 + L) (.int .i64 y)) (W.setCell ⟨w.heap.size + 1, 60 + L, none⟩ (.int .i64 y)) := by
  refine ⟨h.bl.setCell (by simp) _, h.r.other _ (by omega), h.a.set _ _, by simpa using h.s, fun j hj => ?_, fun j hj => ?_⟩
  · rw [get_set_ne (by omega)]; exact h.q j hj
  · by_cases e : j = L
    · subst e; rw [get_set_eq (by rw [h.s]; omega), h1]
    · rw [get_set_ne (by omega), h2 j e]; exact h.d j hj
end
theorem one_all2 {cs : Array Value} {b d : Nat → Int} (hs : cs.size = 120) (h : ∀ j, j < 60 → cs[j]? = some (.int .i64 (b j))) (g : ∀ j, j < 60 → cs[60 + j]? = some (.int .i64 (d j))) : cs.all (·.oneCell') = true := by
  rw [Array.all_eq_true]
  intro i hi
  by_cases e : i < 60
  · have := h i e
    rw [Array.getElem?_eq_getElem hi] at this
    rw [Option.some.inj this]; rfl
  · have := g (i - 60) (by omega)
    rw [show 60 + (i - 60) = i by omega, Array.getElem?_eq_getElem hi] at this
    rw [Option.some.inj this]; rfl
theorem ret_ge {cs : Array Value} {a b : Bool} (h : a = b) : Ending.returned (.tuple #[.agg cs, .bool a]) = .returned (.tuple #[.agg cs, .bool b]) := by rw [h]
theorem bnRight_any (ln q p : Int) (len : Nat) (w : World) : Calls Try.prog 130 #[.agg #[.int .i64 ln, .int .i64 q, .int .i64 p], .int .i64 (len : Int)] w fun e w' => e = .returned (.bool (bnB len ⟨ln, q, p⟩)) ∧ Below w.heap.size w w' := by
  cases h1 : inB ln 0 ((len : Int) - 1)
  · go_enter Try.func130, Try.ntmps130
    go_wp2_with (first | (go_at_call 90; refine (isPlace_any _ _ _).mono ?_; rintro e w1 ⟨rfl, rfl⟩) | (go_at_call 93; refine (isQtyA_any _ _).mono ?_; rintro e w1 ⟨rfl, rfl⟩) | (go_at_call 136; refine (isPrice_any _ _).mono ?_; rintro e w1 ⟨rfl, rfl⟩))
    go_returns
    exact ⟨ret_bool (by simp [bnB, h1]), by go_grown⟩
  cases h2 : inB q 1 1000000
  · go_enter Try.func130, Try.ntmps130
    go_wp2_with (first | (go_at_call 90; refine (isPlace_any _ _ _).mono ?_; rintro e w1 ⟨rfl, rfl⟩) | (go_at_call 93; refine (isQtyA_any _ _).mono ?_; rintro e w1 ⟨rfl, rfl⟩) | (go_at_call 136; refine (isPrice_any _ _).mono ?_; rintro e w1 ⟨rfl, rfl⟩))
    go_returns
    exact ⟨ret_bool (by simp [bnB, h1, h2]), by go_grown⟩
  go_enter Try.func130, Try.ntmps130
  go_wp2_with (first | (go_at_call 90; refine (isPlace_any _ _ _).mono ?_; rintro e w1 ⟨rfl, rfl⟩) | (go_at_call 93; refine (isQtyA_any _ _).mono ?_; rintro e w1 ⟨rfl, rfl⟩) | (go_at_call 136; refine (isPrice_any _ _).mono ?_; rintro e w1 ⟨rfl, rfl⟩))
  go_returns
  exact ⟨ret_bool (by simp [bnB, h1, h2]), by go_grown⟩

set_option maxRecDepth 20000 in
set_option maxHeartbeats 8000000 in
theorem gatherBill_any (ab : Option Addr) (nb bcap : Nat) (bc : Nat → BN3) (len : Nat) (w : World) (hn : (nb : Int) ≤ 1048576) (hl6 : len ≤ 60) (hr : BNr w ab nb bc) :
    Calls Try.prog 78 #[.slice ab nb bcap, .int .i64 (len : Int)] w fun e w' => ∃ cs, e = .returned (.tuple #[.agg cs, .bool (biB len nb bc)]) ∧ cs.size = 120 ∧ cs.all (·.oneCell') = true ∧ (biB len nb bc = true → (∀ j, j < 60 → cs[j]? = some (.int .i64 (bS bc nb j))) ∧ ∀ j, j < 60 → cs[60 + j]? = some (.int .i64 (dS bc nb j))) ∧ Below w.heap.size w w' := by
  have HR : Hid (BNr w ab nb bc) := hr
  clear hr
  by_cases h4 : 400 < (nb : Int)
  · have HT : Hid (biB len nb bc = false) := hid (biB_f fun H => by have := H.1; omega)
    go_enter Try.func78, Try.ntmps78
    go_wp2_with (first | ((with_reducible show wpList _ _ _ ((⟨_, Op.alloc 130, _, _, _, _⟩ : Oper) :: _) _ _); refine wpB_alloc rfl rfl ?_) | ((with_reducible show wpList _ _ _ ((⟨_, Op.build 130 _, _, _, _, _⟩ : Oper) :: _) _ _); refine wpB_build rfl rfl ?_) | ((with_reducible show wpList _ _ _ ((⟨_, Op.store 130 (.tmp 4) _, _, _, _, _⟩ : Oper) :: _) _ _); go_loud (refine wpB_store (x := .tmp 4) (g := w.heap.size) (old := z120) rfl rfl (by simp [Act.eval, Act.put]) rfl (CB.new z120 _) z120_size z120_size z120_one ?_; rw [setRow_new rfl]; have hRR : CB (w.alloc (.cells z120 130 (0, 0))) w.heap.size z120 130 := CB.new _ _; have hBB : Below w.heap.size w (w.alloc (.cells z120 130 (0, 0))) := (Below.refl _ _).alloc (Nat.le_refl _) _; generalize w.alloc (.cells z120 130 (0, 0)) = W9 at hRR hBB ⊢)))
    (try simp only [Exit.inBlock, Exit.then])
    refine bodyPost_ret (results_row_tmp rfl _ W9 w.heap.size 130 z120 (0, 0) _ rfl hRR Try.underlying130 rfl (by rw [z120_size]; exact size_bi)) rfl ?_
    exact ⟨z120, ret_ge HT.out.symm, z120_size, z120_one, fun h => absurd (HT.out.symm.trans h) (by decide), hBB⟩
  have h4b : (nb : Int) ≤ 400 := by omega
  clear h4
  go_enter Try.func78, Try.ntmps78
  go_wp2_with (first | ((with_reducible show wpList _ _ _ ((⟨_, Op.alloc 130, _, _, _, _⟩ : Oper) :: _) _ _); refine wpB_alloc rfl rfl ?_) | ((with_reducible show wpList _ _ _ ((⟨_, Op.build 130 _, _, _, _, _⟩ : Oper) :: _) _ _); refine wpB_build rfl rfl ?_) | ((with_reducible show wpList _ _ _ ((⟨_, Op.store 130 (.tmp 6) _, _, _, _, _⟩ : Oper) :: _) _ _); go_loud (refine wpB_store (x := .tmp 6) (g := w.heap.size + 1) (old := z120) rfl rfl (by simp [Act.eval, Act.put]) rfl (CB.newAt (by simp) z120 _) z120_size z120_size z120_one ?_; rw [setRow_new (by simp)])))
  go_loopw [16] (fun i wr => ∃ (k : Nat) (cs : Array Value), k ≤ nb ∧ i = .int .i64 (k : Int) ∧ Hid (GE w (bS bc k) (dS bc k) cs wr ∧ (∀ j, j < k → bnB len (bc j) = true) ∧ ∀ j, bS bc k j ≤ 1000000)) (fun i _ => nb - (intOf i).toNat)
  case atStart => exact ⟨0, z120, Nat.zero_le _, rfl, ⟨⟨by go_grown, (CB.new _ _).alloc _, CB.newAt (by simp) _ _, z120_size, fun j hj => z120_get (by omega), fun j hj => z120_get (by omega)⟩, fun j hj => by omega, fun j => by unfold bS; omega⟩⟩
  case round =>
    obtain ⟨k, cs, hk, rfl, HG⟩ := hrel
    obtain ⟨wo, rfl⟩ : ∃ x, x = wr := ⟨wr, rfl⟩
    by_cases hlt : k < nb
    · have hlt2 : (k : Int) < (nb : Int) := by omega
      obtain ⟨kb, off, rfl, hkb⟩ := HR.out.addr (by omega)
      have k0 := (HR.out.below HG.out.1.bl).cell hlt
      obtain ⟨e, he⟩ : ∃ e, bc k = e := ⟨_, rfl⟩
      rw [he] at k0
      obtain ⟨ln, q, p⟩ := e
      have HX : Hid (bc k = ⟨ln, q, p⟩) := he
      obtain ⟨c0, c1, c2⟩ := k0
      simp only at c0 c1 c2
      clear he
      have hlo := HG.out.1.a.lt
      cases hp : bnB len ⟨ln, q, p⟩
      · have HT : Hid (biB len nb bc = false) := hid (biB_bad hlt (by rw [HX.out]; exact hp))
        have HP : Hid (∀ W, Calls Try.prog 130 #[.agg #[.int .i64 ln, .int .i64 q, .int .i64 p], .int .i64 (len : Int)] W fun e w' => e = .returned (.bool false) ∧ Below W.heap.size W w') := hid (fun W => by rw [← hp]; exact bnRight_any ln q p len W)
        go_wp2_with (first | (go_at_call 130; refine (HP.out _).mono ?_; rintro e w1 ⟨rfl, b1⟩; have HG1 : Hid (GE w (bS bc k) (dS bc k) cs w1) := hid ((HG.out.1.alloc _).below b1); clear b1) | ((with_reducible show wpList _ _ _ ((⟨_, Op.build 130 _, _, _, _, _⟩ : Oper) :: _) _ _); refine wpB_build rfl rfl ?_) | ((with_reducible show wpList _ _ _ ((⟨_, Op.store 130 (.tmp 4) _, _, _, _, _⟩ : Oper) :: _) _ _); go_loud (refine wpB_store (x := .tmp 4) (g := w.heap.size) (old := z120) rfl rfl (by simp [Act.eval, Act.put]) rfl HG1.out.r z120_size z120_size z120_one ?_; have hRR := HG1.out.r.setRow (cs := z120); have hBB := bel_row HG1.out.bl (g := w.heap.size) z120 (by omega); generalize World.setRow _ _ _ = W9 at hRR hBB ⊢)))
        (try simp only [Exit.inBlock, Exit.then])
        refine bodyPost_ret (results_row_tmp rfl _ W9 w.heap.size 130 z120 (0, 0) _ rfl hRR Try.underlying130 rfl (by rw [z120_size]; exact size_bi)) rfl ?_
        exact ⟨z120, ret_ge HT.out.symm, z120_size, z120_one, fun h => absurd (HT.out.symm.trans h) (by decide), hBB⟩
      have HP : Hid (∀ W, Calls Try.prog 130 #[.agg #[.int .i64 ln, .int .i64 q, .int .i64 p], .int .i64 (len : Int)] W fun e w' => e = .returned (.bool true) ∧ Below W.heap.size W w') := hid (fun W => by rw [← hp]; exact bnRight_any ln q p len W)
      have hp2 := bnB_p hp
      simp only at hp2
      have HBN : Hid (∀ j, j < k + 1 → bnB len (bc j) = true) := hid (fun j hj => by
        by_cases e : j = k
        · subst e; rw [HX.out]; exact hp
        · exact HG.out.2.1 j (by omega))
      obtain ⟨L, rfl⟩ : ∃ L : Nat, ln = (L : Int) := ⟨ln.toNat, by omega⟩
      have hL : L < 60 := by omega
      clear hp
      go_wp2_with (first | (go_at_call 130; refine (HP.out _).mono ?_; rintro e w1 ⟨rfl, b1⟩; have hG : GE w (bS bc k) (dS bc k) cs w1 := (HG.out.1.alloc _).below b1; have hC : CB w1 wo.heap.size #[.int .i64 (L : Int), .int .i64 q, .int .i64 p] 122 := (CB.new _ _).below b1 (by simp); clear b1))
      obtain ⟨B, hB⟩ : ∃ B, wo.heap.size = B := ⟨_, rfl⟩
      rw [hB] at hC hlo ⊢
      clear c0 c1 c2 hB
      obtain ⟨G, hGv⟩ : ∃ G, bS bc k L = G := ⟨_, rfl⟩
      obtain ⟨E, hEv⟩ : ∃ E, dS bc k L = E := ⟨_, rfl⟩
      have hbd := bd_bd (len := len) HG.out.2.1 L
      have hb6 := HG.out.2.2 L
      rw [hGv, hEv] at hbd
      rw [hGv] at hb6
      have d0 := (hC.cell 0).trans rfl
      have d1 := (hC.cell 1).trans rfl
      have d2 := (hC.cell 2).trans rfl
      have a0 : w1.cell? ⟨w.heap.size + 1, L, none⟩ = some (.int .i64 G) := by rw [hG.a.cell, hG.q L hL, hGv]
      have f0 := hG.a.fr L
      have hw : IntKind.i64.wrap (G + q) = G + q := IntWalk.i64_in _ ⟨by omega, by omega⟩
      have hL60 : (L : Int) < 60 := by omega
      have hL0 : (0 : Int) ≤ (L : Int) := by omega
      have HHC : Hid (CB w1 B #[.int .i64 (L : Int), .int .i64 q, .int .i64 p] 122) := hC
      have HHG : Hid (GE w (bS bc k) (dS bc k) cs w1) := hG
      have HGV : Hid (bS bc k L = G) := hGv
      have HEV : Hid (dS bc k L = E) := hEv
      have HLO : Hid (w.heap.size + 1 < B) := hlo
      clear hC hG hGv hEv hlo
      go_region
      have hG2 : GE w (bS bc (k + 1)) (dS bc k) (cs.setIfInBounds L (.int .i64 (G + q))) (w1.setCell ⟨w.heap.size + 1, L, none⟩ (.int .i64 (G + q))).drew := (HHG.out.putq hL (by rw [bS_hit HX.out, HGV.out]) (fun j hj => bS_miss HX.out hj)).drew
      have hC2 : CB (w1.setCell ⟨w.heap.size + 1, L, none⟩ (.int .i64 (G + q))).drew B #[.int .i64 (L : Int), .int .i64 q, .int .i64 p] 122 := HHC.out.other _ (by have := HLO.out; omega)
      clear d0 d1 d2 a0 f0 HHC HHG hw
      generalize (w1.setCell ⟨w.heap.size + 1, L, none⟩ (.int .i64 (G + q))).drew = W2 at hG2 hC2 ⊢
      generalize cs.setIfInBounds L (.int .i64 (G + q)) = cs2 at hG2
      have d0 := (hC2.cell 0).trans rfl
      have d1 := (hC2.cell 1).trans rfl
      have d2 := (hC2.cell 2).trans rfl
      have a0 : W2.cell? ⟨w.heap.size + 1, 60 + L, none⟩ = some (.int .i64 E) := by rw [hG2.a.cell, hG2.d L hL, HEV.out]
      have f0 := hG2.a.fr (60 + L)
      have hm0 : 0 ≤ q * p := Int.mul_nonneg (by omega) (by omega)
      have hm1 : q * p ≤ q * 100000 := Int.mul_le_mul_of_nonneg_left (by omega) (by omega)
      have hwm : IntKind.i64.wrap (q * p) = q * p := IntWalk.i64_in _ ⟨by omega, by omega⟩
      have hw : IntKind.i64.wrap (E + q * p) = E + q * p := IntWalk.i64_in _ ⟨by omega, by omega⟩
      have HHC : Hid (CB W2 B #[.int .i64 (L : Int), .int .i64 q, .int .i64 p] 122) := hC2
      have HHG : Hid (GE w (bS bc (k + 1)) (dS bc k) cs2 W2) := hG2
      clear hC2 hG2
      go_wp2
      go_region
      have hG3 : GE w (bS bc (k + 1)) (dS bc (k + 1)) (cs2.setIfInBounds (60 + L) (.int .i64 (E + q * p))) (W2.setCell ⟨w.heap.size + 1, 60 + L, none⟩ (.int .i64 (E + q * p))).drew := (HHG.out.putd hL (by rw [dS_hit HX.out, HEV.out]) (fun j hj => dS_miss HX.out hj)).drew
      have hC3 : CB (W2.setCell ⟨w.heap.size + 1, 60 + L, none⟩ (.int .i64 (E + q * p))).drew B #[.int .i64 (L : Int), .int .i64 q, .int .i64 p] 122 := HHC.out.other _ (by have := HLO.out; omega)
      clear d0 d1 d2 a0 f0 HHC HHG hw hwm
      generalize (W2.setCell ⟨w.heap.size + 1, 60 + L, none⟩ (.int .i64 (E + q * p))).drew = W3 at hG3 hC3 ⊢
      generalize cs2.setIfInBounds (60 + L) (.int .i64 (E + q * p)) = cs3 at hG3
      have d0 := (hC3.cell 0).trans rfl
      have HGV2 : Hid (bS bc (k + 1) L = G + q) := hid (by rw [bS_hit HX.out, HGV.out])
      have a0 : W3.cell? ⟨w.heap.size + 1, L, none⟩ = some (.int .i64 (G + q)) := by rw [hG3.a.cell, hG3.q L hL, HGV2.out]
      have HG1 : Hid (GE w (bS bc (k + 1)) (dS bc (k + 1)) cs3 W3) := hG3
      clear hG3 hC3
      obtain ⟨Y, hY⟩ : ∃ Y, G + q = Y := ⟨_, rfl⟩
      have HY : Hid (bS bc (k + 1) L = Y) := hid (HGV2.out.trans hY)
      have hYb : 0 ≤ Y := by omega
      rw [hY] at a0 ⊢
      clear hY
      cases hq : inB Y 0 1000000
      · have HT : Hid (biB len nb bc = false) := hid (biB_over (k := k + 1) (j := L) (by omega) (by rw [HY.out]; have := inB_f hq; omega))
        go_wp2_with (first | (go_at_call 69; refine (isQty_eq _ _ _ hq).mono ?_; rintro e w5 ⟨rfl, ew⟩; replace ew := ew.symm; subst ew) | ((with_reducible show wpList _ _ _ ((⟨_, Op.build 130 _, _, _, _, _⟩ : Oper) :: _) _ _); refine wpB_build rfl rfl ?_) | ((with_reducible show wpList _ _ _ ((⟨_, Op.store 130 (.tmp 4) _, _, _, _, _⟩ : Oper) :: _) _ _); go_loud (refine wpB_store (x := .tmp 4) (g := w.heap.size) (old := z120) rfl rfl (by simp [Act.eval, Act.put]) rfl HG1.out.r z120_size z120_size z120_one ?_; have hRR := HG1.out.r.setRow (cs := z120); have hBB := bel_row HG1.out.bl (g := w.heap.size) z120 (by omega); generalize World.setRow _ _ _ = W9 at hRR hBB ⊢)))
        (try simp only [Exit.inBlock, Exit.then])
        refine bodyPost_ret (results_row_tmp rfl _ W9 w.heap.size 130 z120 (0, 0) _ rfl hRR Try.underlying130 rfl (by rw [z120_size]; exact size_bi)) rfl ?_
        exact ⟨z120, ret_ge HT.out.symm, z120_size, z120_one, fun h => absurd (HT.out.symm.trans h) (by decide), hBB⟩
      · have hq2 := inB_t hq
        have HN : Hid (∀ j, bS bc (k + 1) j ≤ 1000000) := hid (fun j => by
          by_cases e : j = L
          · subst e; rw [HY.out]; omega
          · rw [bS_miss HX.out e]; exact HG.out.2.2 j)
        go_wp2_with (first | (go_at_call 69; refine (isQty_eq _ _ _ hq).mono ?_; rintro e w5 ⟨rfl, ew⟩; replace ew := ew.symm; subst ew))
        go_roundw
        case rel => exact ⟨k + 1, cs3, by omega, by go_num, HG1.out, HBN.out, HN.out⟩
        case measure => simp [intOf]; omega
    · obtain rfl : k = nb := by omega
      have lkk : ¬ (k : Int) < (k : Int) := by omega
      have HT : Hid (biB len k bc = true) := hid (biB_t ⟨by omega, HG.out.2.1, HG.out.2.2⟩)
      have HG2 : Hid (GE w (bS bc k) (dS bc k) cs wo) := HG.out.1
      have h1c : cs.all (·.oneCell') = true := one_all2 HG2.out.s HG2.out.q HG2.out.d
      have HVV : Hid ((∀ j, j < 60 → cs[j]? = some (.int .i64 (bS bc k j))) ∧ ∀ j, j < 60 → cs[60 + j]? = some (.int .i64 (dS bc k j))) := hid ⟨HG2.out.q, HG2.out.d⟩
      go_wp2_with (first | ((with_reducible show wpList _ _ _ ((⟨_, Op.load 130 (.tmp 6), _, _, _, _⟩ : Oper) :: _) _ _); go_loud (refine wpB_load (x := .tmp 6) (g := w.heap.size + 1) (cs := cs) rfl rfl (by simp [Act.eval, Act.put]) HG2.out.a HG2.out.s ?_)) | ((with_reducible show wpList _ _ _ ((⟨_, Op.store 130 (.tmp 4) _, _, _, _, _⟩ : Oper) :: _) _ _); go_loud (refine wpB_store (x := .tmp 4) (g := w.heap.size) (old := z120) (cells := cs) rfl rfl (by simp [Act.eval, Act.put]) rfl HG2.out.r HG2.out.s z120_size h1c ?_; have hRR := HG2.out.r.setRow (cs := cs); have hBB := bel_row HG2.out.bl (g := w.heap.size) cs (by omega); generalize World.setRow _ _ _ = W9 at hRR hBB ⊢)))
      (try simp only [Exit.inBlock, Exit.then])
      refine bodyPost_ret (results_row_tmp rfl _ W9 w.heap.size 130 cs (0, 0) _ rfl hRR Try.underlying130 rfl (by rw [HG2.out.s]; exact size_bi)) rfl ?_
      exact ⟨cs, ret_ge HT.out.symm, HG2.out.s, by first | exact h1c | simpa using h1c, fun _ => HVV.out, hBB⟩

end Go.Proofs.Ytghphlnpginmhaa
