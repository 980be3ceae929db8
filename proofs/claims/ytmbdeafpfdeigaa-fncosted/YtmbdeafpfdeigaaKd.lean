/- Making, the program: parts added, batches, items expanded. -/
import Derived.Test.YtmbdeafpfdeigaaKc
namespace Go.Proofs.Ytmbdeafpfdeigaa
open Go Go.ChangeShapes Go.WideShapes Go.ChangeAt Go.RowKit
set_option linter.unusedVariables false
set_option linter.unusedSimpArgs false

theorem add_eq (ia : Option Addr) (n ic : Nat) (d : Int) (mb LB : Nat) (f : Nat → Int) (i : Nat) (x : Int) (v : Bool) (w : World) (hn : (n : Int) ≤ 60) (hM : MG ia n ic d mb LB f w) (hi : i < n) (hf : FQ f) (x0 : 0 ≤ x) (x1 : x ≤ 100000000000) (hv : inB (f i + x) 0 1000000 = v) :
    Calls Try.prog 132 #[.pointer (some ⟨mb, 0, none⟩), .int .i64 (i : Int), .int .i64 x] w fun e w' => e = .returned (.bool v) ∧ MG ia n ic d mb LB (upI f i (f i + x)) w' ∧ Bt LB w w' := by
  subst hv; exact add_any ia n ic d mb LB f i x w hn hM hi hf x0 x1
/-- What addParts tells, and leaves. -/
def ApP2 (ia : Option Addr) (n ic : Nat) (d : Int) (mb LB : Nat) (g : Nat → Int) (b : Bool) (w : World) (e : Ending) (w' : World) : Prop := e = .returned (.bool b) ∧ Bt LB w w' ∧ (b = true → MG ia n ic d mb LB g w')
set_option maxRecDepth 20000 in
set_option maxHeartbeats 8000000 in
theorem addParts_any (ia : Option Addr) (n ic : Nat) (d : Int) (mb LB : Nat) (f : Nat → Int) (ra : Option Addr) (rn rc : Nat) (z : Nat → PA6) (nb : Int) (w : World) (hn : (n : Int) ≤ 60) (hM : MG ia n ic d mb LB f w) (hf : FQ f) (hR : PAr w ra rn z) (hrn : (rn : Int) ≤ 30) (hp : ∀ j, j < rn → PG n (z j)) (n0 : 0 ≤ nb) (n1 : nb ≤ 1000000) :
    Calls Try.prog 133 #[.pointer (some ⟨mb, 0, none⟩), .slice ra rn rc, .int .i64 nb] w (ApP2 ia n ic d mb LB (exF f nb (cnC z d rn) (cnN z d rn)) (exB f nb (cnC z d rn) (cnN z d rn)) w) := by
  unfold ApP2
  have HM : Hid (MG ia n ic d mb LB f w) := hM
  have HF : Hid (FQ f) := hf
  have HR : Hid (PAr w ra rn z) := hR
  have HP : Hid (∀ j, j < cnN z d rn → PG n (cnC z d rn j)) := hid (cnC_all rn hp)
  have HG : Hid (∀ j, j < rn → 0 ≤ (z j).grp ∧ (z j).grp ≤ 9) := hid (fun j hj => (hp j hj).2.2.2)
  have hLB : LB < w.heap.size := hM.q.lt
  have hN := cnN_le z d rn
  have HCO : Hid (Calls Try.prog 136 #[.int .i64 d, .slice ra rn rc] w fun e w' => ∃ ad2 oc, e = .returned (.slice ad2 (cnN z d rn) oc) ∧ OwnPA6 w' w.heap.size ad2 (cnN z d rn) (cnC z d rn) ∧ Below w.heap.size w w') := hid (counting_own ra rn rc z d w (by omega) hR HG.out)
  have c1 : w.cell? ⟨mb, 1, none⟩ = some (.int .i64 d) := (hM.m.cell 1).trans rfl
  clear hM hf hR hp HR HG
  generalize cnN z d rn = N at HP HCO hN ⊢
  generalize cnC z d rn = C at HP HCO ⊢
  have hN30 : (N : Int) ≤ 30 := by omega
  go_enter Try.func133, Try.ntmps133
  go_wp2_with (go_at_call 136; refine HCO.out.mono ?_; rintro e w1 ⟨ad2, oc, rfl, o1, b1⟩; have H1 : Hid (exB f nb C 0 = true ∧ MG ia n ic d mb LB (exF f nb C 0) w1 ∧ OwnPA6 w1 w.heap.size ad2 N C ∧ Bt LB w w1) := hid ⟨rfl, HM.out.below b1, o1, Bt.of b1 (by omega)⟩; clear o1 b1)
  clear HCO c1
  go_loopw [18] (fun i wr => ∃ (q : Nat), q ≤ N ∧ i = .int .i64 (q : Int) ∧ Hid (exB f nb C q = true ∧ MG ia n ic d mb LB (exF f nb C q) wr ∧ OwnPA6 wr w.heap.size ad2 N C ∧ Bt LB w wr)) (fun i _ => N - (intOf i).toNat)
  case atStart => exact ⟨0, Nat.zero_le _, rfl, H1⟩
  case round =>
    clear H1
    obtain ⟨q, hq, rfl, HH⟩ := hrel
    obtain ⟨wo, rfl⟩ : ∃ x, x = wr := ⟨wr, rfl⟩
    by_cases hlt : q < N
    · have hlt2 : (q : Int) < (N : Int) := by omega
      obtain ⟨kb, off, rfl, hkb⟩ := HH.out.2.2.1.row.addr (by omega)
      obtain ⟨c0, c1, c2, c3, c4, c5⟩ := HH.out.2.2.1.row.cell hlt
      have hpq := HP.out q hlt
      have hfq := exF_q HF.out q HH.out.1
      have hST : Hid (exB f nb C (q + 1) = stB (exF f nb C q) nb (C q)) := hid (by show (exB f nb C q && _) = _; rw [HH.out.1]; rfl)
      have hEX : Hid (exF f nb C (q + 1) = upI (exF f nb C q) (C q).item.toNat (exF f nb C q (C q).item.toNat + tk nb (C q))) := rfl
      have HSP : Hid (∀ m, q + 1 ≤ m → exB f nb C (q + 1) = false → exB f nb C m = false) := hid (fun m h1 h2 => exB_mono m h1 h2)
      have hwo : w.heap.size ≤ wo.heap.size := HH.out.2.2.2.2.size
      have hLBo : LB < wo.heap.size := by omega
      have HFQ : Hid (FQ (exF f nb C q)) := hfq
      have HMo : Hid (MG ia n ic d mb LB (exF f nb C q) wo) := HH.out.2.1
      obtain ⟨hi0, hi1⟩ := hpq.1
      have hqt := hpq.2.1
      obtain ⟨P, hP⟩ : ∃ P : Nat, (C q).item = (P : Int) := ⟨(C q).item.toNat, by omega⟩
      have hq0 : 0 ≤ nb * (C q).qty := Int.mul_nonneg n0 (by omega)
      have hq1 : nb * (C q).qty ≤ 1000000 * 1000000 := by
        have e1 : nb * (C q).qty ≤ 1000000 * (C q).qty := Int.mul_le_mul_of_nonneg_right n1 (by omega)
        have e2 : (1000000 : Int) * (C q).qty ≤ 1000000 * 1000000 := Int.mul_le_mul_of_nonneg_left hpq.2.1.2 (by omega)
        omega
      have hsp := st_prog (f := exF f nb C q) hq0 (by omega) hpq.2.2.1 (hfq _).1
      obtain ⟨m1, m2, m3, m4⟩ := md_tk hq0 (by omega) hpq.2.2.1
      have HMD : Hid (∀ W, Calls Try.prog 149 #[.int .i64 (nb * (C q).qty), .int .i64 (100 + (C q).scr), .int .i64 100, .int .i64 6] W fun e w' => e = .returned (.tuple #[.int .i64 (tk nb (C q)), .bool (mdB (nb * (C q).qty) (100 + (C q).scr) 100 6)]) ∧ Below W.heap.size W w') := hid (fun W => implMulDiv_any _ _ _ _ W)
      rw [hP] at c0 hi1 hEX hsp
      simp only [Int.toNat_natCast] at hEX hsp
      have hPn : P < n := by omega
      have hscr := hpq.2.2.1
      generalize exF f nb C q = g at hEX hST hsp HFQ HMo
      rw [hsp] at hST
      clear hsp hi0 hi1 hpq hfq hP m1 m2 hqt
      generalize tk nb (C q) = T at hEX hST HMD m3 m4
      generalize (C q).qty = qt at c1 hST HMD hq0 hq1
      generalize (C q).scr = sc at c2 hST HMD hscr
      generalize (C q).fst = fs at c3
      generalize (C q).lst = la at c4
      generalize (C q).grp = gr at c5
      generalize mdB (nb * qt) (100 + sc) 100 6 = MB at hST HMD
      have HBX : Hid (CB (wo.alloc (.cells #[.int .i64 (P : Int), .int .i64 qt, .int .i64 sc, .int .i64 fs, .int .i64 la, .int .i64 gr] 28 (0, 0))) wo.heap.size #[.int .i64 (P : Int), .int .i64 qt, .int .i64 sc, .int .i64 fs, .int .i64 la, .int .i64 gr] 28 ∧ Below wo.heap.size wo (wo.alloc (.cells #[.int .i64 (P : Int), .int .i64 qt, .int .i64 sc, .int .i64 fs, .int .i64 la, .int .i64 gr] 28 (0, 0)))) := hid ⟨CB.new _ _, (Below.refl _ _).alloc (Nat.le_refl _) _⟩
      have hwq : IntKind.i64.wrap (nb * qt) = nb * qt := IntWalk.i64_in _ ⟨by omega, by omega⟩
      cases MB
      · have HV : Hid (exB f nb C N = false) := hid (HSP.out N (by omega) (by rw [hST.out]; rfl))
        go_wp2_with (go_at_call 149; refine (HMD.out _).mono ?_; rintro e w1 ⟨rfl, b1⟩; have HB1 : Hid (Bt LB w w1) := hid (HH.out.2.2.2.on (bel_on HBX.out.2 b1) (by omega)); clear b1)
        go_returns
        refine ⟨ret_bool HV.out.symm, HB1.out, fun h => ?_⟩
        rw [HV.out] at h; cases h
      obtain ⟨v, hv⟩ : ∃ v, inB (g P + T) 0 1000000 = v := ⟨_, rfl⟩
      rw [hv] at hST
      have HVV : Hid (inB (g P + T) 0 1000000 = v) := hv
      clear hv
      cases v
      · have HV : Hid (exB f nb C N = false) := hid (HSP.out N (by omega) (by rw [hST.out]; rfl))
        go_wp2_with (first
          | (go_at_call 149; refine (HMD.out _).mono ?_; rintro e w1 ⟨rfl, b1⟩; have HB1 : Hid (Bt LB w w1 ∧ MG ia n ic d mb LB g w1) := hid ⟨HH.out.2.2.2.on (bel_on HBX.out.2 b1) (by omega), HMo.out.below (bel_on HBX.out.2 b1)⟩; have x0 : w1.cell? ⟨wo.heap.size, 0, none⟩ = some (.int .i64 (P : Int)) := ((HBX.out.1.below b1 HBX.out.1.lt).cell 0).trans rfl; clear b1)
          | (go_at_call 132; refine (add_eq ia n ic d mb LB g P T false _ hn HB1.out.2 hPn HFQ.out m3 m4 HVV.out).mono ?_; rintro e w2 ⟨rfl, g2, b2⟩; have HB2 : Hid (Bt LB w w2) := hid (HB1.out.1.trans b2); clear g2 b2))
        go_returns
        refine ⟨ret_bool HV.out.symm, HB2.out, fun h => ?_⟩
        rw [HV.out] at h; cases h
      · go_wp2_with (first
          | (go_at_call 149; refine (HMD.out _).mono ?_; rintro e w1 ⟨rfl, b1⟩; have HB1 : Hid (Bt LB w w1 ∧ MG ia n ic d mb LB g w1 ∧ OwnPA6 w1 w.heap.size (some ⟨kb, off, none⟩) N C) := hid ⟨HH.out.2.2.2.on (bel_on HBX.out.2 b1) (by omega), HMo.out.below (bel_on HBX.out.2 b1), HH.out.2.2.1.below (bel_on HBX.out.2 b1)⟩; have x0 : w1.cell? ⟨wo.heap.size, 0, none⟩ = some (.int .i64 (P : Int)) := ((HBX.out.1.below b1 HBX.out.1.lt).cell 0).trans rfl; clear b1)
          | (go_at_call 132; refine (add_eq ia n ic d mb LB g P T true _ hn HB1.out.2.1 hPn HFQ.out m3 m4 HVV.out).mono ?_; rintro e w2 ⟨rfl, g2, b2⟩; have HB2 : Hid (exB f nb C (q + 1) = true ∧ MG ia n ic d mb LB (exF f nb C (q + 1)) w2 ∧ OwnPA6 w2 w.heap.size (some ⟨kb, off, none⟩) N C ∧ Bt LB w w2) := hid ⟨by rw [hST.out]; rfl, by rw [hEX.out]; exact g2, HB1.out.2.2.bt b2 (by omega), HB1.out.1.trans b2⟩; clear g2 b2))
        go_roundw
        case rel => exact ⟨q + 1, by omega, by go_num, HB2⟩
        case measure => simp [intOf]; omega
    · obtain rfl : q = N := by omega
      have lqq : ¬ (q : Int) < (q : Int) := by omega
      go_wp2
      go_returns
      exact ⟨ret_bool HH.out.1.symm, HH.out.2.2.2, fun _ => HH.out.2.1⟩

set_option maxRecDepth 20000 in
set_option maxHeartbeats 2000000 in
theorem batches_any (nm : ByteArray) (ba : Int) (ph : Bool) (ra : Option Addr) (rn rc : Nat) (sa : Option Addr) (sn sc : Nat) (q : Int) (w : World) (h0 : 0 ≤ q) (h1 : q ≤ 1000000) (b0 : 1 ≤ ba) (b1 : ba ≤ 1000000) :
    Calls Try.prog 131 #[.agg #[.string nm, .int .i64 ba, .bool ph, .slice ra rn rc, .slice sa sn sc], .int .i64 q] w fun e w' => e = .returned (.tuple #[.int .i64 (bat q ba), .int .i64 (bat q ba * ba)]) ∧ Below w.heap.size w w' := by
  obtain ⟨n0, n1⟩ := bat_bd h0 b0
  have p0 : 0 ≤ bat q ba * ba := Int.mul_nonneg n0 (by omega)
  have p1 : bat q ba * ba ≤ 1000000 * 1000000 := by
    have e1 : bat q ba * ba ≤ 1000000 * ba := Int.mul_le_mul_of_nonneg_right (by omega) (by omega)
    have e2 : (1000000 : Int) * ba ≤ 1000000 * 1000000 := Int.mul_le_mul_of_nonneg_left b1 (by omega)
    omega
  have hw : IntKind.i64.wrap (bat q ba * ba) = bat q ba * ba := IntWalk.i64_in _ ⟨by omega, by omega⟩
  have HD : Hid (∀ W, Calls Try.prog 140 #[.int .i64 q, .int .i64 ba] W fun e w' => e = .returned (.int .i64 (bat q ba)) ∧ w' = W) := hid (fun W => divUp_any q ba W h0 h1 b0 b1)
  have HB : Hid (Below w.heap.size w (w.alloc (.cells #[.string nm, .int .i64 ba, .bool ph, .slice ra rn rc, .slice sa sn sc] 31 (0, 0)))) := (Below.refl _ _).alloc (Nat.le_refl _) _
  generalize bat q ba = B at *
  go_enter Try.func131, Try.ntmps131
  go_wp2_with (go_at_call 140; refine (HD.out _).mono ?_; rintro e w1 ⟨rfl, ew⟩; replace ew := ew.symm; subst ew)
  go_quiet (fail)
  go_wp2
  go_returns
  exact ⟨rfl, bd_N HB.out _⟩
set_option maxRecDepth 20000 in
set_option maxHeartbeats 2000000 in
theorem isMade_any (nm : ByteArray) (ba : Int) (ph : Bool) (ra : Option Addr) (rn rc : Nat) (z : Nat → PA6) (sa : Option Addr) (sn sc : Nat) (d : Int) (w : World) (h : (rn : Int) ≤ 1048576) (hr : PAr w ra rn z) (hg : ∀ j, j < rn → 0 ≤ (z j).grp ∧ (z j).grp ≤ 9) :
    Calls Try.prog 108 #[.agg #[.string nm, .int .i64 ba, .bool ph, .slice ra rn rc, .slice sa sn sc], .int .i64 d] w fun e w' => e = .returned (.bool (decide (0 < cnN z d rn))) ∧ Below w.heap.size w w' := by
  have HB : Hid (Below w.heap.size w (w.alloc (.cells #[.string nm, .int .i64 ba, .bool ph, .slice ra rn rc, .slice sa sn sc] 31 (0, 0)))) := (Below.refl _ _).alloc (Nat.le_refl _) _
  have HCO : Hid (Calls Try.prog 136 #[.int .i64 d, .slice ra rn rc] (w.alloc (.cells #[.string nm, .int .i64 ba, .bool ph, .slice ra rn rc, .slice sa sn sc] 31 (0, 0))) _) := hid (counting_any ra rn rc z d _ h (hr.below HB.out) hg)
  have hN := cnN_le z d rn
  clear hr hg
  generalize cnN z d rn = N at HCO hN ⊢
  generalize cnC z d rn = C at HCO
  go_enter Try.func108, Try.ntmps108
  go_wp2_with (go_at_call 136; refine HCO.out.mono ?_; rintro e w1 ⟨ad2, oc, rfl, _, b1⟩; have HB1 : Hid (Below w.heap.size w w1) := bel_on HB.out b1; clear b1)
  go_returns
  exact ⟨by first | rfl | simp, HB1.out⟩
end Go.Proofs.Ytmbdeafpfdeigaa
