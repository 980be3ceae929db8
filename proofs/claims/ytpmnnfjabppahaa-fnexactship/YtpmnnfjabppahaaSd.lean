/- Picks held and shipped by the model. -/
import Derived.Test.YtpmnnfjabppahaaSa
namespace Go.Proofs.Ytpmnnfjabppahaa
open Go Go.ChangeShapes Go.WideShapes Go.ChangeAt Go.RowKit
set_option linter.unusedVariables false
set_option linter.unusedSimpArgs false

theorem RO.setAll {w : World} {g n : Nat} {c : Nat → CE6} (h : RO w g n c) {i : Nat} (hi : i < n) (x : CE6) : RO ((((((w.setCell ⟨g, i * 6, none⟩ (.string x.item)).setCell ⟨g, i * 6 + 1, none⟩ (.string x.place)).setCell ⟨g, i * 6 + 2, none⟩ (.string x.lot)).setCell ⟨g, i * 6 + 3, none⟩ (.int .i64 x.exp)).setCell ⟨g, i * 6 + 4, none⟩ (.int .i64 x.qty)).setCell ⟨g, i * 6 + 5, none⟩ (.int .i64 x.hld)) g n (putC c i x) := by
  obtain ⟨cs, q, q2, r⟩ := h
  refine ⟨_, (((((q.set _ _).set _ _).set _ _).set _ _).set _ _).set _ _, by simpa using q2, fun j hj => ?_⟩
  obtain ⟨r0, r1, r2, r3, r4, r5⟩ := r j hj
  unfold putC
  by_cases e : j = i
  · subst e
    rw [if_pos rfl]
    refine ⟨?_, ?_, ?_, ?_, ?_, ?_⟩
    · rw [get_set_ne (by omega), get_set_ne (by omega), get_set_ne (by omega), get_set_ne (by omega), get_set_ne (by omega), get_set_eq (by omega)]
    · rw [get_set_ne (by omega), get_set_ne (by omega), get_set_ne (by omega), get_set_ne (by omega), get_set_eq (by simp; omega)]
    · rw [get_set_ne (by omega), get_set_ne (by omega), get_set_ne (by omega), get_set_eq (by simp; omega)]
    · rw [get_set_ne (by omega), get_set_ne (by omega), get_set_eq (by simp; omega)]
    · rw [get_set_ne (by omega), get_set_eq (by simp; omega)]
    · rw [get_set_eq (by simp; omega)]
  · rw [if_neg e]
    refine ⟨?_, ?_, ?_, ?_, ?_, ?_⟩ <;> (rw [get_set_ne (by omega), get_set_ne (by omega), get_set_ne (by omega), get_set_ne (by omega), get_set_ne (by omega), get_set_ne (by omega)]; assumption)
theorem set6_keep {w : World} {g y : Nat} (hy : y ≠ g) {i : Nat} {v0 v1 v2 v3 v4 v5 : Value} : ((((((w.setCell ⟨g, i * 6, none⟩ v0).setCell ⟨g, i * 6 + 1, none⟩ v1).setCell ⟨g, i * 6 + 2, none⟩ v2).setCell ⟨g, i * 6 + 3, none⟩ v3).setCell ⟨g, i * 6 + 4, none⟩ v4).setCell ⟨g, i * 6 + 5, none⟩ v5).heap[y]? = w.heap[y]? := (hs_set hy).trans ((hs_set hy).trans ((hs_set hy).trans ((hs_set hy).trans ((hs_set hy).trans (hs_set hy)))))
theorem set6_bel {A w : World} {B g : Nat} (hb : B ≤ g) (h : Below B A w) {i : Nat} {v0 v1 v2 v3 v4 v5 : Value} : Below B A ((((((w.setCell ⟨g, i * 6, none⟩ v0).setCell ⟨g, i * 6 + 1, none⟩ v1).setCell ⟨g, i * 6 + 2, none⟩ v2).setCell ⟨g, i * 6 + 3, none⟩ v3).setCell ⟨g, i * 6 + 4, none⟩ v4).setCell ⟨g, i * 6 + 5, none⟩ v5) := (((((h.setCell hb _).setCell hb _).setCell hb _).setCell hb _).setCell hb _).setCell hb _

set_option maxRecDepth 20000 in
set_option maxHeartbeats 8000000 in
theorem each_hold (a : Addr) (len cap : Nat) (c : Nat → CE6) (ar : Option Addr) (nr rcap : Nat) (pk : Nat → PK2) (w : World) (h : (len : Int) ≤ 1048576) (hnr : (nr : Int) ≤ 1048576) (hr : CEr w (some a) len c) (hz : CZ c) (hp : PKr w ar nr pk) :
    Calls Try.prog 86 #[.slice (some a) len cap, .slice ar nr rcap, .bool false] w fun e w' => ∃ ad cp, e = .returned (.tuple #[.slice ad (eaM len c) cp, .int .i64 (eaV false len c nr pk)]) ∧ OwnCE6 w' w.heap.size ad (eaM len c) (eaC false len c nr pk) ∧ Below w.heap.size w w' := by
  have HR := hid hr
  have HZ := hid hz
  have HP := hid hp
  have tkC : True := trivial
  clear hr hz hp
  cases hs : stB len c
  · have HM : Hid (eaM len c = 0 ∧ eaV false len c nr pk = 1) := hid ⟨by unfold eaM; rw [hs]; rfl, by unfold eaV; rw [hs]; rfl⟩
    have HS := hid hs
    clear hs
    go_enter Try.func86, Try.ntmps86
    go_wp2_with (go_at_call 35; refine (specStock_eq _ len cap c _ _ h HR.out HZ.out HS.out).mono ?_; rintro e w1 ⟨rfl, b1⟩; have HB1 := hid b1; clear b1)
    go_returns
    rw [HM.out.1, HM.out.2]
    first | exact ⟨_, _, rfl, .inl rfl, HB1.out.alloc HB1.out.size _⟩ | exact ⟨_, ⟨_, rfl⟩, .inl rfl, HB1.out.alloc HB1.out.size _⟩
  have hsp := stB_p hs
  have hn100 := hsp.1.1
  have hlI : (len : Int) ≤ 100 := by omega
  have HCN0 := hid (ceN_of hsp.1)
  obtain ⟨TV, hTV⟩ : ∃ TV, (if nr ≤ 100 then eaT false len c pk nr else 2) = TV := ⟨_, rfl⟩
  have HM : Hid (eaM len c = len ∧ eaV false len c nr pk = TV ∧ (TV = 0 → eaC false len c nr pk = eaS false c pk nr) ∧ (TV ≠ 0 → eaC false len c nr pk = c)) := hid (by
    have e : eaV false len c nr pk = TV := by unfold eaV; rw [if_pos hs]; exact hTV
    refine ⟨by unfold eaM; rw [if_pos hs], e, fun h0 => ?_, fun h0 => ?_⟩
    · unfold eaC; rw [e, if_pos h0]
    · unfold eaC; rw [e, if_neg h0])
  have HS := hid hs
  clear hs hsp
  by_cases h100 : (100 : Int) < (nr : Int)
  · have HV : Hid (TV = 2) := hid (by rw [← hTV, if_neg (by omega)])
    clear hTV
    go_enter Try.func86, Try.ntmps86
    go_wp2_with (first
      | (go_at_call 35; refine (specStock_eq _ len cap c _ _ h HR.out HZ.out HS.out).mono ?_; rintro e w1 ⟨rfl, b1⟩; have HB1 := hid b1; clear b1)
      | (go_at_call 68; refine (copyS_any a len cap c _ h (HR.out.below HB1.out)).mono ?_; rintro e w2 ⟨v2, rfl, o2, b2⟩; obtain ⟨ad2, cp2, rfl, hcp2, o2⟩ := ownCE6_of o2; have HO2 := hid (o2.mono HB1.out.size); have HB2 := hid (bel_on HB1.out b2); clear o2 b2))
    go_returns
    rw [HM.out.1, HM.out.2.1, HM.out.2.2.2 (by rw [HV.out]; omega), HV.out]
    first | exact ⟨_, _, rfl, HO2.out, HB2.out⟩ | exact ⟨_, ⟨_, rfl⟩, HO2.out, HB2.out⟩
  have HTV : Hid (eaT false len c pk nr = TV) := hid (by rw [← hTV, if_pos (by omega)])
  clear hTV
  go_enter Try.func86, Try.ntmps86
  go_wp2_with (first
    | (go_at_call 35; refine (specStock_eq _ len cap c _ _ h HR.out HZ.out HS.out).mono ?_; rintro e w1 ⟨rfl, b1⟩; have HB1 := hid b1; clear b1)
    | (go_at_call 68; clear tkC; refine (copyS_any a len cap c _ h (HR.out.below HB1.out)).mono ?_; rintro e w2 ⟨v2, rfl, o2, b2⟩; obtain ⟨ad2, cp2, rfl, hcp2, o2⟩ := ownCE6_of o2; have HO2 := hid (o2.mono HB1.out.size); have HB2 := hid (bel_on HB1.out b2); clear o2 b2))
  have hlen2 : len ≤ cp2 := hcp2
  go_loopw [9] (fun i wr => ∃ (k : Nat), k ≤ nr ∧ i = .int .i64 (k : Int) ∧ Hid (eaT false len c pk k = 0) ∧ Hid (OwnCE6 wr w.heap.size ad2 len (eaS false c pk k)) ∧ Hid (Below w.heap.size w wr)) (fun i _ => nr - (intOf i).toNat)
  case atStart => exact ⟨0, Nat.zero_le _, rfl, rfl, HO2.out, HB2.out⟩
  case round =>
    obtain ⟨k, hk, rfl, HT, HO, HW⟩ := hrel
    by_cases hlt : k < nr
    · have hlt2 : (k : Int) < (nr : Int) := by omega
      obtain ⟨kb, off, rfl, hkb⟩ := HP.out.addr (by omega)
      obtain ⟨s0, s1⟩ := (HP.out.below HW.out).cell hlt
      obtain ⟨at1, hat1⟩ : ∃ x, (pk k).at_ = x := ⟨_, rfl⟩
      obtain ⟨q, hq⟩ : ∃ x, (pk k).qty = x := ⟨_, rfl⟩
      rw [hat1] at s0
      rw [hq] at s1
      have HCN := hid (eaS_ok HCN0.out k HT.out)
      have HT1 : Hid (eaT false len c pk (k + 1) = cdP false len (eaS false c pk k) (pk k)) := hid (by simp only [eaT]; rw [if_pos HT.out])
      have HT2 : Hid (∀ v, cdP false len (eaS false c pk k) (pk k) = v → v ≠ 0 → TV = v) := hid (fun v h h0 => by rw [← HTV.out, ← h, ← HT1.out]; exact eaT_stop (by omega) (by rw [HT1.out, h]; exact h0))
      have HPX := hid (And.intro hat1 hq)
      have tk1 : True := trivial
      have tk2 : True := trivial
      clear hat1 hq
      cases ha : inB at1 0 ((len : Int) - 1)
      · have HA := hid ha
        have HV : Hid (TV = 2) := hid (HT2.out 2 (by unfold cdP; rw [HPX.out.1, HPX.out.2, if_neg (by rw [ha]; simp)]) (by omega))
        clear ha
        go_wp2_with (first
        | (go_at_call 63; clear tk1; refine (l1In_eq _ _ _ _ _ HA.out).mono ?_; rintro e w1 ⟨rfl, ew⟩; replace ew := ew.symm; subst ew)
        | (go_at_call 63; clear tk2; refine (l1In_eq _ _ _ _ _ HQ.out).mono ?_; rintro e w1 ⟨rfl, ew⟩; replace ew := ew.symm; subst ew)
        | (go_at_call 68; refine (copyS_any a len cap c _ h (HR.out.below (HW.out.alloc HW.out.size (.cells #[.int .i64 at1, .int .i64 q] 37 (0, 0))))).mono ?_; rintro e w8 ⟨v8, rfl, o8, b8⟩; obtain ⟨ad8, cp8, rfl, hcp8, o8⟩ := ownCE6_of o8; have HO8 := hid (o8.mono (l := w.heap.size) (by have := HW.out.size; simp; omega)); have HB8 : Hid (Below w.heap.size w w8) := hid ((HW.out.alloc HW.out.size (.cells #[.int .i64 at1, .int .i64 q] 37 (0, 0))).trans (b8.mono (by have := HW.out.size; simp; omega))); clear o8 b8))
        go_returns
        rw [HM.out.1, HM.out.2.1, HM.out.2.2.2 (by rw [HV.out]; omega), HV.out]
        first | exact ⟨_, _, rfl, HO8.out, HB8.out⟩ | exact ⟨_, ⟨_, rfl⟩, HO8.out, HB8.out⟩
      have hab := inB_t ha
      cases hqq : inB q 1 1000000
      · have HA := hid ha
        have HQ := hid hqq
        have HV : Hid (TV = 2) := hid (HT2.out 2 (by unfold cdP; rw [HPX.out.1, HPX.out.2, if_neg (by rw [hqq]; simp)]) (by omega))
        clear ha hqq hab
        go_wp2_with (first
        | (go_at_call 63; clear tk1; refine (l1In_eq _ _ _ _ _ HA.out).mono ?_; rintro e w1 ⟨rfl, ew⟩; replace ew := ew.symm; subst ew)
        | (go_at_call 63; clear tk2; refine (l1In_eq _ _ _ _ _ HQ.out).mono ?_; rintro e w1 ⟨rfl, ew⟩; replace ew := ew.symm; subst ew)
        | (go_at_call 68; refine (copyS_any a len cap c _ h (HR.out.below (HW.out.alloc HW.out.size (.cells #[.int .i64 at1, .int .i64 q] 37 (0, 0))))).mono ?_; rintro e w8 ⟨v8, rfl, o8, b8⟩; obtain ⟨ad8, cp8, rfl, hcp8, o8⟩ := ownCE6_of o8; have HO8 := hid (o8.mono (l := w.heap.size) (by have := HW.out.size; simp; omega)); have HB8 : Hid (Below w.heap.size w w8) := hid ((HW.out.alloc HW.out.size (.cells #[.int .i64 at1, .int .i64 q] 37 (0, 0))).trans (b8.mono (by have := HW.out.size; simp; omega))); clear o8 b8))
        go_returns
        rw [HM.out.1, HM.out.2.1, HM.out.2.2.2 (by rw [HV.out]; omega), HV.out]
        first | exact ⟨_, _, rfl, HO8.out, HB8.out⟩ | exact ⟨_, ⟨_, rfl⟩, HO8.out, HB8.out⟩
      have HA := hid ha
      have HQ := hid hqq
      have HQB := hid (inB_t hqq)
      obtain ⟨i, rfl⟩ : ∃ i : Nat, at1 = (i : Int) := ⟨at1.toNat, by omega⟩
      have hin : i < len := by omega
      have hin2 : (i : Int) < (len : Int) := by omega
      clear ha hqq hab
      obtain ⟨g, rfl, hg, hro⟩ := own_ro HO.out (by omega)
      have HRO := hid hro
      have hgl := hro.lt
      have HG := hid hg
      obtain ⟨c0, c1, c2, c3, c4, c5⟩ := hro.el hin
      obtain ⟨qt, hqt⟩ : ∃ x, (eaS false c pk k i).qty = x := ⟨_, rfl⟩
      obtain ⟨hd, hhd⟩ : ∃ x, (eaS false c pk k i).hld = x := ⟨_, rfl⟩
      have hcb := HCN.out i hin
      rw [hqt, hhd] at hcb
      rw [hqt] at c4
      rw [hhd] at c5
      have HX := hid (And.intro hqt hhd)
      clear hro hg hqt hhd
      cases hsh : shB false (eaS false c pk k i) q
      · have HTK : Hid (cdP false len (eaS false c pk k) (pk k) = 0) := hid (by unfold cdP; rw [HPX.out.1, HPX.out.2, HA.out, HQ.out]; simp [hsh])
        have hlts : ¬ (qt - hd) < q := by unfold shB at hsh; rw [HX.out.1, HX.out.2] at hsh; simp at hsh; omega
        have HQC := HQB.out
        have hw1 : IntKind.i64.wrap (qt - hd) = qt - hd := IntWalk.i64_in _ ⟨by omega, by omega⟩
        have hw2 : IntKind.i64.wrap (hd + q) = hd + q := IntWalk.i64_in _ ⟨by omega, by omega⟩
        have hw3 : IntKind.i64.wrap (qt - q) = qt - q := IntWalk.i64_in _ ⟨by omega, by omega⟩
        clear hsh
        have hst : stC false (eaS false c pk k i) q = ⟨(eaS false c pk k i).item, (eaS false c pk k i).place, (eaS false c pk k i).lot, (eaS false c pk k i).exp, qt, hd + q⟩ := by unfold stC; simp [HX.out.1, HX.out.2]
        have HF : Hid (∀ o1 o2, OwnCE6 ((((((((wr.setCell ⟨g, i * 6, none⟩ (.string (eaS false c pk k i).item)).setCell ⟨g, i * 6 + 1, none⟩ (.string (eaS false c pk k i).place)).setCell ⟨g, i * 6 + 2, none⟩ (.string (eaS false c pk k i).lot)).setCell ⟨g, i * 6 + 3, none⟩ (.int .i64 (eaS false c pk k i).exp)).setCell ⟨g, i * 6 + 4, none⟩ (.int .i64 (qt))).setCell ⟨g, i * 6 + 5, none⟩ (.int .i64 (hd + q))).alloc o1).alloc o2) w.heap.size (some ⟨g, 0, none⟩) len (eaS false c pk (k + 1)) ∧ Below w.heap.size w ((((((((wr.setCell ⟨g, i * 6, none⟩ (.string (eaS false c pk k i).item)).setCell ⟨g, i * 6 + 1, none⟩ (.string (eaS false c pk k i).place)).setCell ⟨g, i * 6 + 2, none⟩ (.string (eaS false c pk k i).lot)).setCell ⟨g, i * 6 + 3, none⟩ (.int .i64 (eaS false c pk k i).exp)).setCell ⟨g, i * 6 + 4, none⟩ (.int .i64 (qt))).setCell ⟨g, i * 6 + 5, none⟩ (.int .i64 (hd + q))).alloc o1).alloc o2)) := hid (fun o1 o2 => by
          have T6 := HRO.out.setAll hin ⟨(eaS false c pk k i).item, (eaS false c pk k i).place, (eaS false c pk k i).lot, (eaS false c pk k i).exp, qt, hd + q⟩
          rw [← hst] at T6
          have e : eaS false c pk (k + 1) = putC (eaS false c pk k) i (stC false (eaS false c pk k i) q) := by simp only [eaS]; rw [HPX.out.1, HPX.out.2]; rfl
          rw [e]
          rw [hst] at T6 ⊢
          exact ⟨((T6.below ((Below.refl _ _).alloc (Nat.le_refl _) _)).below ((Below.refl _ _).alloc (Nat.le_refl _) _)).own HG.out, ((set6_bel HG.out HW.out).alloc (by have := HW.out.size; simp; omega) _).alloc (by have := HW.out.size; simp; omega) _⟩)
        have f0 := HRO.out.fr (i * 6)
        have f1 := HRO.out.fr (i * 6 + 1)
        have f2 := HRO.out.fr (i * 6 + 2)
        have f3 := HRO.out.fr (i * 6 + 3)
        have f4 := HRO.out.fr (i * 6 + 4)
        have f5 := HRO.out.fr (i * 6 + 5)
        clear hst
        go_wp2_with (first
        | (go_at_call 63; clear tk1; refine (l1In_eq _ _ _ _ _ HA.out).mono ?_; rintro e w1 ⟨rfl, ew⟩; replace ew := ew.symm; subst ew)
        | (go_at_call 63; clear tk2; refine (l1In_eq _ _ _ _ _ HQ.out).mono ?_; rintro e w1 ⟨rfl, ew⟩; replace ew := ew.symm; subst ew)
        | (go_at_call 68; refine (copyS_any a len cap c _ h (HR.out.below ((HW.out.alloc HW.out.size (.cells #[.int .i64 (i : Int), .int .i64 q] 37 (0, 0))).alloc (by have := HW.out.size; simp; omega) (.cells #[.string (eaS false c pk k i).item, .string (eaS false c pk k i).place, .string (eaS false c pk k i).lot, .int .i64 (eaS false c pk k i).exp, .int .i64 qt, .int .i64 hd] 28 (0, 0))))).mono ?_; rintro e w8 ⟨v8, rfl, o8, b8⟩; obtain ⟨ad8, cp8, rfl, hcp8, o8⟩ := ownCE6_of o8; have HO8 := hid (o8.mono (l := w.heap.size) (by have := HW.out.size; simp; omega)); have HB8 : Hid (Below w.heap.size w w8) := hid (((HW.out.alloc HW.out.size (.cells #[.int .i64 (i : Int), .int .i64 q] 37 (0, 0))).alloc (by have := HW.out.size; simp; omega) (.cells #[.string (eaS false c pk k i).item, .string (eaS false c pk k i).place, .string (eaS false c pk k i).lot, .int .i64 (eaS false c pk k i).exp, .int .i64 qt, .int .i64 hd] 28 (0, 0))).trans (b8.mono (by have := HW.out.size; simp; omega))); clear o8 b8))
        go_roundw
        case rel => exact ⟨k + 1, by omega, by go_num, HT1.out.trans HTK.out, (HF.out _ _).1, (HF.out _ _).2⟩
        case measure => simp [intOf]; omega
      · have HV : Hid (TV = 3) := hid (HT2.out 3 (by unfold cdP; rw [HPX.out.1, HPX.out.2, HA.out, HQ.out]; simp [hsh]) (by omega))
        have hlts : (qt - hd) < q := by unfold shB at hsh; rw [HX.out.1, HX.out.2] at hsh; simp at hsh; omega
        have HQC := HQB.out
        have hw1 : IntKind.i64.wrap (qt - hd) = qt - hd := IntWalk.i64_in _ ⟨by omega, by omega⟩
        have hw2 : IntKind.i64.wrap (hd + q) = hd + q := IntWalk.i64_in _ ⟨by omega, by omega⟩
        have hw3 : IntKind.i64.wrap (qt - q) = qt - q := IntWalk.i64_in _ ⟨by omega, by omega⟩
        clear hsh
        go_wp2_with (first
        | (go_at_call 63; clear tk1; refine (l1In_eq _ _ _ _ _ HA.out).mono ?_; rintro e w1 ⟨rfl, ew⟩; replace ew := ew.symm; subst ew)
        | (go_at_call 63; clear tk2; refine (l1In_eq _ _ _ _ _ HQ.out).mono ?_; rintro e w1 ⟨rfl, ew⟩; replace ew := ew.symm; subst ew)
        | (go_at_call 68; refine (copyS_any a len cap c _ h (HR.out.below ((HW.out.alloc HW.out.size (.cells #[.int .i64 (i : Int), .int .i64 q] 37 (0, 0))).alloc (by have := HW.out.size; simp; omega) (.cells #[.string (eaS false c pk k i).item, .string (eaS false c pk k i).place, .string (eaS false c pk k i).lot, .int .i64 (eaS false c pk k i).exp, .int .i64 qt, .int .i64 hd] 28 (0, 0))))).mono ?_; rintro e w8 ⟨v8, rfl, o8, b8⟩; obtain ⟨ad8, cp8, rfl, hcp8, o8⟩ := ownCE6_of o8; have HO8 := hid (o8.mono (l := w.heap.size) (by have := HW.out.size; simp; omega)); have HB8 : Hid (Below w.heap.size w w8) := hid (((HW.out.alloc HW.out.size (.cells #[.int .i64 (i : Int), .int .i64 q] 37 (0, 0))).alloc (by have := HW.out.size; simp; omega) (.cells #[.string (eaS false c pk k i).item, .string (eaS false c pk k i).place, .string (eaS false c pk k i).lot, .int .i64 (eaS false c pk k i).exp, .int .i64 qt, .int .i64 hd] 28 (0, 0))).trans (b8.mono (by have := HW.out.size; simp; omega))); clear o8 b8))
        go_returns
        rw [HM.out.1, HM.out.2.1, HM.out.2.2.2 (by rw [HV.out]; omega), HV.out]
        first | exact ⟨_, _, rfl, HO8.out, HB8.out⟩ | exact ⟨_, ⟨_, rfl⟩, HO8.out, HB8.out⟩
    · obtain rfl : k = nr := by omega
      have lkk : ¬ (k : Int) < (k : Int) := by omega
      have HV : Hid (TV = 0) := hid (by rw [← HTV.out]; exact HT.out)
      go_wp2
      go_returns
      rw [HM.out.1, HM.out.2.1, HM.out.2.2.1 HV.out, HV.out]
      first | exact ⟨_, _, rfl, HO.out, HW.out⟩ | exact ⟨_, ⟨_, rfl⟩, HO.out, HW.out⟩
theorem specHold_any (a : Addr) (len cap : Nat) (c : Nat → CE6) (ar : Option Addr) (nr rcap : Nat) (pk : Nat → PK2) (w : World) (h : (len : Int) ≤ 1048576) (hnr : (nr : Int) ≤ 1048576) (hr : CEr w (some a) len c) (hz : CZ c) (hp : PKr w ar nr pk) :
    Calls Try.prog 48 #[.slice (some a) len cap, .slice ar nr rcap] w fun e w' => ∃ ad cp, e = .returned (.tuple #[.slice ad (eaM len c) cp, .int .i64 (eaV false len c nr pk)]) ∧ OwnCE6 w' w.heap.size ad (eaM len c) (eaC false len c nr pk) ∧ Below w.heap.size w w' := by
  have HR := hid hr
  have HZ := hid hz
  have HP := hid hp
  clear hr hz hp
  go_enter Try.func48, Try.ntmps48
  go_wp2_with (go_at_call 86; refine (each_hold a len cap c ar nr rcap pk _ h hnr HR.out HZ.out HP.out).mono ?_; rintro e w1 ⟨ad1, cp1, rfl, o1, b1⟩; have HO1 := hid o1; have HB1 := hid b1; clear o1 b1)
  go_returns
  exact ⟨_, _, rfl, HO1.out, HB1.out⟩

set_option maxRecDepth 20000 in
set_option maxHeartbeats 8000000 in
theorem each_ship (a : Addr) (len cap : Nat) (c : Nat → CE6) (ar : Option Addr) (nr rcap : Nat) (pk : Nat → PK2) (w : World) (h : (len : Int) ≤ 1048576) (hnr : (nr : Int) ≤ 1048576) (hr : CEr w (some a) len c) (hz : CZ c) (hp : PKr w ar nr pk) :
    Calls Try.prog 86 #[.slice (some a) len cap, .slice ar nr rcap, .bool true] w fun e w' => ∃ ad cp, e = .returned (.tuple #[.slice ad (eaM len c) cp, .int .i64 (eaV true len c nr pk)]) ∧ OwnCE6 w' w.heap.size ad (eaM len c) (eaC true len c nr pk) ∧ Below w.heap.size w w' := by
  have HR := hid hr
  have HZ := hid hz
  have HP := hid hp
  have tkC : True := trivial
  clear hr hz hp
  cases hs : stB len c
  · have HM : Hid (eaM len c = 0 ∧ eaV true len c nr pk = 1) := hid ⟨by unfold eaM; rw [hs]; rfl, by unfold eaV; rw [hs]; rfl⟩
    have HS := hid hs
    clear hs
    go_enter Try.func86, Try.ntmps86
    go_wp2_with (go_at_call 35; refine (specStock_eq _ len cap c _ _ h HR.out HZ.out HS.out).mono ?_; rintro e w1 ⟨rfl, b1⟩; have HB1 := hid b1; clear b1)
    go_returns
    rw [HM.out.1, HM.out.2]
    first | exact ⟨_, _, rfl, .inl rfl, HB1.out.alloc HB1.out.size _⟩ | exact ⟨_, ⟨_, rfl⟩, .inl rfl, HB1.out.alloc HB1.out.size _⟩
  have hsp := stB_p hs
  have hn100 := hsp.1.1
  have hlI : (len : Int) ≤ 100 := by omega
  have HCN0 := hid (ceN_of hsp.1)
  obtain ⟨TV, hTV⟩ : ∃ TV, (if nr ≤ 100 then eaT true len c pk nr else 2) = TV := ⟨_, rfl⟩
  have HM : Hid (eaM len c = len ∧ eaV true len c nr pk = TV ∧ (TV = 0 → eaC true len c nr pk = eaS true c pk nr) ∧ (TV ≠ 0 → eaC true len c nr pk = c)) := hid (by
    have e : eaV true len c nr pk = TV := by unfold eaV; rw [if_pos hs]; exact hTV
    refine ⟨by unfold eaM; rw [if_pos hs], e, fun h0 => ?_, fun h0 => ?_⟩
    · unfold eaC; rw [e, if_pos h0]
    · unfold eaC; rw [e, if_neg h0])
  have HS := hid hs
  clear hs hsp
  by_cases h100 : (100 : Int) < (nr : Int)
  · have HV : Hid (TV = 2) := hid (by rw [← hTV, if_neg (by omega)])
    clear hTV
    go_enter Try.func86, Try.ntmps86
    go_wp2_with (first
      | (go_at_call 35; refine (specStock_eq _ len cap c _ _ h HR.out HZ.out HS.out).mono ?_; rintro e w1 ⟨rfl, b1⟩; have HB1 := hid b1; clear b1)
      | (go_at_call 68; refine (copyS_any a len cap c _ h (HR.out.below HB1.out)).mono ?_; rintro e w2 ⟨v2, rfl, o2, b2⟩; obtain ⟨ad2, cp2, rfl, hcp2, o2⟩ := ownCE6_of o2; have HO2 := hid (o2.mono HB1.out.size); have HB2 := hid (bel_on HB1.out b2); clear o2 b2))
    go_returns
    rw [HM.out.1, HM.out.2.1, HM.out.2.2.2 (by rw [HV.out]; omega), HV.out]
    first | exact ⟨_, _, rfl, HO2.out, HB2.out⟩ | exact ⟨_, ⟨_, rfl⟩, HO2.out, HB2.out⟩
  have HTV : Hid (eaT true len c pk nr = TV) := hid (by rw [← hTV, if_pos (by omega)])
  clear hTV
  go_enter Try.func86, Try.ntmps86
  go_wp2_with (first
    | (go_at_call 35; refine (specStock_eq _ len cap c _ _ h HR.out HZ.out HS.out).mono ?_; rintro e w1 ⟨rfl, b1⟩; have HB1 := hid b1; clear b1)
    | (go_at_call 68; clear tkC; refine (copyS_any a len cap c _ h (HR.out.below HB1.out)).mono ?_; rintro e w2 ⟨v2, rfl, o2, b2⟩; obtain ⟨ad2, cp2, rfl, hcp2, o2⟩ := ownCE6_of o2; have HO2 := hid (o2.mono HB1.out.size); have HB2 := hid (bel_on HB1.out b2); clear o2 b2))
  have hlen2 : len ≤ cp2 := hcp2
  go_loopw [9] (fun i wr => ∃ (k : Nat), k ≤ nr ∧ i = .int .i64 (k : Int) ∧ Hid (eaT true len c pk k = 0) ∧ Hid (OwnCE6 wr w.heap.size ad2 len (eaS true c pk k)) ∧ Hid (Below w.heap.size w wr)) (fun i _ => nr - (intOf i).toNat)
  case atStart => exact ⟨0, Nat.zero_le _, rfl, rfl, HO2.out, HB2.out⟩
  case round =>
    obtain ⟨k, hk, rfl, HT, HO, HW⟩ := hrel
    by_cases hlt : k < nr
    · have hlt2 : (k : Int) < (nr : Int) := by omega
      obtain ⟨kb, off, rfl, hkb⟩ := HP.out.addr (by omega)
      obtain ⟨s0, s1⟩ := (HP.out.below HW.out).cell hlt
      obtain ⟨at1, hat1⟩ : ∃ x, (pk k).at_ = x := ⟨_, rfl⟩
      obtain ⟨q, hq⟩ : ∃ x, (pk k).qty = x := ⟨_, rfl⟩
      rw [hat1] at s0
      rw [hq] at s1
      have HCN := hid (eaS_ok HCN0.out k HT.out)
      have HT1 : Hid (eaT true len c pk (k + 1) = cdP true len (eaS true c pk k) (pk k)) := hid (by simp only [eaT]; rw [if_pos HT.out])
      have HT2 : Hid (∀ v, cdP true len (eaS true c pk k) (pk k) = v → v ≠ 0 → TV = v) := hid (fun v h h0 => by rw [← HTV.out, ← h, ← HT1.out]; exact eaT_stop (by omega) (by rw [HT1.out, h]; exact h0))
      have HPX := hid (And.intro hat1 hq)
      have tk1 : True := trivial
      have tk2 : True := trivial
      clear hat1 hq
      cases ha : inB at1 0 ((len : Int) - 1)
      · have HA := hid ha
        have HV : Hid (TV = 2) := hid (HT2.out 2 (by unfold cdP; rw [HPX.out.1, HPX.out.2, if_neg (by rw [ha]; simp)]) (by omega))
        clear ha
        go_wp2_with (first
        | (go_at_call 63; clear tk1; refine (l1In_eq _ _ _ _ _ HA.out).mono ?_; rintro e w1 ⟨rfl, ew⟩; replace ew := ew.symm; subst ew)
        | (go_at_call 63; clear tk2; refine (l1In_eq _ _ _ _ _ HQ.out).mono ?_; rintro e w1 ⟨rfl, ew⟩; replace ew := ew.symm; subst ew)
        | (go_at_call 68; refine (copyS_any a len cap c _ h (HR.out.below (HW.out.alloc HW.out.size (.cells #[.int .i64 at1, .int .i64 q] 37 (0, 0))))).mono ?_; rintro e w8 ⟨v8, rfl, o8, b8⟩; obtain ⟨ad8, cp8, rfl, hcp8, o8⟩ := ownCE6_of o8; have HO8 := hid (o8.mono (l := w.heap.size) (by have := HW.out.size; simp; omega)); have HB8 : Hid (Below w.heap.size w w8) := hid ((HW.out.alloc HW.out.size (.cells #[.int .i64 at1, .int .i64 q] 37 (0, 0))).trans (b8.mono (by have := HW.out.size; simp; omega))); clear o8 b8))
        go_returns
        rw [HM.out.1, HM.out.2.1, HM.out.2.2.2 (by rw [HV.out]; omega), HV.out]
        first | exact ⟨_, _, rfl, HO8.out, HB8.out⟩ | exact ⟨_, ⟨_, rfl⟩, HO8.out, HB8.out⟩
      have hab := inB_t ha
      cases hqq : inB q 1 1000000
      · have HA := hid ha
        have HQ := hid hqq
        have HV : Hid (TV = 2) := hid (HT2.out 2 (by unfold cdP; rw [HPX.out.1, HPX.out.2, if_neg (by rw [hqq]; simp)]) (by omega))
        clear ha hqq hab
        go_wp2_with (first
        | (go_at_call 63; clear tk1; refine (l1In_eq _ _ _ _ _ HA.out).mono ?_; rintro e w1 ⟨rfl, ew⟩; replace ew := ew.symm; subst ew)
        | (go_at_call 63; clear tk2; refine (l1In_eq _ _ _ _ _ HQ.out).mono ?_; rintro e w1 ⟨rfl, ew⟩; replace ew := ew.symm; subst ew)
        | (go_at_call 68; refine (copyS_any a len cap c _ h (HR.out.below (HW.out.alloc HW.out.size (.cells #[.int .i64 at1, .int .i64 q] 37 (0, 0))))).mono ?_; rintro e w8 ⟨v8, rfl, o8, b8⟩; obtain ⟨ad8, cp8, rfl, hcp8, o8⟩ := ownCE6_of o8; have HO8 := hid (o8.mono (l := w.heap.size) (by have := HW.out.size; simp; omega)); have HB8 : Hid (Below w.heap.size w w8) := hid ((HW.out.alloc HW.out.size (.cells #[.int .i64 at1, .int .i64 q] 37 (0, 0))).trans (b8.mono (by have := HW.out.size; simp; omega))); clear o8 b8))
        go_returns
        rw [HM.out.1, HM.out.2.1, HM.out.2.2.2 (by rw [HV.out]; omega), HV.out]
        first | exact ⟨_, _, rfl, HO8.out, HB8.out⟩ | exact ⟨_, ⟨_, rfl⟩, HO8.out, HB8.out⟩
      have HA := hid ha
      have HQ := hid hqq
      have HQB := hid (inB_t hqq)
      obtain ⟨i, rfl⟩ : ∃ i : Nat, at1 = (i : Int) := ⟨at1.toNat, by omega⟩
      have hin : i < len := by omega
      have hin2 : (i : Int) < (len : Int) := by omega
      clear ha hqq hab
      obtain ⟨g, rfl, hg, hro⟩ := own_ro HO.out (by omega)
      have HRO := hid hro
      have hgl := hro.lt
      have HG := hid hg
      obtain ⟨c0, c1, c2, c3, c4, c5⟩ := hro.el hin
      obtain ⟨qt, hqt⟩ : ∃ x, (eaS true c pk k i).qty = x := ⟨_, rfl⟩
      obtain ⟨hd, hhd⟩ : ∃ x, (eaS true c pk k i).hld = x := ⟨_, rfl⟩
      have hcb := HCN.out i hin
      rw [hqt, hhd] at hcb
      rw [hqt] at c4
      rw [hhd] at c5
      have HX := hid (And.intro hqt hhd)
      clear hro hg hqt hhd
      cases hsh : shB true (eaS true c pk k i) q
      · have HTK : Hid (cdP true len (eaS true c pk k) (pk k) = 0) := hid (by unfold cdP; rw [HPX.out.1, HPX.out.2, HA.out, HQ.out]; simp [hsh])
        have hlts : ¬ hd < q := by unfold shB at hsh; rw [HX.out.1, HX.out.2] at hsh; simp at hsh; omega
        have HQC := HQB.out
        have hw1 : IntKind.i64.wrap (qt - hd) = qt - hd := IntWalk.i64_in _ ⟨by omega, by omega⟩
        have hw2 : IntKind.i64.wrap (hd - q) = hd - q := IntWalk.i64_in _ ⟨by omega, by omega⟩
        have hw3 : IntKind.i64.wrap (qt - q) = qt - q := IntWalk.i64_in _ ⟨by omega, by omega⟩
        clear hsh
        have hst : stC true (eaS true c pk k i) q = ⟨(eaS true c pk k i).item, (eaS true c pk k i).place, (eaS true c pk k i).lot, (eaS true c pk k i).exp, qt - q, hd - q⟩ := by unfold stC; simp [HX.out.1, HX.out.2]
        have HF : Hid (∀ o1 o2, OwnCE6 ((((((((wr.setCell ⟨g, i * 6, none⟩ (.string (eaS true c pk k i).item)).setCell ⟨g, i * 6 + 1, none⟩ (.string (eaS true c pk k i).place)).setCell ⟨g, i * 6 + 2, none⟩ (.string (eaS true c pk k i).lot)).setCell ⟨g, i * 6 + 3, none⟩ (.int .i64 (eaS true c pk k i).exp)).setCell ⟨g, i * 6 + 4, none⟩ (.int .i64 (qt - q))).setCell ⟨g, i * 6 + 5, none⟩ (.int .i64 (hd - q))).alloc o1).alloc o2) w.heap.size (some ⟨g, 0, none⟩) len (eaS true c pk (k + 1)) ∧ Below w.heap.size w ((((((((wr.setCell ⟨g, i * 6, none⟩ (.string (eaS true c pk k i).item)).setCell ⟨g, i * 6 + 1, none⟩ (.string (eaS true c pk k i).place)).setCell ⟨g, i * 6 + 2, none⟩ (.string (eaS true c pk k i).lot)).setCell ⟨g, i * 6 + 3, none⟩ (.int .i64 (eaS true c pk k i).exp)).setCell ⟨g, i * 6 + 4, none⟩ (.int .i64 (qt - q))).setCell ⟨g, i * 6 + 5, none⟩ (.int .i64 (hd - q))).alloc o1).alloc o2)) := hid (fun o1 o2 => by
          have T6 := HRO.out.setAll hin ⟨(eaS true c pk k i).item, (eaS true c pk k i).place, (eaS true c pk k i).lot, (eaS true c pk k i).exp, qt - q, hd - q⟩
          rw [← hst] at T6
          have e : eaS true c pk (k + 1) = putC (eaS true c pk k) i (stC true (eaS true c pk k i) q) := by simp only [eaS]; rw [HPX.out.1, HPX.out.2]; rfl
          rw [e]
          rw [hst] at T6 ⊢
          exact ⟨((T6.below ((Below.refl _ _).alloc (Nat.le_refl _) _)).below ((Below.refl _ _).alloc (Nat.le_refl _) _)).own HG.out, ((set6_bel HG.out HW.out).alloc (by have := HW.out.size; simp; omega) _).alloc (by have := HW.out.size; simp; omega) _⟩)
        have f0 := HRO.out.fr (i * 6)
        have f1 := HRO.out.fr (i * 6 + 1)
        have f2 := HRO.out.fr (i * 6 + 2)
        have f3 := HRO.out.fr (i * 6 + 3)
        have f4 := HRO.out.fr (i * 6 + 4)
        have f5 := HRO.out.fr (i * 6 + 5)
        clear hst
        go_wp2_with (first
        | (go_at_call 63; clear tk1; refine (l1In_eq _ _ _ _ _ HA.out).mono ?_; rintro e w1 ⟨rfl, ew⟩; replace ew := ew.symm; subst ew)
        | (go_at_call 63; clear tk2; refine (l1In_eq _ _ _ _ _ HQ.out).mono ?_; rintro e w1 ⟨rfl, ew⟩; replace ew := ew.symm; subst ew)
        | (go_at_call 68; refine (copyS_any a len cap c _ h (HR.out.below ((HW.out.alloc HW.out.size (.cells #[.int .i64 (i : Int), .int .i64 q] 37 (0, 0))).alloc (by have := HW.out.size; simp; omega) (.cells #[.string (eaS true c pk k i).item, .string (eaS true c pk k i).place, .string (eaS true c pk k i).lot, .int .i64 (eaS true c pk k i).exp, .int .i64 qt, .int .i64 hd] 28 (0, 0))))).mono ?_; rintro e w8 ⟨v8, rfl, o8, b8⟩; obtain ⟨ad8, cp8, rfl, hcp8, o8⟩ := ownCE6_of o8; have HO8 := hid (o8.mono (l := w.heap.size) (by have := HW.out.size; simp; omega)); have HB8 : Hid (Below w.heap.size w w8) := hid (((HW.out.alloc HW.out.size (.cells #[.int .i64 (i : Int), .int .i64 q] 37 (0, 0))).alloc (by have := HW.out.size; simp; omega) (.cells #[.string (eaS true c pk k i).item, .string (eaS true c pk k i).place, .string (eaS true c pk k i).lot, .int .i64 (eaS true c pk k i).exp, .int .i64 qt, .int .i64 hd] 28 (0, 0))).trans (b8.mono (by have := HW.out.size; simp; omega))); clear o8 b8))
        go_roundw
        case rel => exact ⟨k + 1, by omega, by go_num, HT1.out.trans HTK.out, (HF.out _ _).1, (HF.out _ _).2⟩
        case measure => simp [intOf]; omega
      · have HV : Hid (TV = 3) := hid (HT2.out 3 (by unfold cdP; rw [HPX.out.1, HPX.out.2, HA.out, HQ.out]; simp [hsh]) (by omega))
        have hlts : hd < q := by unfold shB at hsh; rw [HX.out.1, HX.out.2] at hsh; simp at hsh; omega
        have HQC := HQB.out
        have hw1 : IntKind.i64.wrap (qt - hd) = qt - hd := IntWalk.i64_in _ ⟨by omega, by omega⟩
        have hw2 : IntKind.i64.wrap (hd - q) = hd - q := IntWalk.i64_in _ ⟨by omega, by omega⟩
        have hw3 : IntKind.i64.wrap (qt - q) = qt - q := IntWalk.i64_in _ ⟨by omega, by omega⟩
        clear hsh
        go_wp2_with (first
        | (go_at_call 63; clear tk1; refine (l1In_eq _ _ _ _ _ HA.out).mono ?_; rintro e w1 ⟨rfl, ew⟩; replace ew := ew.symm; subst ew)
        | (go_at_call 63; clear tk2; refine (l1In_eq _ _ _ _ _ HQ.out).mono ?_; rintro e w1 ⟨rfl, ew⟩; replace ew := ew.symm; subst ew)
        | (go_at_call 68; refine (copyS_any a len cap c _ h (HR.out.below ((HW.out.alloc HW.out.size (.cells #[.int .i64 (i : Int), .int .i64 q] 37 (0, 0))).alloc (by have := HW.out.size; simp; omega) (.cells #[.string (eaS true c pk k i).item, .string (eaS true c pk k i).place, .string (eaS true c pk k i).lot, .int .i64 (eaS true c pk k i).exp, .int .i64 qt, .int .i64 hd] 28 (0, 0))))).mono ?_; rintro e w8 ⟨v8, rfl, o8, b8⟩; obtain ⟨ad8, cp8, rfl, hcp8, o8⟩ := ownCE6_of o8; have HO8 := hid (o8.mono (l := w.heap.size) (by have := HW.out.size; simp; omega)); have HB8 : Hid (Below w.heap.size w w8) := hid (((HW.out.alloc HW.out.size (.cells #[.int .i64 (i : Int), .int .i64 q] 37 (0, 0))).alloc (by have := HW.out.size; simp; omega) (.cells #[.string (eaS true c pk k i).item, .string (eaS true c pk k i).place, .string (eaS true c pk k i).lot, .int .i64 (eaS true c pk k i).exp, .int .i64 qt, .int .i64 hd] 28 (0, 0))).trans (b8.mono (by have := HW.out.size; simp; omega))); clear o8 b8))
        go_returns
        rw [HM.out.1, HM.out.2.1, HM.out.2.2.2 (by rw [HV.out]; omega), HV.out]
        first | exact ⟨_, _, rfl, HO8.out, HB8.out⟩ | exact ⟨_, ⟨_, rfl⟩, HO8.out, HB8.out⟩
    · obtain rfl : k = nr := by omega
      have lkk : ¬ (k : Int) < (k : Int) := by omega
      have HV : Hid (TV = 0) := hid (by rw [← HTV.out]; exact HT.out)
      go_wp2
      go_returns
      rw [HM.out.1, HM.out.2.1, HM.out.2.2.1 HV.out, HV.out]
      first | exact ⟨_, _, rfl, HO.out, HW.out⟩ | exact ⟨_, ⟨_, rfl⟩, HO.out, HW.out⟩
theorem specShip_any (a : Addr) (len cap : Nat) (c : Nat → CE6) (ar : Option Addr) (nr rcap : Nat) (pk : Nat → PK2) (w : World) (h : (len : Int) ≤ 1048576) (hnr : (nr : Int) ≤ 1048576) (hr : CEr w (some a) len c) (hz : CZ c) (hp : PKr w ar nr pk) :
    Calls Try.prog 27 #[.slice (some a) len cap, .slice ar nr rcap] w fun e w' => ∃ ad cp, e = .returned (.tuple #[.slice ad (eaM len c) cp, .int .i64 (eaV true len c nr pk)]) ∧ OwnCE6 w' w.heap.size ad (eaM len c) (eaC true len c nr pk) ∧ Below w.heap.size w w' := by
  have HR := hid hr
  have HZ := hid hz
  have HP := hid hp
  clear hr hz hp
  go_enter Try.func27, Try.ntmps27
  go_wp2_with (go_at_call 86; refine (each_ship a len cap c ar nr rcap pk _ h hnr HR.out HZ.out HP.out).mono ?_; rintro e w1 ⟨ad1, cp1, rfl, o1, b1⟩; have HO1 := hid o1; have HB1 := hid b1; clear o1 b1)
  go_returns
  exact ⟨_, _, rfl, HO1.out, HB1.out⟩

end Go.Proofs.Ytpmnnfjabppahaa
