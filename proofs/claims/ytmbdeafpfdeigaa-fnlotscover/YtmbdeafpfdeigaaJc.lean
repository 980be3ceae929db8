/- An item that is right: the program's isRight answers 'itB'. -/
import Derived.Test.YtmbdeafpfdeigaaJb
import Derived.Test.YtmbdeafpfdeigaaIt
namespace Go.Proofs.Ytmbdeafpfdeigaa
open Go.ChangeShapes Go.WideShapes Go.ChangeAt Go.RowKit
set_option linter.unusedVariables false
set_option linter.unusedSimpArgs false

/-- Whether a Phantom has Parts and no Also. -/
def phB (p : Bool) (a b : Nat) : Bool := !p || (decide (0 < a) && decide (b = 0))
noncomputable def itB (o n : Int) (x : IT) : Bool := nameB x.name && inB x.batch 1 1000000 && phB x.pha x.parn x.alsn && apB (paB o n) x.parn x.parz && apB (beB o n) x.alsn x.alsz
theorem itB_p {o n : Int} {x : IT} (h : itB o n x = true) : nameB x.name = true ∧ (1 ≤ x.batch ∧ x.batch ≤ 1000000) ∧ phB x.pha x.parn x.alsn = true ∧ ApP (paB o n) x.parn x.parz ∧ ApP (beB o n) x.alsn x.alsz := by
  unfold itB at h
  simp only [Bool.and_eq_true] at h
  exact ⟨h.1.1.1.1, inB_t h.1.1.1.2, h.1.1.2, apB_p h.1.2, apB_p h.2⟩
theorem implName_eq (s : ByteArray) (v : Bool) (w : World) (hs : s.size ≤ maxLen) (h : nameB s = v) : Calls Try.prog 125 #[.string s] w fun e w' => e = .returned (.bool v) ∧ w' = w := by
  subst h; exact implName_any s w hs
theorem specName_eq (s : ByteArray) (v : Bool) (w : World) (hs : s.size ≤ maxLen) (h : nameB s = v) : Calls Try.prog 70 #[.string s] w fun e w' => e = .returned (.bool v) ∧ w' = w := by
  subst h; exact specName_any s w hs

theorem it_world (w : World) (ci : Array Value) (o n : Int) :
    EQ ((((w.alloc (.cells ci 31 (0, 0))).alloc (.cells #[.int .i64 o] 3 (0, 0))).alloc (.cells #[.int .i64 n] 3 (0, 0))).alloc (.cells #[.func (.func 126) #[] #[.pointer (some ⟨w.heap.size + 1, 0, none⟩), .pointer (some ⟨w.heap.size + 1 + 1, 0, none⟩)]] 125 (0, 0))) (w.heap.size + 1 + 1 + 1) (w.heap.size + 1) (w.heap.size + 1 + 1) o n ∧ CB ((((w.alloc (.cells ci 31 (0, 0))).alloc (.cells #[.int .i64 o] 3 (0, 0))).alloc (.cells #[.int .i64 n] 3 (0, 0))).alloc (.cells #[.func (.func 126) #[] #[.pointer (some ⟨w.heap.size + 1, 0, none⟩), .pointer (some ⟨w.heap.size + 1 + 1, 0, none⟩)]] 125 (0, 0))) w.heap.size ci 31 ∧ Below w.heap.size w ((((w.alloc (.cells ci 31 (0, 0))).alloc (.cells #[.int .i64 o] 3 (0, 0))).alloc (.cells #[.int .i64 n] 3 (0, 0))).alloc (.cells #[.func (.func 126) #[] #[.pointer (some ⟨w.heap.size + 1, 0, none⟩), .pointer (some ⟨w.heap.size + 1 + 1, 0, none⟩)]] 125 (0, 0))) := by
  have C1 : CB ((w.alloc (.cells ci 31 (0, 0))).alloc (.cells #[.int .i64 o] 3 (0, 0))) (w.heap.size + 1) #[.int .i64 o] 3 := CB.newAt (by simp) _ _
  have C2 : CB (((w.alloc (.cells ci 31 (0, 0))).alloc (.cells #[.int .i64 o] 3 (0, 0))).alloc (.cells #[.int .i64 n] 3 (0, 0))) (w.heap.size + 1 + 1) #[.int .i64 n] 3 := CB.newAt (by simp) _ _
  have C3 : CB ((((w.alloc (.cells ci 31 (0, 0))).alloc (.cells #[.int .i64 o] 3 (0, 0))).alloc (.cells #[.int .i64 n] 3 (0, 0))).alloc (.cells #[.func (.func 126) #[] #[.pointer (some ⟨w.heap.size + 1, 0, none⟩), .pointer (some ⟨w.heap.size + 1 + 1, 0, none⟩)]] 125 (0, 0))) (w.heap.size + 1 + 1 + 1) #[.func (.func 126) #[] #[.pointer (some ⟨w.heap.size + 1, 0, none⟩), .pointer (some ⟨w.heap.size + 1 + 1, 0, none⟩)]] 125 := CB.newAt (by simp) _ _
  refine ⟨⟨(C3.cell 0).trans rfl, (((C1.alloc _).alloc _).cell 0).trans rfl, ((C2.alloc _).cell 0).trans rfl⟩, (((CB.new ci 31).alloc _).alloc _).alloc _, ?_⟩
  exact ((((Below.refl _ _).alloc (Nat.le_refl _) _).alloc (by simp) _).alloc (by simp; omega) _).alloc (by simp; omega) _

set_option maxRecDepth 20000 in
set_option maxHeartbeats 4000000 in
theorem itRight_any (nm : ByteArray) (ba : Int) (ph : Bool) (ra : Option Addr) (rn rc : Nat) (rz : Nat → PA6) (sa : Option Addr) (sn sc : Nat) (sz : Nat → PA6) (o n : Int) (w : World) (hb : OnB o n) (hz : nm.size ≤ maxLen) (h1r : (rn : Int) ≤ 1048576) (h1s : (sn : Int) ≤ 1048576) (hR : PAr w ra rn rz) (hS : PAr w sa sn sz) :
    Calls Try.prog 90 #[.agg #[.string nm, .int .i64 ba, .bool ph, .slice ra rn rc, .slice sa sn sc], .int .i64 o, .int .i64 n] w fun e w' => e = .returned (.bool (itB o n ⟨nm, ba, ph, rn, rz, sn, sz⟩)) ∧ Below w.heap.size w w' := by
  have HZ : Hid (nm.size ≤ maxLen) := hz
  have HR : Hid (PAr w ra rn rz) := hR
  have HS : Hid (PAr w sa sn sz) := hS
  have HB3 : Hid (Below w.heap.size w (((w.alloc (.cells #[.string nm, .int .i64 ba, .bool ph, .slice ra rn rc, .slice sa sn sc] 31 (0, 0))).alloc (.cells #[.int .i64 o] 3 (0, 0))).alloc (.cells #[.int .i64 n] 3 (0, 0)))) := (((Below.refl _ _).alloc (Nat.le_refl _) _).alloc (by simp) _).alloc (by simp; omega) _
  clear hz hR hS
  cases h1 : nameB nm
  · have HV : Hid (false = itB o n ⟨nm, ba, ph, rn, rz, sn, sz⟩) := hid (by simp [itB, phB, h1])
    go_enter Try.func90, Try.ntmps90
    go_wp2_with (first | (go_at_call 125; refine (implName_eq _ _ _ HZ.out h1).mono ?_; rintro e w1 ⟨rfl, ew⟩; replace ew := ew.symm; subst ew) | (go_at_call 114; refine (isQtyA_eq _ _ _ h2).mono ?_; rintro e w1 ⟨rfl, ew⟩; replace ew := ew.symm; subst ew))
    go_returns
    exact ⟨ret_bool HV.out, HB3.out⟩
  cases h2 : inB ba 1 1000000
  · have HV : Hid (false = itB o n ⟨nm, ba, ph, rn, rz, sn, sz⟩) := hid (by simp [itB, phB, h1, h2])
    go_enter Try.func90, Try.ntmps90
    go_wp2_with (first | (go_at_call 125; refine (implName_eq _ _ _ HZ.out h1).mono ?_; rintro e w1 ⟨rfl, ew⟩; replace ew := ew.symm; subst ew) | (go_at_call 114; refine (isQtyA_eq _ _ _ h2).mono ?_; rintro e w1 ⟨rfl, ew⟩; replace ew := ew.symm; subst ew))
    go_returns
    exact ⟨ret_bool HV.out, HB3.out⟩
  have HP : phB ph rn sn = true → Hid (itB o n ⟨nm, ba, ph, rn, rz, sn, sz⟩ = (apB (paB o n) rn rz && apB (beB o n) sn sz)) := fun q => hid (by simp [itB, h1, h2, q])
  cases hph : phB ph rn sn
  · obtain ⟨rfl, hq⟩ : ph = true ∧ (rn = 0 ∨ ¬ sn = 0) := by
      cases ph
      · simp [phB] at hph
      · refine ⟨rfl, ?_⟩
        simp [phB] at hph
        omega
    have HV : Hid (false = itB o n ⟨nm, ba, true, rn, rz, sn, sz⟩) := hid (by simp only [itB, h1, h2, hph]; rfl)
    by_cases q0 : rn = 0
    · have g0 : ((rn : Int) == 0) = true := by simp [q0]
      clear hph hq q0
      go_enter Try.func90, Try.ntmps90
      go_wp2_with (first | (go_at_call 125; refine (implName_eq _ _ _ HZ.out h1).mono ?_; rintro e w1 ⟨rfl, ew⟩; replace ew := ew.symm; subst ew) | (go_at_call 114; refine (isQtyA_eq _ _ _ h2).mono ?_; rintro e w1 ⟨rfl, ew⟩; replace ew := ew.symm; subst ew))
      go_returns
      exact ⟨ret_bool HV.out, HB3.out⟩
    · have g0 : ((rn : Int) == 0) = false := by simp [q0]
      have g1 : (0 : Int) < (sn : Int) := by omega
      have g2 : decide ((0 : Int) < (sn : Int)) = true := decide_eq_true g1
      clear hph hq q0
      go_enter Try.func90, Try.ntmps90
      go_wp2_with (first | (go_at_call 125; refine (implName_eq _ _ _ HZ.out h1).mono ?_; rintro e w1 ⟨rfl, ew⟩; replace ew := ew.symm; subst ew) | (go_at_call 114; refine (isQtyA_eq _ _ _ h2).mono ?_; rintro e w1 ⟨rfl, ew⟩; replace ew := ew.symm; subst ew))
      go_returns
      exact ⟨ret_bool HV.out, HB3.out⟩
  replace HP := HP hph
  have HPH : Hid (phB ph rn sn = true) := hph
  clear hph
  have hsf : ∀ (a : Addr) (fn : Fn) (x y : Array Value) (W : World), (store a (.func fn x y)).run Try.prog W = stored Try.prog W a (.func fn x y) .plain := fun a fn x y W => run_store _ _ _ _ _ rfl
  cases ph
  · have HW : Hid (EQ ((((w.alloc (.cells #[.string nm, .int .i64 ba, .bool false, .slice ra rn rc, .slice sa sn sc] 31 (0, 0))).alloc (.cells #[.int .i64 o] 3 (0, 0))).alloc (.cells #[.int .i64 n] 3 (0, 0))).alloc (.cells #[.func (.func 126) #[] #[.pointer (some ⟨w.heap.size + 1, 0, none⟩), .pointer (some ⟨w.heap.size + 1 + 1, 0, none⟩)]] 125 (0, 0))) (w.heap.size + 1 + 1 + 1) (w.heap.size + 1) (w.heap.size + 1 + 1) o n ∧ CB ((((w.alloc (.cells #[.string nm, .int .i64 ba, .bool false, .slice ra rn rc, .slice sa sn sc] 31 (0, 0))).alloc (.cells #[.int .i64 o] 3 (0, 0))).alloc (.cells #[.int .i64 n] 3 (0, 0))).alloc (.cells #[.func (.func 126) #[] #[.pointer (some ⟨w.heap.size + 1, 0, none⟩), .pointer (some ⟨w.heap.size + 1 + 1, 0, none⟩)]] 125 (0, 0))) w.heap.size #[.string nm, .int .i64 ba, .bool false, .slice ra rn rc, .slice sa sn sc] 31 ∧ Below w.heap.size w ((((w.alloc (.cells #[.string nm, .int .i64 ba, .bool false, .slice ra rn rc, .slice sa sn sc] 31 (0, 0))).alloc (.cells #[.int .i64 o] 3 (0, 0))).alloc (.cells #[.int .i64 n] 3 (0, 0))).alloc (.cells #[.func (.func 126) #[] #[.pointer (some ⟨w.heap.size + 1, 0, none⟩), .pointer (some ⟨w.heap.size + 1 + 1, 0, none⟩)]] 125 (0, 0)))) := it_world w _ o n
    cases hv1 : apB (paB o n) rn rz
    · have HR3 : Hid (itB o n ⟨nm, ba, false, rn, rz, sn, sz⟩ = false) := hid (by rw [HP.out, hv1]; rfl)
      have HV1 : Hid (apB (paB o n) rn rz = false) := hv1
      clear hv1 HP
      have tok1 : True := trivial
      go_enter Try.func90, Try.ntmps90
      go_wp2_with (first | (go_at_call 125; refine (implName_eq _ _ _ HZ.out h1).mono ?_; rintro e w1 ⟨rfl, ew⟩; replace ew := ew.symm; subst ew) | (go_at_call 114; refine (isQtyA_eq _ _ _ h2).mono ?_; rintro e w1 ⟨rfl, ew⟩; replace ew := ew.symm; subst ew) | (go_at_call 129; clear tok1; refine (arePart_eq ra rn rc rz (w.heap.size + 1) (w.heap.size + 1 + 1) o n _ _ hb HW.out.1.2 h1r (HR.out.below HW.out.2.2) HV1.out).mono ?_; rintro e w1 ⟨rfl, b1⟩; have k4 : w1.cell? ⟨w.heap.size, 4, none⟩ = some (.slice sa sn sc) := ((HW.out.2.1.below b1 HW.out.2.1.lt).cell 4).trans rfl; have HE1 : Hid (EQ w1 (w.heap.size + 1 + 1 + 1) (w.heap.size + 1) (w.heap.size + 1 + 1) o n) := HW.out.1.below b1; have HB1 : Hid (Below w.heap.size w w1) := bel_on HW.out.2.2 b1; clear b1))
      go_returns
      exact ⟨ret_bool HR3.out.symm, HB1.out⟩
    have HR3 : Hid (itB o n ⟨nm, ba, false, rn, rz, sn, sz⟩ = apB (beB o n) sn sz) := hid (by rw [HP.out, hv1]; rfl)
    have HV1 : Hid (apB (paB o n) rn rz = true) := hv1
    obtain ⟨v2, hv2⟩ : ∃ v, apB (beB o n) sn sz = v := ⟨_, rfl⟩
    rw [hv2] at HR3
    have HV2 : Hid (apB (beB o n) sn sz = v2) := hv2
    clear hv1 hv2 HP
    have tok1 : True := trivial
    go_enter Try.func90, Try.ntmps90
    go_wp2_with (first | (go_at_call 125; refine (implName_eq _ _ _ HZ.out h1).mono ?_; rintro e w1 ⟨rfl, ew⟩; replace ew := ew.symm; subst ew) | (go_at_call 114; refine (isQtyA_eq _ _ _ h2).mono ?_; rintro e w1 ⟨rfl, ew⟩; replace ew := ew.symm; subst ew) | (go_at_call 129; clear tok1; refine (arePart_eq ra rn rc rz (w.heap.size + 1) (w.heap.size + 1 + 1) o n _ _ hb HW.out.1.2 h1r (HR.out.below HW.out.2.2) HV1.out).mono ?_; rintro e w1 ⟨rfl, b1⟩; have k4 : w1.cell? ⟨w.heap.size, 4, none⟩ = some (.slice sa sn sc) := ((HW.out.2.1.below b1 HW.out.2.1.lt).cell 4).trans rfl; have HE1 : Hid (EQ w1 (w.heap.size + 1 + 1 + 1) (w.heap.size + 1) (w.heap.size + 1 + 1) o n) := HW.out.1.below b1; have HB1 : Hid (Below w.heap.size w w1) := bel_on HW.out.2.2 b1; clear b1) | (go_at_call 129; refine (areBes_eq sa sn sc sz (w.heap.size + 1 + 1 + 1) (w.heap.size + 1) (w.heap.size + 1 + 1) o n _ _ hb HE1.out h1s (HS.out.below HB1.out) HV2.out).mono ?_; rintro e w2 ⟨rfl, b2⟩; have HB2 : Hid (Below w.heap.size w w2) := bel_on HB1.out b2; clear b2))
    go_returns
    exact ⟨ret_bool HR3.out.symm, HB2.out⟩
  have hq : ¬ rn = 0 ∧ sn = 0 := by
    have := HPH.out
    simp [phB] at this
    omega
  obtain ⟨hq1, rfl⟩ := hq
  have g0 : ((rn : Int) == 0) = false := by simp [hq1]
  clear hq1 HPH
  have HW : Hid (EQ ((((w.alloc (.cells #[.string nm, .int .i64 ba, .bool true, .slice ra rn rc, .slice sa 0 sc] 31 (0, 0))).alloc (.cells #[.int .i64 o] 3 (0, 0))).alloc (.cells #[.int .i64 n] 3 (0, 0))).alloc (.cells #[.func (.func 126) #[] #[.pointer (some ⟨w.heap.size + 1, 0, none⟩), .pointer (some ⟨w.heap.size + 1 + 1, 0, none⟩)]] 125 (0, 0))) (w.heap.size + 1 + 1 + 1) (w.heap.size + 1) (w.heap.size + 1 + 1) o n ∧ CB ((((w.alloc (.cells #[.string nm, .int .i64 ba, .bool true, .slice ra rn rc, .slice sa 0 sc] 31 (0, 0))).alloc (.cells #[.int .i64 o] 3 (0, 0))).alloc (.cells #[.int .i64 n] 3 (0, 0))).alloc (.cells #[.func (.func 126) #[] #[.pointer (some ⟨w.heap.size + 1, 0, none⟩), .pointer (some ⟨w.heap.size + 1 + 1, 0, none⟩)]] 125 (0, 0))) w.heap.size #[.string nm, .int .i64 ba, .bool true, .slice ra rn rc, .slice sa 0 sc] 31 ∧ Below w.heap.size w ((((w.alloc (.cells #[.string nm, .int .i64 ba, .bool true, .slice ra rn rc, .slice sa 0 sc] 31 (0, 0))).alloc (.cells #[.int .i64 o] 3 (0, 0))).alloc (.cells #[.int .i64 n] 3 (0, 0))).alloc (.cells #[.func (.func 126) #[] #[.pointer (some ⟨w.heap.size + 1, 0, none⟩), .pointer (some ⟨w.heap.size + 1 + 1, 0, none⟩)]] 125 (0, 0)))) := it_world w _ o n
  cases hv1 : apB (paB o n) rn rz
  · have HR3 : Hid (itB o n ⟨nm, ba, true, rn, rz, 0, sz⟩ = false) := hid (by rw [HP.out, hv1]; rfl)
    have HV1 : Hid (apB (paB o n) rn rz = false) := hv1
    clear hv1 HP
    have tok1 : True := trivial
    go_enter Try.func90, Try.ntmps90
    go_wp2_with (first | (go_at_call 125; refine (implName_eq _ _ _ HZ.out h1).mono ?_; rintro e w1 ⟨rfl, ew⟩; replace ew := ew.symm; subst ew) | (go_at_call 114; refine (isQtyA_eq _ _ _ h2).mono ?_; rintro e w1 ⟨rfl, ew⟩; replace ew := ew.symm; subst ew) | (go_at_call 129; clear tok1; refine (arePart_eq ra rn rc rz (w.heap.size + 1) (w.heap.size + 1 + 1) o n _ _ hb HW.out.1.2 h1r (HR.out.below HW.out.2.2) HV1.out).mono ?_; rintro e w1 ⟨rfl, b1⟩; have k4 : w1.cell? ⟨w.heap.size, 4, none⟩ = some (.slice sa 0 sc) := ((HW.out.2.1.below b1 HW.out.2.1.lt).cell 4).trans rfl; have HE1 : Hid (EQ w1 (w.heap.size + 1 + 1 + 1) (w.heap.size + 1) (w.heap.size + 1 + 1) o n) := HW.out.1.below b1; have HB1 : Hid (Below w.heap.size w w1) := bel_on HW.out.2.2 b1; clear b1))
    go_returns
    exact ⟨ret_bool HR3.out.symm, HB1.out⟩
  have HR3 : Hid (itB o n ⟨nm, ba, true, rn, rz, 0, sz⟩ = apB (beB o n) 0 sz) := hid (by rw [HP.out, hv1]; rfl)
  have HV1 : Hid (apB (paB o n) rn rz = true) := hv1
  obtain ⟨v2, hv2⟩ : ∃ v, apB (beB o n) 0 sz = v := ⟨_, rfl⟩
  rw [hv2] at HR3
  have HV2 : Hid (apB (beB o n) 0 sz = v2) := hv2
  clear hv1 hv2 HP
  have tok1 : True := trivial
  go_enter Try.func90, Try.ntmps90
  go_wp2_with (first | (go_at_call 125; refine (implName_eq _ _ _ HZ.out h1).mono ?_; rintro e w1 ⟨rfl, ew⟩; replace ew := ew.symm; subst ew) | (go_at_call 114; refine (isQtyA_eq _ _ _ h2).mono ?_; rintro e w1 ⟨rfl, ew⟩; replace ew := ew.symm; subst ew) | (go_at_call 129; clear tok1; refine (arePart_eq ra rn rc rz (w.heap.size + 1) (w.heap.size + 1 + 1) o n _ _ hb HW.out.1.2 h1r (HR.out.below HW.out.2.2) HV1.out).mono ?_; rintro e w1 ⟨rfl, b1⟩; have k4 : w1.cell? ⟨w.heap.size, 4, none⟩ = some (.slice sa 0 sc) := ((HW.out.2.1.below b1 HW.out.2.1.lt).cell 4).trans rfl; have HE1 : Hid (EQ w1 (w.heap.size + 1 + 1 + 1) (w.heap.size + 1) (w.heap.size + 1 + 1) o n) := HW.out.1.below b1; have HB1 : Hid (Below w.heap.size w w1) := bel_on HW.out.2.2 b1; clear b1) | (go_at_call 129; refine (areBes_eq sa 0 sc sz (w.heap.size + 1 + 1 + 1) (w.heap.size + 1) (w.heap.size + 1 + 1) o n _ _ hb HE1.out h1s (HS.out.below HB1.out) HV2.out).mono ?_; rintro e w2 ⟨rfl, b2⟩; have HB2 : Hid (Below w.heap.size w w2) := bel_on HB1.out b2; clear b2))
  go_returns
  exact ⟨ret_bool HR3.out.symm, HB2.out⟩
end Go.Proofs.Ytmbdeafpfdeigaa
