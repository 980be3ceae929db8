/- Remind of the program and of the model. -/
import Derived.Test.YtlhgmdmbjpaakaaNb
import Derived.Test.YtlhgmdmbjpaakaaCa
namespace Go.Proofs.Ytlhgmdmbjpaakaa
open Go.ChangeShapes Go.WideShapes Go.ChangeAt Go.RowKit
set_option linter.unusedVariables false
set_option linter.unusedSimpArgs false

theorem dlE_eq (days fee rate : Int) : dlE days fee rate = (inB days 0 1000 && (inB fee 0 100000000000 && inB rate 0 100000)) := by
  unfold dlE inB; rw [Bool.eq_iff_iff]; simp; omega
def RmP (n : Nat) (z : Nat → DN3) (du to_ lv am : Int) : Prop := dlB n z = true ∧ (0 ≤ du ∧ du ≤ 40000) ∧ (0 ≤ to_ ∧ to_ ≤ 40000) ∧ (0 ≤ lv ∧ lv < n) ∧ (0 ≤ am ∧ am ≤ 100000000000) ∧ (z lv.toNat).days ≤ to_ - du
open Classical in
noncomputable def rmB (n : Nat) (z : Nat → DN3) (du to_ lv am : Int) : Bool := decide (RmP n z du to_ lv am)
open Classical in
theorem rmB_t {n : Nat} {z : Nat → DN3} {du to_ lv am : Int} (h : RmP n z du to_ lv am) : rmB n z du to_ lv am = true := by unfold rmB; exact decide_eq_true h
open Classical in
theorem rmB_f {n : Nat} {z : Nat → DN3} {du to_ lv am : Int} (h : ¬ RmP n z du to_ lv am) : rmB n z du to_ lv am = false := by unfold rmB; exact decide_eq_false h
open Classical in
theorem rmB_p {n : Nat} {z : Nat → DN3} {du to_ lv am : Int} (h : rmB n z du to_ lv am = true) : RmP n z du to_ lv am := by unfold rmB at h; exact of_decide_eq_true h
noncomputable def rmL (n : Nat) (z : Nat → DN3) (du to_ lv am : Int) : Int := if rmB n z du to_ lv am = true then lv + 1 else lv
noncomputable def rmC (n : Nat) (z : Nat → DN3) (du to_ lv am : Int) : Int := if rmB n z du to_ lv am = true then (z lv.toNat).fee + mdV am (z lv.toNat).rate 100000 3 else 0
theorem rm_no {n : Nat} {z : Nat → DN3} {du to_ lv am : Int} (h : ¬ RmP n z du to_ lv am) : lv = rmL n z du to_ lv am ∧ 0 = rmC n z du to_ lv am := by unfold rmL rmC; rw [rmB_f h]; exact ⟨(if_neg (by decide)).symm, (if_neg (by decide)).symm⟩
theorem rm_yes {n : Nat} {z : Nat → DN3} {du to_ lv am : Int} (h : RmP n z du to_ lv am) : lv + 1 = rmL n z du to_ lv am ∧ (z lv.toNat).fee + mdV am (z lv.toNat).rate 100000 3 = rmC n z du to_ lv am := by unfold rmL rmC; rw [rmB_t h]; exact ⟨(if_pos rfl).symm, (if_pos rfl).symm⟩
theorem ret_ii {a b c d : Int} (h : a = b) (k : c = d) : Ending.returned (.tuple #[.int .i64 a, .int .i64 c]) = .returned (.tuple #[.int .i64 b, .int .i64 d]) := by rw [h, k]
theorem dl_fee {n : Nat} {z : Nat → DN3} (h : dlB n z = true) {i : Nat} (hi : i < n) : 0 ≤ (z i).fee ∧ (z i).fee ≤ 100000000000 := by
  have := (dlB_p h).2 i hi
  unfold dlOk at this
  simp only [Bool.and_eq_true] at this
  have h2 := this.1
  rw [dlE_eq] at h2
  simp only [Bool.and_eq_true] at h2
  exact inB_t h2.2.1

set_option maxRecDepth 20000 in
set_option maxHeartbeats 8000000 in
theorem implRemind_any (ra : Option Addr) (n rc : Nat) (z : Nat → DN3) (du to_ lv am : Int) (w : World) (h : (n : Int) ≤ 1048576) (hr : DNr w ra n z) :
    Calls Try.prog 22 #[.slice ra n rc, .int .i64 du, .int .i64 to_, .int .i64 lv, .int .i64 am] w fun e w' => e = .returned (.tuple #[.int .i64 (rmL n z du to_ lv am), .int .i64 (rmC n z du to_ lv am)]) ∧ Below w.heap.size w w' := by
  have HR : Hid (DNr w ra n z) := hr
  have HL : Hid (Calls Try.prog 67 #[.slice ra n rc] w fun e w' => e = .returned (.bool (dlB n z)) ∧ Below w.heap.size w w') := dlLadder_any ra n rc z w h hr
  clear hr
  cases hb : dlB n z
  · have HV := hid (rm_no (n := n) (z := z) (du := du) (to_ := to_) (lv := lv) (am := am) (fun H => by rw [H.1] at hb; cases hb))
    rw [hb] at HL
    go_enter Try.func22, Try.ntmps22
    go_wp2_with (first
    | (go_at_call 67; refine HL.out.mono ?_; rintro e w1 ⟨rfl, b1⟩; have HB1 : Hid (Below w.heap.size w w1) := b1; clear b1)
    | (go_at_call_of 68 du; refine (isDay_eq _ _ _ hdu).mono ?_; rintro e w2 ⟨rfl, ew⟩; replace ew := ew.symm; subst ew)
    | (go_at_call_of 68 to_; refine (isDay_eq _ _ _ hto).mono ?_; rintro e w2 ⟨rfl, ew⟩; replace ew := ew.symm; subst ew)
    | (go_at_call 69; refine (isPlace_eq _ _ _ _ hlv).mono ?_; rintro e w2 ⟨rfl, ew⟩; replace ew := ew.symm; subst ew)
    | (go_at_call 70; refine (isAmt0_eq _ _ _ ham).mono ?_; rintro e w2 ⟨rfl, ew⟩; replace ew := ew.symm; subst ew))
    go_returns
    exact ⟨ret_ii HV.out.1 HV.out.2, HB1.out⟩
  rw [hb] at HL
  cases hdu : inB du 0 40000
  · have HV := hid (rm_no (n := n) (z := z) (du := du) (to_ := to_) (lv := lv) (am := am) (fun H => inB_f hdu H.2.1))
    go_enter Try.func22, Try.ntmps22
    go_wp2_with (first
    | (go_at_call 67; refine HL.out.mono ?_; rintro e w1 ⟨rfl, b1⟩; have HB1 : Hid (Below w.heap.size w w1) := b1; clear b1)
    | (go_at_call_of 68 du; refine (isDay_eq _ _ _ hdu).mono ?_; rintro e w2 ⟨rfl, ew⟩; replace ew := ew.symm; subst ew)
    | (go_at_call_of 68 to_; refine (isDay_eq _ _ _ hto).mono ?_; rintro e w2 ⟨rfl, ew⟩; replace ew := ew.symm; subst ew)
    | (go_at_call 69; refine (isPlace_eq _ _ _ _ hlv).mono ?_; rintro e w2 ⟨rfl, ew⟩; replace ew := ew.symm; subst ew)
    | (go_at_call 70; refine (isAmt0_eq _ _ _ ham).mono ?_; rintro e w2 ⟨rfl, ew⟩; replace ew := ew.symm; subst ew))
    go_returns
    exact ⟨ret_ii HV.out.1 HV.out.2, HB1.out⟩
  cases hto : inB to_ 0 40000
  · have HV := hid (rm_no (n := n) (z := z) (du := du) (to_ := to_) (lv := lv) (am := am) (fun H => inB_f hto H.2.2.1))
    go_enter Try.func22, Try.ntmps22
    go_wp2_with (first
    | (go_at_call 67; refine HL.out.mono ?_; rintro e w1 ⟨rfl, b1⟩; have HB1 : Hid (Below w.heap.size w w1) := b1; clear b1)
    | (go_at_call_of 68 du; refine (isDay_eq _ _ _ hdu).mono ?_; rintro e w2 ⟨rfl, ew⟩; replace ew := ew.symm; subst ew)
    | (go_at_call_of 68 to_; refine (isDay_eq _ _ _ hto).mono ?_; rintro e w2 ⟨rfl, ew⟩; replace ew := ew.symm; subst ew)
    | (go_at_call 69; refine (isPlace_eq _ _ _ _ hlv).mono ?_; rintro e w2 ⟨rfl, ew⟩; replace ew := ew.symm; subst ew)
    | (go_at_call 70; refine (isAmt0_eq _ _ _ ham).mono ?_; rintro e w2 ⟨rfl, ew⟩; replace ew := ew.symm; subst ew))
    go_returns
    exact ⟨ret_ii HV.out.1 HV.out.2, HB1.out⟩
  cases hlv : inB lv 0 ((n : Int) - 1)
  · have HV := hid (rm_no (n := n) (z := z) (du := du) (to_ := to_) (lv := lv) (am := am) (fun H => inB_f hlv ⟨H.2.2.2.1.1, by have := H.2.2.2.1.2; omega⟩))
    go_enter Try.func22, Try.ntmps22
    go_wp2_with (first
    | (go_at_call 67; refine HL.out.mono ?_; rintro e w1 ⟨rfl, b1⟩; have HB1 : Hid (Below w.heap.size w w1) := b1; clear b1)
    | (go_at_call_of 68 du; refine (isDay_eq _ _ _ hdu).mono ?_; rintro e w2 ⟨rfl, ew⟩; replace ew := ew.symm; subst ew)
    | (go_at_call_of 68 to_; refine (isDay_eq _ _ _ hto).mono ?_; rintro e w2 ⟨rfl, ew⟩; replace ew := ew.symm; subst ew)
    | (go_at_call 69; refine (isPlace_eq _ _ _ _ hlv).mono ?_; rintro e w2 ⟨rfl, ew⟩; replace ew := ew.symm; subst ew)
    | (go_at_call 70; refine (isAmt0_eq _ _ _ ham).mono ?_; rintro e w2 ⟨rfl, ew⟩; replace ew := ew.symm; subst ew))
    go_returns
    exact ⟨ret_ii HV.out.1 HV.out.2, HB1.out⟩
  cases ham : inB am 0 100000000000
  · have HV := hid (rm_no (n := n) (z := z) (du := du) (to_ := to_) (lv := lv) (am := am) (fun H => inB_f ham H.2.2.2.2.1))
    go_enter Try.func22, Try.ntmps22
    go_wp2_with (first
    | (go_at_call 67; refine HL.out.mono ?_; rintro e w1 ⟨rfl, b1⟩; have HB1 : Hid (Below w.heap.size w w1) := b1; clear b1)
    | (go_at_call_of 68 du; refine (isDay_eq _ _ _ hdu).mono ?_; rintro e w2 ⟨rfl, ew⟩; replace ew := ew.symm; subst ew)
    | (go_at_call_of 68 to_; refine (isDay_eq _ _ _ hto).mono ?_; rintro e w2 ⟨rfl, ew⟩; replace ew := ew.symm; subst ew)
    | (go_at_call 69; refine (isPlace_eq _ _ _ _ hlv).mono ?_; rintro e w2 ⟨rfl, ew⟩; replace ew := ew.symm; subst ew)
    | (go_at_call 70; refine (isAmt0_eq _ _ _ ham).mono ?_; rintro e w2 ⟨rfl, ew⟩; replace ew := ew.symm; subst ew))
    go_returns
    exact ⟨ret_ii HV.out.1 HV.out.2, HB1.out⟩
  have hlv2 := inB_t hlv
  have hdu2 := inB_t hdu
  have hto2 := inB_t hto
  have ham2 := inB_t ham
  obtain ⟨i, hi⟩ : ∃ i : Nat, lv = (i : Int) := ⟨lv.toNat, by omega⟩
  have hlt : i < n := by omega
  have HI : Hid (lv = (i : Int)) := hi
  obtain ⟨kb, off, rfl, hkb⟩ := HR.out.addr (by omega)
  have k0 := HR.out.cell hlt
  obtain ⟨e, he⟩ : ∃ e, z i = e := ⟨_, rfl⟩
  have hfee := dl_fee hb hlt
  rw [he] at k0 hfee
  obtain ⟨days, fee, rate⟩ := e
  have HX : Hid (z i = ⟨days, fee, rate⟩) := he
  have HK : Hid (AtDN w kb (off + i * 3) ⟨days, fee, rate⟩) := k0
  simp only at hfee
  have HBT : Hid (dlB n z = true) := hb
  have hlt2 : (i : Int) < (n : Int) := by omega
  have hn20 : (n : Int) ≤ 20 := by have := (dlB_p hb).1; omega
  have hi0 : (0 : Int) ≤ (i : Int) := by omega
  have hmd := md_abs am rate 100000 3
  have HMD : Hid (∀ w, Calls Try.prog 24 #[.int .i64 am, .int .i64 rate, .int .i64 100000, .int .i64 3] w fun e w' => e = .returned (.tuple #[.int .i64 (mdV am rate 100000 3), .bool (mdB am rate 100000 3)]) ∧ Below w.heap.size w w') := fun w => implMulDiv_any am rate 100000 3 w
  obtain ⟨M, hM⟩ : ∃ M, mdV am rate 100000 3 = M := ⟨_, rfl⟩
  obtain ⟨MB, hMB⟩ : ∃ M, mdB am rate 100000 3 = M := ⟨_, rfl⟩
  have HM : Hid (mdV am rate 100000 3 = M) := hM
  rw [hM, hMB] at HMD
  rw [hM] at hmd
  clear he k0 hM hMB hb
  have HLV : Hid (∀ x, lv = (x : Int) → x = (i : Int)) := fun x hx => by omega
  subst hi
  by_cases hlate : to_ - du < days
  · have HV := hid (rm_no (n := n) (z := z) (du := du) (to_ := to_) (lv := (i : Int)) (am := am) (fun H => by have := H.2.2.2.2.2; rw [Int.toNat_natCast, HX.out] at this; simp only at this; omega))
    clear hlv2
    go_enter Try.func22, Try.ntmps22
    go_wp2_with (first
    | (go_at_call 67; refine HL.out.mono ?_; rintro e w1 ⟨rfl, b1⟩; have HB1 : Hid (Below w.heap.size w w1) := b1; have c0 : w1.cell? ⟨kb, off + i * 3, none⟩ = some (.int .i64 days) := keep_cell b1 HK.out.1; have c1 : w1.cell? ⟨kb, off + i * 3 + 1, none⟩ = some (.int .i64 fee) := keep_cell b1 HK.out.2.1; have c2 : w1.cell? ⟨kb, off + i * 3 + 2, none⟩ = some (.int .i64 rate) := keep_cell b1 HK.out.2.2; clear b1)
    | (go_at_call_of 68 du; refine (isDay_eq _ _ _ hdu).mono ?_; rintro e w2 ⟨rfl, ew⟩; replace ew := ew.symm; subst ew)
    | (go_at_call_of 68 to_; refine (isDay_eq _ _ _ hto).mono ?_; rintro e w2 ⟨rfl, ew⟩; replace ew := ew.symm; subst ew)
    | (go_at_call 69; refine (isPlace_eq _ _ _ _ hlv).mono ?_; rintro e w2 ⟨rfl, ew⟩; replace ew := ew.symm; subst ew)
    | (go_at_call 70; refine (isAmt0_eq _ _ _ ham).mono ?_; rintro e w2 ⟨rfl, ew⟩; replace ew := ew.symm; subst ew))
    go_returns
    exact ⟨ret_ii HV.out.1 HV.out.2, by first | exact HB1.out.alloc HB1.out.size _ | exact bel_on HB1.out (by go_grown)⟩
  · have HV : Hid ((i : Int) + 1 = rmL n z du to_ (i : Int) am ∧ fee + M = rmC n z du to_ (i : Int) am) := hid (by
      have := rm_yes (n := n) (z := z) (du := du) (to_ := to_) (lv := (i : Int)) (am := am) ⟨HBT.out, hdu2, hto2, ⟨by omega, by omega⟩, ham2, by rw [Int.toNat_natCast, HX.out]; simp only; omega⟩
      rw [Int.toNat_natCast, HX.out] at this
      simp only at this
      rw [HM.out] at this
      exact this)
    clear hlv2
    go_enter Try.func22, Try.ntmps22
    go_wp2_with (first
    | (go_at_call 67; refine HL.out.mono ?_; rintro e w1 ⟨rfl, b1⟩; have HB1 : Hid (Below w.heap.size w w1) := b1; have c0 : w1.cell? ⟨kb, off + i * 3, none⟩ = some (.int .i64 days) := keep_cell b1 HK.out.1; have c1 : w1.cell? ⟨kb, off + i * 3 + 1, none⟩ = some (.int .i64 fee) := keep_cell b1 HK.out.2.1; have c2 : w1.cell? ⟨kb, off + i * 3 + 2, none⟩ = some (.int .i64 rate) := keep_cell b1 HK.out.2.2; clear b1)
    | (go_at_call_of 68 du; refine (isDay_eq _ _ _ hdu).mono ?_; rintro e w2 ⟨rfl, ew⟩; replace ew := ew.symm; subst ew)
    | (go_at_call_of 68 to_; refine (isDay_eq _ _ _ hto).mono ?_; rintro e w2 ⟨rfl, ew⟩; replace ew := ew.symm; subst ew)
    | (go_at_call 69; refine (isPlace_eq _ _ _ _ hlv).mono ?_; rintro e w2 ⟨rfl, ew⟩; replace ew := ew.symm; subst ew)
    | (go_at_call 70; refine (isAmt0_eq _ _ _ ham).mono ?_; rintro e w2 ⟨rfl, ew⟩; replace ew := ew.symm; subst ew)
    | (go_at_call 24; refine (HMD.out _).mono ?_; rintro e w3 ⟨rfl, b3⟩; have HC3 : Hid (CB w3 w1.heap.size #[.int .i64 days, .int .i64 fee, .int .i64 rate] 43) := hid ((CB.new _ _).below b3 (by simp)); have HB3 : Hid (Below w.heap.size w w3) := hid (bel_on (HB1.out.alloc HB1.out.size _) b3); clear b3 c0 c1 c2))
    have hCC : CB w3 w1.heap.size #[.int .i64 days, .int .i64 fee, .int .i64 rate] 43 := HC3.out
    have m1 : w3.cell? ⟨w1.heap.size, 1, none⟩ = some (.int .i64 fee) := (hCC.cell 1).trans rfl
    clear hCC
    go_quiet (fail)
    go_wp2
    go_returns
    exact ⟨ret_ii HV.out.1 HV.out.2, bd_N HB3.out _⟩
set_option maxRecDepth 20000 in
set_option maxHeartbeats 8000000 in
theorem specRemind_any (ra : Option Addr) (n rc : Nat) (z : Nat → DN3) (du to_ lv am : Int) (w : World) (h : (n : Int) ≤ 1048576) (hr : DNr w ra n z) :
    Calls Try.prog 45 #[.slice ra n rc, .int .i64 du, .int .i64 to_, .int .i64 lv, .int .i64 am] w fun e w' => e = .returned (.tuple #[.int .i64 (rmL n z du to_ lv am), .int .i64 (rmC n z du to_ lv am)]) ∧ Below w.heap.size w w' := by
  have HR : Hid (DNr w ra n z) := hr
  clear hr
  by_cases h6 : (20 : Int) < (n : Int)
  · have HV := hid (rm_no (n := n) (z := z) (du := du) (to_ := to_) (lv := lv) (am := am) (fun H => by have := (dlB_p H.1).1; omega))
    go_enter Try.func45, Try.ntmps45
    go_wp2
    go_returns
    exact ⟨ret_ii HV.out.1 HV.out.2, Below.refl _ _⟩
  have g6 : (n : Int) ≤ 20 := by omega
  clear h6
  cases hdu : inB du 0 40000
  · have HV := hid (rm_no (n := n) (z := z) (du := du) (to_ := to_) (lv := lv) (am := am) (fun H => inB_f hdu H.2.1))
    go_enter Try.func45, Try.ntmps45
    go_wp2_with (first
    | (go_at_call_of 83 du; refine (l2Day_eq _ _ _ hdu).mono ?_; rintro e w2 ⟨rfl, ew⟩; replace ew := ew.symm; subst ew)
    | (go_at_call_of 83 to_; refine (l2Day_eq _ _ _ hto).mono ?_; rintro e w2 ⟨rfl, ew⟩; replace ew := ew.symm; subst ew)
    | (go_at_call_of 56 lv; refine (l1In_eq _ _ _ _ _ hlv).mono ?_; rintro e w2 ⟨rfl, ew⟩; replace ew := ew.symm; subst ew)
    | (go_at_call_of 56 am; refine (l1In_eq _ _ _ _ _ ham).mono ?_; rintro e w2 ⟨rfl, ew⟩; replace ew := ew.symm; subst ew))
    go_returns
    exact ⟨ret_ii HV.out.1 HV.out.2, Below.refl _ _⟩
  cases hto : inB to_ 0 40000
  · have HV := hid (rm_no (n := n) (z := z) (du := du) (to_ := to_) (lv := lv) (am := am) (fun H => inB_f hto H.2.2.1))
    go_enter Try.func45, Try.ntmps45
    go_wp2_with (first
    | (go_at_call_of 83 du; refine (l2Day_eq _ _ _ hdu).mono ?_; rintro e w2 ⟨rfl, ew⟩; replace ew := ew.symm; subst ew)
    | (go_at_call_of 83 to_; refine (l2Day_eq _ _ _ hto).mono ?_; rintro e w2 ⟨rfl, ew⟩; replace ew := ew.symm; subst ew)
    | (go_at_call_of 56 lv; refine (l1In_eq _ _ _ _ _ hlv).mono ?_; rintro e w2 ⟨rfl, ew⟩; replace ew := ew.symm; subst ew)
    | (go_at_call_of 56 am; refine (l1In_eq _ _ _ _ _ ham).mono ?_; rintro e w2 ⟨rfl, ew⟩; replace ew := ew.symm; subst ew))
    go_returns
    exact ⟨ret_ii HV.out.1 HV.out.2, Below.refl _ _⟩
  cases hlv : inB lv 0 (n : Int)
  · have HV := hid (rm_no (n := n) (z := z) (du := du) (to_ := to_) (lv := lv) (am := am) (fun H => inB_f hlv ⟨H.2.2.2.1.1, by have := H.2.2.2.1.2; omega⟩))
    go_enter Try.func45, Try.ntmps45
    go_wp2_with (first
    | (go_at_call_of 83 du; refine (l2Day_eq _ _ _ hdu).mono ?_; rintro e w2 ⟨rfl, ew⟩; replace ew := ew.symm; subst ew)
    | (go_at_call_of 83 to_; refine (l2Day_eq _ _ _ hto).mono ?_; rintro e w2 ⟨rfl, ew⟩; replace ew := ew.symm; subst ew)
    | (go_at_call_of 56 lv; refine (l1In_eq _ _ _ _ _ hlv).mono ?_; rintro e w2 ⟨rfl, ew⟩; replace ew := ew.symm; subst ew)
    | (go_at_call_of 56 am; refine (l1In_eq _ _ _ _ _ ham).mono ?_; rintro e w2 ⟨rfl, ew⟩; replace ew := ew.symm; subst ew))
    go_returns
    exact ⟨ret_ii HV.out.1 HV.out.2, Below.refl _ _⟩
  cases ham : inB am 0 100000000000
  · have HV := hid (rm_no (n := n) (z := z) (du := du) (to_ := to_) (lv := lv) (am := am) (fun H => inB_f ham H.2.2.2.2.1))
    go_enter Try.func45, Try.ntmps45
    go_wp2_with (first
    | (go_at_call_of 83 du; refine (l2Day_eq _ _ _ hdu).mono ?_; rintro e w2 ⟨rfl, ew⟩; replace ew := ew.symm; subst ew)
    | (go_at_call_of 83 to_; refine (l2Day_eq _ _ _ hto).mono ?_; rintro e w2 ⟨rfl, ew⟩; replace ew := ew.symm; subst ew)
    | (go_at_call_of 56 lv; refine (l1In_eq _ _ _ _ _ hlv).mono ?_; rintro e w2 ⟨rfl, ew⟩; replace ew := ew.symm; subst ew)
    | (go_at_call_of 56 am; refine (l1In_eq _ _ _ _ _ ham).mono ?_; rintro e w2 ⟨rfl, ew⟩; replace ew := ew.symm; subst ew))
    go_returns
    exact ⟨ret_ii HV.out.1 HV.out.2, Below.refl _ _⟩
  have hlv2 := inB_t hlv
  have hdu2 := inB_t hdu
  have hto2 := inB_t hto
  have ham2 := inB_t ham
  go_enter Try.func45, Try.ntmps45
  go_wp2_with (first
    | (go_at_call_of 83 du; refine (l2Day_eq _ _ _ hdu).mono ?_; rintro e w2 ⟨rfl, ew⟩; replace ew := ew.symm; subst ew)
    | (go_at_call_of 83 to_; refine (l2Day_eq _ _ _ hto).mono ?_; rintro e w2 ⟨rfl, ew⟩; replace ew := ew.symm; subst ew)
    | (go_at_call_of 56 lv; refine (l1In_eq _ _ _ _ _ hlv).mono ?_; rintro e w2 ⟨rfl, ew⟩; replace ew := ew.symm; subst ew)
    | (go_at_call_of 56 am; refine (l1In_eq _ _ _ _ _ ham).mono ?_; rintro e w2 ⟨rfl, ew⟩; replace ew := ew.symm; subst ew))
  clear hdu hto hlv ham
  go_loopw [12] (fun i wr => ∃ (k : Nat), k ≤ n ∧ i = .int .i64 (k : Int) ∧ Hid ((∀ j, j < k → dlOk z j = true) ∧ Below w.heap.size w wr)) (fun i _ => n - (intOf i).toNat)
  case atStart => exact ⟨0, Nat.zero_le _, rfl, fun j hj => by omega, Below.refl _ _⟩
  case round =>
    obtain ⟨k, hk, rfl, HH⟩ := hrel
    obtain ⟨wo, rfl⟩ : ∃ x, x = wr := ⟨wr, rfl⟩
    by_cases hlt : k < n
    · have hlt2 : (k : Int) < (n : Int) := by omega
      obtain ⟨kb, off, rfl, hkb⟩ := HR.out.addr (by omega)
      have k0 := (HR.out.below HH.out.2).cell hlt
      obtain ⟨e, he⟩ : ∃ e, z k = e := ⟨_, rfl⟩
      rw [he] at k0
      obtain ⟨days, fee, rate⟩ := e
      have HX : Hid (z k = ⟨days, fee, rate⟩) := he
      obtain ⟨c0, c1, c2⟩ := k0
      simp only at c0 c1 c2
      clear he
      have bad : Hid (dlOk z k = false → lv = rmL n z du to_ lv am ∧ 0 = rmC n z du to_ lv am) := hid (fun hb => rm_no (fun H => by have := H.1; rw [dlB_bad hlt hb] at this; cases this))
      cases hd : inB days 0 1000
      · have HV := hid (bad.out (dl_q HX.out (by rw [dlE_eq]; simp [hd])))
        clear bad
        go_wp2
        try simp only [List.append]
        go_quiet (first | (go_at_call_of 56 days; exact Calls.quiet_of_same (l1In_eq _ _ _ _ _ hd)) | (go_at_call_of 56 fee; exact Calls.quiet_of_same (l1In_eq _ _ _ _ _ hf)) | (go_at_call 82; exact Calls.quiet_of_same (l13Rate_eq _ _ _ hr)))
        go_wp2
        go_returns
        exact ⟨ret_ii HV.out.1 HV.out.2, bd_N HH.out.2 _⟩
      cases hf : inB fee 0 100000000000
      · have HV := hid (bad.out (dl_q HX.out (by rw [dlE_eq]; simp [hf])))
        clear bad
        go_wp2
        try simp only [List.append]
        go_quiet (first | (go_at_call_of 56 days; exact Calls.quiet_of_same (l1In_eq _ _ _ _ _ hd)) | (go_at_call_of 56 fee; exact Calls.quiet_of_same (l1In_eq _ _ _ _ _ hf)) | (go_at_call 82; exact Calls.quiet_of_same (l13Rate_eq _ _ _ hr)))
        go_wp2
        go_returns
        exact ⟨ret_ii HV.out.1 HV.out.2, bd_N HH.out.2 _⟩
      cases hr : inB rate 0 100000
      · have HV := hid (bad.out (dl_q HX.out (by rw [dlE_eq]; simp [hr])))
        clear bad
        go_wp2
        try simp only [List.append]
        go_quiet (first | (go_at_call_of 56 days; exact Calls.quiet_of_same (l1In_eq _ _ _ _ _ hd)) | (go_at_call_of 56 fee; exact Calls.quiet_of_same (l1In_eq _ _ _ _ _ hf)) | (go_at_call 82; exact Calls.quiet_of_same (l13Rate_eq _ _ _ hr)))
        go_wp2
        go_returns
        exact ⟨ret_ii HV.out.1 HV.out.2, bd_N HH.out.2 _⟩
      have HE : Hid (dlE days fee rate = true) := hid (by rw [dlE_eq]; simp [hd, hf, hr])
      by_cases h0 : k = 0
      · have HG : Hid (∀ j, j < k + 1 → dlOk z j = true) := hid (dl_step HH.out.1 (by subst h0; exact dl_0 HX.out HE.out))
        have hz1 : decide (0 < k) = false := by simp [h0]
        have hz2 : decide ((0 : Int) < (k : Int)) = false := by simp [h0]
        clear h0 bad
        go_wp2
        try simp only [List.append]
        go_quiet (first | (go_at_call_of 56 days; exact Calls.quiet_of_same (l1In_eq _ _ _ _ _ hd)) | (go_at_call_of 56 fee; exact Calls.quiet_of_same (l1In_eq _ _ _ _ _ hf)) | (go_at_call 82; exact Calls.quiet_of_same (l13Rate_eq _ _ _ hr)))
        go_wp2
        go_roundw
        case rel => exact ⟨k + 1, by omega, by go_num, HG.out, bd_N HH.out.2 _⟩
        case measure => simp [intOf]; omega
      obtain ⟨m, hm⟩ : ∃ m, k = m + 1 := ⟨k - 1, by omega⟩
      have HM : Hid (k = m + 1) := hm
      have hwm : IntKind.i64.wrap ((k : Int) - 1) = (m : Int) := by rw [show (k : Int) - 1 = (m : Int) by omega]; exact IntWalk.i64_in _ ⟨by omega, by omega⟩
      have hz1 : decide (0 < k) = true := by simp; omega
      have hz2 : decide ((0 : Int) < (k : Int)) = true := by simp; omega
      have hmn : (m : Int) < (n : Int) := by omega
      have hm0 : (0 : Int) ≤ (m : Int) := by omega
      have D := (HR.out.below HH.out.2).cell (j := m) (by omega)
      obtain ⟨y, hy⟩ : ∃ y, z m = y := ⟨_, rfl⟩
      rw [hy] at D
      have HY : Hid (z m = y) := hy
      obtain ⟨y0, y1, y2⟩ := y
      obtain ⟨d0, d1, d2⟩ := D
      simp only at d0 d1 d2
      clear hy hm h0 d1 d2
      by_cases hfg : days ≤ y0
      · have HV := hid (bad.out (dl_o HX.out HM.out (by rw [HY.out]; exact hfg)))
        have hdd : decide (days ≤ y0) = true := decide_eq_true hfg
        clear bad
        go_wp2
        try simp only [List.append]
        go_quiet (first | (go_at_call_of 56 days; exact Calls.quiet_of_same (l1In_eq _ _ _ _ _ hd)) | (go_at_call_of 56 fee; exact Calls.quiet_of_same (l1In_eq _ _ _ _ _ hf)) | (go_at_call 82; exact Calls.quiet_of_same (l13Rate_eq _ _ _ hr)))
        go_wp2
        go_returns
        exact ⟨ret_ii HV.out.1 HV.out.2, bd_N HH.out.2 _⟩
      · have HG : Hid (∀ j, j < k + 1 → dlOk z j = true) := hid (dl_step HH.out.1 (dl_1 HX.out HM.out HE.out (by rw [HY.out]; simp only; omega)))
        have hdd : decide (days ≤ y0) = false := decide_eq_false hfg
        clear hfg bad
        go_wp2
        try simp only [List.append]
        go_quiet (first | (go_at_call_of 56 days; exact Calls.quiet_of_same (l1In_eq _ _ _ _ _ hd)) | (go_at_call_of 56 fee; exact Calls.quiet_of_same (l1In_eq _ _ _ _ _ hf)) | (go_at_call 82; exact Calls.quiet_of_same (l13Rate_eq _ _ _ hr)))
        go_wp2
        go_roundw
        case rel => exact ⟨k + 1, by omega, by go_num, HG.out, bd_N HH.out.2 _⟩
        case measure => simp [intOf]; omega
    · obtain rfl : k = n := by omega
      have lkk : ¬ (k : Int) < (k : Int) := by omega
      have HBT : Hid (dlB k z = true) := hid (dlB_t ⟨by omega, HH.out.1⟩)
      by_cases hll : lv = (k : Int)
      · have HV := hid (rm_no (n := k) (z := z) (du := du) (to_ := to_) (lv := lv) (am := am) (fun H => by have := H.2.2.2.1.2; omega))
        have he := eq_t hll
        clear hll
        go_wp2
        go_returns
        exact ⟨ret_ii HV.out.1 HV.out.2, HH.out.2⟩
      have hle := eq_f hll
      obtain ⟨i, hi⟩ : ∃ i : Nat, lv = (i : Int) := ⟨lv.toNat, by omega⟩
      have hlt : i < k := by omega
      have hlt3 : (i : Int) < (k : Int) := by omega
      obtain ⟨kb, off, rfl, hkb⟩ := HR.out.addr (by omega)
      have k0 := (HR.out.below HH.out.2).cell hlt
      obtain ⟨e, he⟩ : ∃ e, z i = e := ⟨_, rfl⟩
      have hfee := dl_fee HBT.out hlt
      rw [he] at k0 hfee
      obtain ⟨days, fee, rate⟩ := e
      have HX : Hid (z i = ⟨days, fee, rate⟩) := he
      obtain ⟨c0, c1, c2⟩ := k0
      simp only at hfee c0 c1 c2
      have hmd := md_abs am rate 100000 3
      have HMD : Hid (∀ w, Calls Try.prog 58 #[.int .i64 am, .int .i64 rate, .int .i64 100000, .int .i64 3] w fun e w' => e = .returned (.tuple #[.int .i64 (mdV am rate 100000 3), .bool (mdB am rate 100000 3)]) ∧ w' = w) := fun w => specMulDiv_any am rate 100000 3 w
      obtain ⟨M, hM⟩ : ∃ M, mdV am rate 100000 3 = M := ⟨_, rfl⟩
      obtain ⟨MB, hMB⟩ : ∃ M, mdB am rate 100000 3 = M := ⟨_, rfl⟩
      have HM : Hid (mdV am rate 100000 3 = M) := hM
      rw [hM, hMB] at HMD
      rw [hM] at hmd
      have hi0 : (0 : Int) ≤ (i : Int) := by omega
      clear he hM hMB hll hlv2
      subst hi
      by_cases hlate : to_ - du < days
      · have HV := hid (rm_no (n := k) (z := z) (du := du) (to_ := to_) (lv := (i : Int)) (am := am) (fun H => by have := H.2.2.2.2.2; rw [Int.toNat_natCast, HX.out] at this; simp only at this; omega))
        go_wp2
        go_returns
        exact ⟨ret_ii HV.out.1 HV.out.2, HH.out.2⟩
      · have HV : Hid ((i : Int) + 1 = rmL k z du to_ (i : Int) am ∧ fee + M = rmC k z du to_ (i : Int) am) := hid (by
          have := rm_yes (n := k) (z := z) (du := du) (to_ := to_) (lv := (i : Int)) (am := am) ⟨HBT.out, hdu2, hto2, ⟨by omega, by omega⟩, ham2, by rw [Int.toNat_natCast, HX.out]; simp only; omega⟩
          rw [Int.toNat_natCast, HX.out] at this
          simp only at this
          rw [HM.out] at this
          exact this)
        go_wp2_with (go_at_call 58; refine (HMD.out _).mono ?_; rintro e w2 ⟨rfl, ew⟩; replace ew := ew.symm; subst ew)
        go_quiet (fail)
        go_wp2
        go_returns
        exact ⟨ret_ii HV.out.1 HV.out.2, bd_N HH.out.2 _⟩
end Go.Proofs.Ytlhgmdmbjpaakaa
