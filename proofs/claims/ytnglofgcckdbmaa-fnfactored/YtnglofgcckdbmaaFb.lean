/- Factor of the program and of the model. -/
import Derived.Test.YtnglofgcckdbmaaFa
namespace Go.Proofs.Ytnglofgcckdbmaa
open Go.ChangeShapes Go.WideShapes Go.ChangeAt Go.RowKit
set_option linter.unusedVariables false
set_option linter.unusedSimpArgs false

def alS (c : Nat → OI2) : Nat → Int
  | 0 => 0
  | k + 1 => alS c k + (c k).amount
def tkS (c : Nat → OI2) (fee day : Int) : Nat → Int
  | 0 => 0
  | k + 1 => tkS c fee day k + feV (c k).amount fee (fdV (c k).day day)
def NrP (c : Nat → OI2) (day : Int) (n : Nat) : Prop := ∀ k, k < n → fdV (c k).day day ≤ 360
open Classical in
noncomputable def nrB (c : Nat → OI2) (day : Int) (n : Nat) : Bool := decide (NrP c day n)
open Classical in
theorem nrB_t {c : Nat → OI2} {day : Int} {n : Nat} (h : NrP c day n) : nrB c day n = true := by unfold nrB; exact decide_eq_true h
open Classical in
theorem nrB_f {c : Nat → OI2} {day : Int} {n : Nat} (h : ¬ NrP c day n) : nrB c day n = false := by unfold nrB; exact decide_eq_false h
open Classical in
theorem nrB_p {c : Nat → OI2} {day : Int} {n : Nat} (h : nrB c day n = true) : NrP c day n := by unfold nrB at h; exact of_decide_eq_true h
theorem fd0 (d day : Int) : 0 ≤ fdV d day := by unfold fdV; omega
theorem al_bd {c : Nat → OI2} {n : Nat} (h : OpP n c) : ∀ k, k ≤ n → 0 ≤ alS c k ∧ alS c k ≤ (k : Int) * 100000000000
  | 0, _ => by simp [alS]
  | k + 1, hk => by
    have i := al_bd h k (by omega)
    have o := (oiB_p (h.2 k (by omega))).2
    unfold alS
    omega
theorem tk_bd {c : Nat → OI2} {n : Nat} {fee day : Int} (h : OpP n c) (hf : 0 ≤ fee ∧ fee ≤ 100000) {m : Nat} (hm : m ≤ n) (hn : NrP c day m) : ∀ k, k ≤ m → 0 ≤ tkS c fee day k ∧ tkS c fee day k ≤ (k : Int) * 100000000001
  | 0, _ => by simp [tkS]
  | k + 1, hk => by
    have i := tk_bd h hf hm hn k (by omega)
    have o := (oiB_p (h.2 k (by omega))).2
    have f := fee_bd o hf ⟨fd0 (c k).day day, hn k (by omega)⟩
    unfold tkS
    omega
theorem nr_step {c : Nat → OI2} {day : Int} {k : Nat} (h : NrP c day k) (g : fdV (c k).day day ≤ 360) : NrP c day (k + 1) := fun j hj => by
  by_cases e : j = k
  · subst e; exact g
  · exact h j (by omega)
def ifI (b : Bool) (x : Int) : Int := if b = true then x else 0
theorem ifI_t (x : Int) : ifI true x = x := rfl
theorem ifI_f (x : Int) : ifI false x = 0 := rfl
theorem ret_iib {a b c d : Int} {x y : Bool} (h : a = b) (k : c = d) (l : x = y) : Ending.returned (.tuple #[.int .i64 a, .int .i64 c, .bool x]) = .returned (.tuple #[.int .i64 b, .int .i64 d, .bool y]) := by rw [h, k, l]
theorem ret_iii {a b c d x y : Int} (h : a = b) (k : c = d) (l : x = y) : Ending.returned (.tuple #[.int .i64 a, .int .i64 c, .int .i64 x]) = .returned (.tuple #[.int .i64 b, .int .i64 d, .int .i64 y]) := by rw [h, k, l]

set_option maxRecDepth 20000 in
set_option maxHeartbeats 4000000 in
theorem gather_any (ad : Option Addr) (n cap : Nat) (c : Nat → OI2) (fee day : Int) (w : World) (ho : OpP n c) (hf : 0 ≤ fee ∧ fee ≤ 100000) (hd : 0 ≤ day ∧ day ≤ 40000) (hr : OIr w ad n c) :
    Calls Try.prog 83 #[.slice ad n cap, .int .i64 fee, .int .i64 day] w fun e w' => e = .returned (.tuple #[.int .i64 (ifI (nrB c day n) (alS c n)), .int .i64 (ifI (nrB c day n) (tkS c fee day n)), .bool (nrB c day n)]) ∧ Below w.heap.size w w' := by
  have HR : Hid (OIr w ad n c) := hr
  have HO : Hid (OpP n c) := ho
  have hn1 : (n : Int) ≤ 100 := by have := ho.1; omega
  clear hr ho
  go_enter Try.func83, Try.ntmps83
  go_wp2
  go_loopw [9, 10, 16] (fun x y i wr => ∃ (k : Nat) (A T : Int), k ≤ n ∧ i = .int .i64 (k : Int) ∧ x = .int .i64 A ∧ y = .int .i64 T ∧ (0 ≤ A ∧ A ≤ (k : Int) * 100000000000) ∧ (0 ≤ T ∧ T ≤ (k : Int) * 100000000001) ∧ Hid (A = alS c k ∧ T = tkS c fee day k ∧ NrP c day k ∧ Below w.heap.size w wr)) (fun _ _ i _ => n - (intOf i).toNat)
  case atStart => exact ⟨0, 0, 0, Nat.zero_le _, rfl, rfl, rfl, by omega, by omega, rfl, rfl, fun j hj => by omega, Below.refl _ _⟩
  case round =>
    obtain ⟨k, A, T, hk, rfl, rfl, rfl, hA, hT, HH⟩ := hrel
    obtain ⟨wo, rfl⟩ : ∃ x, x = wr := ⟨wr, rfl⟩
    by_cases hlt : k < n
    · have hlt2 : (k : Int) < (n : Int) := by omega
      obtain ⟨kb, off, rfl, hkb⟩ := HR.out.addr (by omega)
      have k0 := (HR.out.below HH.out.2.2.2).cell hlt
      have hoi := oiB_p (HO.out.2 k hlt)
      obtain ⟨e, he⟩ : ∃ e, c k = e := ⟨_, rfl⟩
      rw [he] at k0 hoi
      obtain ⟨d, a⟩ := e
      have HX : Hid (c k = ⟨d, a⟩) := he
      obtain ⟨c0, c1⟩ := k0
      simp only at c0 c1 hoi
      obtain ⟨hod, hoa⟩ := hoi
      clear he
      obtain ⟨D, hD⟩ : ∃ D, fdV d day = D := ⟨_, rfl⟩
      have hD0 : 0 ≤ D := by rw [← hD]; exact fd0 _ _
      have hDi : (if d - day < 0 then 0 else d - day) = D := by rw [← hD]; unfold fdV; split <;> omega
      have HD : Hid (fdV d day = D) := hD
      clear hD
      by_cases hfar : 360 < D
      · have HV : Hid (nrB c day n = false) := hid (nrB_f fun H => by have := H k hlt; rw [HX.out] at this; simp only at this; rw [HD.out] at this; omega)
        go_wp2
        go_returns
        exact ⟨ret_iib (by rw [HV.out]; rfl) (by rw [HV.out]; rfl) HV.out.symm, by first | exact HH.out.2.2.2.alloc HH.out.2.2.2.size _ | exact bel_on HH.out.2.2.2 (by go_grown)⟩
      · have hfar2 : D ≤ 360 := by omega
        have hfb := fee_bd hoa hf ⟨hD0, hfar2⟩
        have HF : Hid (∀ w, Calls Try.prog 111 #[.agg #[.int .i64 d, .int .i64 a], .int .i64 fee, .int .i64 D] w fun e w' => e = .returned (.int .i64 (feV a fee D)) ∧ Below w.heap.size w w') := fun w => feeFor_any d a fee D w hoa hf ⟨hD0, hfar2⟩
        obtain ⟨V, hV⟩ : ∃ V, feV a fee D = V := ⟨_, rfl⟩
        rw [hV] at HF hfb
        have HA : Hid (A + a = alS c (k + 1)) := hid (by unfold alS; rw [HX.out, ← HH.out.1])
        have HT : Hid (T + V = tkS c fee day (k + 1)) := hid (by unfold tkS; rw [HX.out, ← HH.out.2.1, HD.out, hV])
        have HN : Hid (NrP c day (k + 1)) := hid (nr_step HH.out.2.2.1 (by rw [HX.out]; simp only; rw [HD.out]; exact hfar2))
        clear hfar hV
        go_wp2_with (go_at_call 111; refine (HF.out _).mono ?_; rintro e w3 ⟨rfl, b3⟩; have HB3 : Hid (Below w.heap.size w w3) := hid (bel_on (HH.out.2.2.2.alloc HH.out.2.2.2.size _) b3); clear b3)
        go_roundw
        case rel => exact ⟨k + 1, A + a, T + V, by omega, by go_num, rfl, rfl, by omega, by omega, HA.out, HT.out, HN.out, HB3.out⟩
        case measure => simp [intOf]; omega
    · obtain rfl : k = n := by omega
      have lkk : ¬ (k : Int) < (k : Int) := by omega
      have HV : Hid (nrB c day k = true) := hid (nrB_t HH.out.2.2.1)
      go_wp2
      go_returns
      exact ⟨ret_iib (by rw [HV.out]; exact HH.out.1) (by rw [HV.out]; exact HH.out.2.1) HV.out.symm, HH.out.2.2.2⟩
def FaP (n : Nat) (c : Nat → OI2) (fee keep day : Int) : Prop := opB n c = true ∧ (0 ≤ fee ∧ fee ≤ 100000) ∧ (0 ≤ keep ∧ keep ≤ 100000) ∧ (0 ≤ day ∧ day ≤ 40000) ∧ NrP c day n ∧ alS c n ≤ 100000000000 ∧ mdV (alS c n) keep 100000 3 + tkS c fee day n ≤ alS c n
open Classical in
noncomputable def faB (n : Nat) (c : Nat → OI2) (fee keep day : Int) : Bool := decide (FaP n c fee keep day)
open Classical in
theorem faB_t {n : Nat} {c : Nat → OI2} {fee keep day : Int} (h : FaP n c fee keep day) : faB n c fee keep day = true := by unfold faB; exact decide_eq_true h
open Classical in
theorem faB_f {n : Nat} {c : Nat → OI2} {fee keep day : Int} (h : ¬ FaP n c fee keep day) : faB n c fee keep day = false := by unfold faB; exact decide_eq_false h
open Classical in
theorem faB_p {n : Nat} {c : Nat → OI2} {fee keep day : Int} (h : faB n c fee keep day = true) : FaP n c fee keep day := by unfold faB at h; exact of_decide_eq_true h
noncomputable def faX (n : Nat) (c : Nat → OI2) (fee keep day : Int) : Int := ifI (faB n c fee keep day) (alS c n - mdV (alS c n) keep 100000 3 - tkS c fee day n)
noncomputable def faK (n : Nat) (c : Nat → OI2) (fee keep day : Int) : Int := ifI (faB n c fee keep day) (mdV (alS c n) keep 100000 3)
noncomputable def faT (n : Nat) (c : Nat → OI2) (fee keep day : Int) : Int := ifI (faB n c fee keep day) (tkS c fee day n)
theorem fa_no {n : Nat} {c : Nat → OI2} {fee keep day : Int} (h : ¬ FaP n c fee keep day) : 0 = faX n c fee keep day ∧ 0 = faK n c fee keep day ∧ 0 = faT n c fee keep day := by unfold faX faK faT; rw [faB_f h]; exact ⟨rfl, rfl, rfl⟩
theorem fa_yes {n : Nat} {c : Nat → OI2} {fee keep day : Int} (h : FaP n c fee keep day) : alS c n - mdV (alS c n) keep 100000 3 - tkS c fee day n = faX n c fee keep day ∧ mdV (alS c n) keep 100000 3 = faK n c fee keep day ∧ tkS c fee day n = faT n c fee keep day := by unfold faX faK faT; rw [faB_t h]; exact ⟨rfl, rfl, rfl⟩

set_option maxRecDepth 20000 in
set_option maxHeartbeats 8000000 in
theorem implFactor_any (ad : Option Addr) (n cap : Nat) (c : Nat → OI2) (fee keep day : Int) (w : World) (h : (n : Int) ≤ 1048576) (hr : OIr w ad n c) :
    Calls Try.prog 41 #[.slice ad n cap, .int .i64 fee, .int .i64 keep, .int .i64 day] w fun e w' => e = .returned (.tuple #[.int .i64 (faX n c fee keep day), .int .i64 (faK n c fee keep day), .int .i64 (faT n c fee keep day)]) ∧ Below w.heap.size w w' := by
  have HR : Hid (OIr w ad n c) := hr
  have HL : Hid (Calls Try.prog 73 #[.slice ad n cap] w fun e w' => e = .returned (.bool (opB n c)) ∧ Below w.heap.size w w') := areOpen_any ad n cap c w h hr
  clear hr
  cases hb : opB n c
  · have HV := hid (fa_no (n := n) (c := c) (fee := fee) (keep := keep) (day := day) (fun H => by rw [H.1] at hb; cases hb))
    rw [hb] at HL
    go_enter Try.func41, Try.ntmps41
    go_wp2_with (first
    | (go_at_call 73; refine HL.out.mono ?_; rintro e w1 ⟨rfl, b1⟩; have HB1 : Hid (Below w.heap.size w w1) := b1; clear b1)
    | (go_at_call_of 82 fee; refine (isRate_eq _ _ _ hfe).mono ?_; rintro e w2 ⟨rfl, ew⟩; replace ew := ew.symm; subst ew)
    | (go_at_call_of 82 keep; refine (isRate_eq _ _ _ hke).mono ?_; rintro e w2 ⟨rfl, ew⟩; replace ew := ew.symm; subst ew)
    | (go_at_call 45; refine (isDay_eq _ _ _ hda).mono ?_; rintro e w2 ⟨rfl, ew⟩; replace ew := ew.symm; subst ew))
    go_returns
    exact ⟨ret_iii HV.out.1 HV.out.2.1 HV.out.2.2, HB1.out⟩
  rw [hb] at HL
  cases hfe : inB fee 0 100000
  · have HV := hid (fa_no (n := n) (c := c) (fee := fee) (keep := keep) (day := day) (fun H => inB_f hfe H.2.1))
    go_enter Try.func41, Try.ntmps41
    go_wp2_with (first
    | (go_at_call 73; refine HL.out.mono ?_; rintro e w1 ⟨rfl, b1⟩; have HB1 : Hid (Below w.heap.size w w1) := b1; clear b1)
    | (go_at_call_of 82 fee; refine (isRate_eq _ _ _ hfe).mono ?_; rintro e w2 ⟨rfl, ew⟩; replace ew := ew.symm; subst ew)
    | (go_at_call_of 82 keep; refine (isRate_eq _ _ _ hke).mono ?_; rintro e w2 ⟨rfl, ew⟩; replace ew := ew.symm; subst ew)
    | (go_at_call 45; refine (isDay_eq _ _ _ hda).mono ?_; rintro e w2 ⟨rfl, ew⟩; replace ew := ew.symm; subst ew))
    go_returns
    exact ⟨ret_iii HV.out.1 HV.out.2.1 HV.out.2.2, HB1.out⟩
  cases hke : inB keep 0 100000
  · have HV := hid (fa_no (n := n) (c := c) (fee := fee) (keep := keep) (day := day) (fun H => inB_f hke H.2.2.1))
    go_enter Try.func41, Try.ntmps41
    go_wp2_with (first
    | (go_at_call 73; refine HL.out.mono ?_; rintro e w1 ⟨rfl, b1⟩; have HB1 : Hid (Below w.heap.size w w1) := b1; clear b1)
    | (go_at_call_of 82 fee; refine (isRate_eq _ _ _ hfe).mono ?_; rintro e w2 ⟨rfl, ew⟩; replace ew := ew.symm; subst ew)
    | (go_at_call_of 82 keep; refine (isRate_eq _ _ _ hke).mono ?_; rintro e w2 ⟨rfl, ew⟩; replace ew := ew.symm; subst ew)
    | (go_at_call 45; refine (isDay_eq _ _ _ hda).mono ?_; rintro e w2 ⟨rfl, ew⟩; replace ew := ew.symm; subst ew))
    go_returns
    exact ⟨ret_iii HV.out.1 HV.out.2.1 HV.out.2.2, HB1.out⟩
  cases hda : inB day 0 40000
  · have HV := hid (fa_no (n := n) (c := c) (fee := fee) (keep := keep) (day := day) (fun H => inB_f hda H.2.2.2.1))
    go_enter Try.func41, Try.ntmps41
    go_wp2_with (first
    | (go_at_call 73; refine HL.out.mono ?_; rintro e w1 ⟨rfl, b1⟩; have HB1 : Hid (Below w.heap.size w w1) := b1; clear b1)
    | (go_at_call_of 82 fee; refine (isRate_eq _ _ _ hfe).mono ?_; rintro e w2 ⟨rfl, ew⟩; replace ew := ew.symm; subst ew)
    | (go_at_call_of 82 keep; refine (isRate_eq _ _ _ hke).mono ?_; rintro e w2 ⟨rfl, ew⟩; replace ew := ew.symm; subst ew)
    | (go_at_call 45; refine (isDay_eq _ _ _ hda).mono ?_; rintro e w2 ⟨rfl, ew⟩; replace ew := ew.symm; subst ew))
    go_returns
    exact ⟨ret_iii HV.out.1 HV.out.2.1 HV.out.2.2, HB1.out⟩
  have hfe2 := inB_t hfe
  have hke2 := inB_t hke
  have hda2 := inB_t hda
  have HOP : Hid (OpP n c) := opB_p hb
  have HBT : Hid (opB n c = true) := hb
  have hn1 : (n : Int) ≤ 100 := by have := HOP.out.1; omega
  have HG : Hid (∀ W, Below w.heap.size w W → Calls Try.prog 83 #[.slice ad n cap, .int .i64 fee, .int .i64 day] W fun e w' => e = .returned (.tuple #[.int .i64 (ifI (nrB c day n) (alS c n)), .int .i64 (ifI (nrB c day n) (tkS c fee day n)), .bool (nrB c day n)]) ∧ Below W.heap.size W w') := fun W b => gather_any ad n cap c fee day W HOP.out hfe2 hda2 (HR.out.below b)
  clear hb
  cases hnr : nrB c day n
  · rw [hnr, ifI_f, ifI_f] at HG
    have HV := hid (fa_no (n := n) (c := c) (fee := fee) (keep := keep) (day := day) (fun H => by rw [nrB_t H.2.2.2.2.1] at hnr; cases hnr))
    go_enter Try.func41, Try.ntmps41
    go_wp2_with (first
    | (go_at_call 73; refine HL.out.mono ?_; rintro e w1 ⟨rfl, b1⟩; have HB1 : Hid (Below w.heap.size w w1) := b1; clear b1)
    | (go_at_call_of 82 fee; refine (isRate_eq _ _ _ hfe).mono ?_; rintro e w2 ⟨rfl, ew⟩; replace ew := ew.symm; subst ew)
    | (go_at_call_of 82 keep; refine (isRate_eq _ _ _ hke).mono ?_; rintro e w2 ⟨rfl, ew⟩; replace ew := ew.symm; subst ew)
    | (go_at_call 45; refine (isDay_eq _ _ _ hda).mono ?_; rintro e w2 ⟨rfl, ew⟩; replace ew := ew.symm; subst ew)
    | (go_at_call 83; refine (HG.out _ HB1.out).mono ?_; rintro e w3 ⟨rfl, b3⟩; have HB3 : Hid (Below w.heap.size w w3) := hid (bel_on HB1.out b3); clear b3))
    go_returns
    exact ⟨ret_iii HV.out.1 HV.out.2.1 HV.out.2.2, HB3.out⟩
  rw [hnr, ifI_t, ifI_t] at HG
  have HN : Hid (NrP c day n) := nrB_p hnr
  have hal := al_bd HOP.out n (Nat.le_refl _)
  have htk := tk_bd HOP.out hfe2 (Nat.le_refl _) HN.out n (Nat.le_refl _)
  have hmd := md_abs (alS c n) keep 100000 3
  have HMD : Hid (∀ w, Calls Try.prog 85 #[.int .i64 (alS c n), .int .i64 keep, .int .i64 100000, .int .i64 3] w fun e w' => e = .returned (.tuple #[.int .i64 (mdV (alS c n) keep 100000 3), .bool (mdB (alS c n) keep 100000 3)]) ∧ Below w.heap.size w w') := fun w => implMulDiv_any (alS c n) keep 100000 3 w
  obtain ⟨M, hM⟩ : ∃ M, mdV (alS c n) keep 100000 3 = M := ⟨_, rfl⟩
  obtain ⟨MB, hMB⟩ : ∃ M, mdB (alS c n) keep 100000 3 = M := ⟨_, rfl⟩
  obtain ⟨A, hA⟩ : ∃ A, alS c n = A := ⟨_, rfl⟩
  obtain ⟨T, hT⟩ : ∃ T, tkS c fee day n = T := ⟨_, rfl⟩
  have HE : Hid (mdV (alS c n) keep 100000 3 = M ∧ alS c n = A ∧ tkS c fee day n = T) := ⟨hM, hA, hT⟩
  rw [hM, hMB, hA] at HMD
  rw [hM] at hmd
  rw [hA, hT] at HG
  rw [hA] at hal
  rw [hT] at htk
  clear hM hMB hA hT hnr
  cases ham : inB A (-100000000000) 100000000000
  · have HV := hid (fa_no (n := n) (c := c) (fee := fee) (keep := keep) (day := day) (fun H => inB_f ham ⟨by omega, by have := H.2.2.2.2.2.1; rw [HE.out.2.1] at this; exact this⟩))
    go_enter Try.func41, Try.ntmps41
    go_wp2_with (first
    | (go_at_call 73; refine HL.out.mono ?_; rintro e w1 ⟨rfl, b1⟩; have HB1 : Hid (Below w.heap.size w w1) := b1; clear b1)
    | (go_at_call_of 82 fee; refine (isRate_eq _ _ _ hfe).mono ?_; rintro e w2 ⟨rfl, ew⟩; replace ew := ew.symm; subst ew)
    | (go_at_call_of 82 keep; refine (isRate_eq _ _ _ hke).mono ?_; rintro e w2 ⟨rfl, ew⟩; replace ew := ew.symm; subst ew)
    | (go_at_call 45; refine (isDay_eq _ _ _ hda).mono ?_; rintro e w2 ⟨rfl, ew⟩; replace ew := ew.symm; subst ew)
    | (go_at_call 83; refine (HG.out _ HB1.out).mono ?_; rintro e w3 ⟨rfl, b3⟩; have HB3 : Hid (Below w.heap.size w w3) := hid (bel_on HB1.out b3); clear b3)
    | (go_at_call 84; refine (isAmt_eq _ _ _ ham).mono ?_; rintro e w2 ⟨rfl, ew⟩; replace ew := ew.symm; subst ew))
    go_returns
    exact ⟨ret_iii HV.out.1 HV.out.2.1 HV.out.2.2, HB3.out⟩
  have ham2 := inB_t ham
  by_cases hlow : A < M + T
  · have HV := hid (fa_no (n := n) (c := c) (fee := fee) (keep := keep) (day := day) (fun H => by have := H.2.2.2.2.2.2; rw [HE.out.1, HE.out.2.1, HE.out.2.2] at this; omega))
    go_enter Try.func41, Try.ntmps41
    go_wp2_with (first
    | (go_at_call 73; refine HL.out.mono ?_; rintro e w1 ⟨rfl, b1⟩; have HB1 : Hid (Below w.heap.size w w1) := b1; clear b1)
    | (go_at_call_of 82 fee; refine (isRate_eq _ _ _ hfe).mono ?_; rintro e w2 ⟨rfl, ew⟩; replace ew := ew.symm; subst ew)
    | (go_at_call_of 82 keep; refine (isRate_eq _ _ _ hke).mono ?_; rintro e w2 ⟨rfl, ew⟩; replace ew := ew.symm; subst ew)
    | (go_at_call 45; refine (isDay_eq _ _ _ hda).mono ?_; rintro e w2 ⟨rfl, ew⟩; replace ew := ew.symm; subst ew)
    | (go_at_call 83; refine (HG.out _ HB1.out).mono ?_; rintro e w3 ⟨rfl, b3⟩; have HB3 : Hid (Below w.heap.size w w3) := hid (bel_on HB1.out b3); clear b3)
    | (go_at_call 84; refine (isAmt_eq _ _ _ ham).mono ?_; rintro e w2 ⟨rfl, ew⟩; replace ew := ew.symm; subst ew)
    | (go_at_call 85; refine (HMD.out _).mono ?_; rintro e w4 ⟨rfl, b4⟩; have HB4 : Hid (Below w.heap.size w w4) := hid (bel_on HB3.out b4); clear b4))
    go_returns
    exact ⟨ret_iii HV.out.1 HV.out.2.1 HV.out.2.2, HB4.out⟩
  · have HV : Hid (A - M - T = faX n c fee keep day ∧ M = faK n c fee keep day ∧ T = faT n c fee keep day) := hid (by
      have := fa_yes (n := n) (c := c) (fee := fee) (keep := keep) (day := day) ⟨HBT.out, hfe2, hke2, hda2, HN.out, by rw [HE.out.2.1]; exact ham2.2, by rw [HE.out.1, HE.out.2.1, HE.out.2.2]; omega⟩
      rw [HE.out.1, HE.out.2.1, HE.out.2.2] at this
      exact this)
    go_enter Try.func41, Try.ntmps41
    go_wp2_with (first
    | (go_at_call 73; refine HL.out.mono ?_; rintro e w1 ⟨rfl, b1⟩; have HB1 : Hid (Below w.heap.size w w1) := b1; clear b1)
    | (go_at_call_of 82 fee; refine (isRate_eq _ _ _ hfe).mono ?_; rintro e w2 ⟨rfl, ew⟩; replace ew := ew.symm; subst ew)
    | (go_at_call_of 82 keep; refine (isRate_eq _ _ _ hke).mono ?_; rintro e w2 ⟨rfl, ew⟩; replace ew := ew.symm; subst ew)
    | (go_at_call 45; refine (isDay_eq _ _ _ hda).mono ?_; rintro e w2 ⟨rfl, ew⟩; replace ew := ew.symm; subst ew)
    | (go_at_call 83; refine (HG.out _ HB1.out).mono ?_; rintro e w3 ⟨rfl, b3⟩; have HB3 : Hid (Below w.heap.size w w3) := hid (bel_on HB1.out b3); clear b3)
    | (go_at_call 84; refine (isAmt_eq _ _ _ ham).mono ?_; rintro e w2 ⟨rfl, ew⟩; replace ew := ew.symm; subst ew)
    | (go_at_call 85; refine (HMD.out _).mono ?_; rintro e w4 ⟨rfl, b4⟩; have HB4 : Hid (Below w.heap.size w w4) := hid (bel_on HB3.out b4); clear b4))
    go_returns
    exact ⟨ret_iii HV.out.1 HV.out.2.1 HV.out.2.2, HB4.out⟩
set_option maxRecDepth 20000 in
set_option maxHeartbeats 8000000 in
theorem specFactor_any (ad : Option Addr) (n cap : Nat) (c : Nat → OI2) (fee keep day : Int) (w : World) (h : (n : Int) ≤ 1048576) (hr : OIr w ad n c) :
    Calls Try.prog 43 #[.slice ad n cap, .int .i64 fee, .int .i64 keep, .int .i64 day] w fun e w' => e = .returned (.tuple #[.int .i64 (faX n c fee keep day), .int .i64 (faK n c fee keep day), .int .i64 (faT n c fee keep day)]) ∧ Below w.heap.size w w' := by
  have HR : Hid (OIr w ad n c) := hr
  have HL : Hid (Calls Try.prog 77 #[.slice ad n cap] w fun e w' => e = .returned (.bool (opB n c)) ∧ w' = w) := specOpen_any ad n cap c w h hr
  clear hr
  cases hb : opB n c
  · have HV := hid (fa_no (n := n) (c := c) (fee := fee) (keep := keep) (day := day) (fun H => by rw [H.1] at hb; cases hb))
    rw [hb] at HL
    go_enter Try.func43, Try.ntmps43
    go_wp2_with (first
    | (go_at_call 77; refine HL.out.mono ?_; rintro e w2 ⟨rfl, ew⟩; replace ew := ew.symm; subst ew)
    | (go_at_call_of 57 fee; refine (l13Rate_eq _ _ _ hfe).mono ?_; rintro e w2 ⟨rfl, ew⟩; replace ew := ew.symm; subst ew)
    | (go_at_call_of 57 keep; refine (l13Rate_eq _ _ _ hke).mono ?_; rintro e w2 ⟨rfl, ew⟩; replace ew := ew.symm; subst ew)
    | (go_at_call 55; refine (l2Day_eq _ _ _ hda).mono ?_; rintro e w2 ⟨rfl, ew⟩; replace ew := ew.symm; subst ew))
    go_returns
    exact ⟨ret_iii HV.out.1 HV.out.2.1 HV.out.2.2, Below.refl _ _⟩
  rw [hb] at HL
  cases hfe : inB fee 0 100000
  · have HV := hid (fa_no (n := n) (c := c) (fee := fee) (keep := keep) (day := day) (fun H => inB_f hfe H.2.1))
    go_enter Try.func43, Try.ntmps43
    go_wp2_with (first
    | (go_at_call 77; refine HL.out.mono ?_; rintro e w2 ⟨rfl, ew⟩; replace ew := ew.symm; subst ew)
    | (go_at_call_of 57 fee; refine (l13Rate_eq _ _ _ hfe).mono ?_; rintro e w2 ⟨rfl, ew⟩; replace ew := ew.symm; subst ew)
    | (go_at_call_of 57 keep; refine (l13Rate_eq _ _ _ hke).mono ?_; rintro e w2 ⟨rfl, ew⟩; replace ew := ew.symm; subst ew)
    | (go_at_call 55; refine (l2Day_eq _ _ _ hda).mono ?_; rintro e w2 ⟨rfl, ew⟩; replace ew := ew.symm; subst ew))
    go_returns
    exact ⟨ret_iii HV.out.1 HV.out.2.1 HV.out.2.2, Below.refl _ _⟩
  cases hke : inB keep 0 100000
  · have HV := hid (fa_no (n := n) (c := c) (fee := fee) (keep := keep) (day := day) (fun H => inB_f hke H.2.2.1))
    go_enter Try.func43, Try.ntmps43
    go_wp2_with (first
    | (go_at_call 77; refine HL.out.mono ?_; rintro e w2 ⟨rfl, ew⟩; replace ew := ew.symm; subst ew)
    | (go_at_call_of 57 fee; refine (l13Rate_eq _ _ _ hfe).mono ?_; rintro e w2 ⟨rfl, ew⟩; replace ew := ew.symm; subst ew)
    | (go_at_call_of 57 keep; refine (l13Rate_eq _ _ _ hke).mono ?_; rintro e w2 ⟨rfl, ew⟩; replace ew := ew.symm; subst ew)
    | (go_at_call 55; refine (l2Day_eq _ _ _ hda).mono ?_; rintro e w2 ⟨rfl, ew⟩; replace ew := ew.symm; subst ew))
    go_returns
    exact ⟨ret_iii HV.out.1 HV.out.2.1 HV.out.2.2, Below.refl _ _⟩
  cases hda : inB day 0 40000
  · have HV := hid (fa_no (n := n) (c := c) (fee := fee) (keep := keep) (day := day) (fun H => inB_f hda H.2.2.2.1))
    go_enter Try.func43, Try.ntmps43
    go_wp2_with (first
    | (go_at_call 77; refine HL.out.mono ?_; rintro e w2 ⟨rfl, ew⟩; replace ew := ew.symm; subst ew)
    | (go_at_call_of 57 fee; refine (l13Rate_eq _ _ _ hfe).mono ?_; rintro e w2 ⟨rfl, ew⟩; replace ew := ew.symm; subst ew)
    | (go_at_call_of 57 keep; refine (l13Rate_eq _ _ _ hke).mono ?_; rintro e w2 ⟨rfl, ew⟩; replace ew := ew.symm; subst ew)
    | (go_at_call 55; refine (l2Day_eq _ _ _ hda).mono ?_; rintro e w2 ⟨rfl, ew⟩; replace ew := ew.symm; subst ew))
    go_returns
    exact ⟨ret_iii HV.out.1 HV.out.2.1 HV.out.2.2, Below.refl _ _⟩
  have hfe2 := inB_t hfe
  have hke2 := inB_t hke
  have hda2 := inB_t hda
  have HOP : Hid (OpP n c) := opB_p hb
  have HBT : Hid (opB n c = true) := hb
  have hn1 : (n : Int) ≤ 100 := by have := HOP.out.1; omega
  clear hb
  go_enter Try.func43, Try.ntmps43
  go_wp2_with (first
    | (go_at_call 77; refine HL.out.mono ?_; rintro e w2 ⟨rfl, ew⟩; replace ew := ew.symm; subst ew)
    | (go_at_call_of 57 fee; refine (l13Rate_eq _ _ _ hfe).mono ?_; rintro e w2 ⟨rfl, ew⟩; replace ew := ew.symm; subst ew)
    | (go_at_call_of 57 keep; refine (l13Rate_eq _ _ _ hke).mono ?_; rintro e w2 ⟨rfl, ew⟩; replace ew := ew.symm; subst ew)
    | (go_at_call 55; refine (l2Day_eq _ _ _ hda).mono ?_; rintro e w2 ⟨rfl, ew⟩; replace ew := ew.symm; subst ew))
  clear hfe hke hda HL
  go_loopw [11, 12, 13] (fun x y i wr => ∃ (k : Nat) (A T : Int), k ≤ n ∧ i = .int .i64 (k : Int) ∧ x = .int .i64 A ∧ y = .int .i64 T ∧ (0 ≤ A ∧ A ≤ (k : Int) * 100000000000) ∧ (0 ≤ T ∧ T ≤ (k : Int) * 100000000001) ∧ Hid (A = alS c k ∧ T = tkS c fee day k ∧ NrP c day k ∧ Below w.heap.size w wr)) (fun _ _ i _ => n - (intOf i).toNat)
  case atStart => exact ⟨0, 0, 0, Nat.zero_le _, rfl, rfl, rfl, by omega, by omega, rfl, rfl, fun j hj => by omega, Below.refl _ _⟩
  case round =>
    obtain ⟨k, A, T, hk, rfl, rfl, rfl, hA, hT, HH⟩ := hrel
    obtain ⟨wo, rfl⟩ : ∃ x, x = wr := ⟨wr, rfl⟩
    by_cases hlt : k < n
    · have hlt2 : (k : Int) < (n : Int) := by omega
      obtain ⟨kb, off, rfl, hkb⟩ := HR.out.addr (by omega)
      have k0 := (HR.out.below HH.out.2.2.2).cell hlt
      have hoi := oiB_p (HOP.out.2 k hlt)
      obtain ⟨e, he⟩ : ∃ e, c k = e := ⟨_, rfl⟩
      rw [he] at k0 hoi
      obtain ⟨d, a⟩ := e
      have HX : Hid (c k = ⟨d, a⟩) := he
      obtain ⟨c0, c1⟩ := k0
      simp only at c0 c1 hoi
      obtain ⟨hod, hoa⟩ := hoi
      clear he
      have far : ∀ D : Int, fdV d day = D → 360 < D → 0 = faX n c fee keep day ∧ 0 = faK n c fee keep day ∧ 0 = faT n c fee keep day := fun D hD hfar => fa_no (fun H => by have := H.2.2.2.2.1 k hlt; rw [HX.out] at this; simp only at this; rw [hD] at this; omega)
      have near : ∀ D : Int, fdV d day = D → D ≤ 360 → 0 ≤ D → (0 ≤ a * (fee * D) ∧ a * (fee * D) ≤ 3600000000000000000 ∧ 0 ≤ fee * D ∧ fee * D ≤ 36000000) ∧ A + a = alS c (k + 1) ∧ T + dv (a * (fee * D)) 36000000 3 = tkS c fee day (k + 1) ∧ NrP c day (k + 1) := fun D hD hfar h0 => by
        have hp := fee_prod hoa hfe2 ⟨h0, hfar⟩
        refine ⟨by rw [← Int.mul_assoc]; exact ⟨hp.2.2.1, hp.2.2.2.1, hp.2.2.2.2.1, hp.2.2.2.2.2⟩, ?_, ?_, nr_step HH.out.2.2.1 (by rw [HX.out]; simp only; rw [hD]; exact hfar)⟩
        · unfold alS; rw [HX.out, ← HH.out.1]
        · unfold tkS; rw [HX.out, ← HH.out.2.1, hD]; unfold feV; rw [Int.mul_assoc]
      have HFAR := hid far
      have HNEAR := hid near
      clear far near
      by_cases hneg : d - day < 0
      · obtain ⟨⟨n1, n2, n3, n4⟩, n5, n6, n7⟩ := HNEAR.out 0 (by unfold fdV; omega) (by omega) (by omega)
        have hb := dv_fee n1 n2
        have HDV : Hid (∀ w, Calls Try.prog 86 #[.int .i64 (a * (fee * 0)), .int .i64 36000000, .int .i64 3] w fun e w' => e = .returned (.int .i64 (dv (a * (fee * 0)) 36000000 3)) ∧ w' = w) := fun w => l1Div_wide _ _ w (by omega) (by omega) (by omega) (by omega)
        have hw1 : IntKind.i64.wrap (fee * 0) = fee * 0 := IntWalk.i64_in _ ⟨by omega, by omega⟩
        have hw2 : IntKind.i64.wrap (a * (fee * 0)) = a * (fee * 0) := IntWalk.i64_in _ ⟨by omega, by omega⟩
        obtain ⟨V, hV⟩ : ∃ V, dv (a * (fee * 0)) 36000000 3 = V := ⟨_, rfl⟩
        rw [hV] at HDV n6 hb
        have H5 := hid n5
        have H6 := hid n6
        have H7 := hid n7
        rw [Int.mul_zero, Int.mul_zero] at HDV
        have hz1 : fee * 0 = 0 := Int.mul_zero _
        have hz2 : a * 0 = 0 := Int.mul_zero _
        clear hV n1 n2 n3 n4 n5 n6 n7 HFAR HNEAR hw1 hw2
        go_wp2_with (go_at_call 86; refine (HDV.out _).mono ?_; rintro e w2 ⟨rfl, ew⟩; replace ew := ew.symm; subst ew)
        go_roundw
        case rel => exact ⟨k + 1, A + a, T + V, by omega, by go_num, rfl, rfl, by omega, by omega, H5.out, H6.out, H7.out, HH.out.2.2.2⟩
        case measure => simp [intOf]; omega
      by_cases hfar : 360 < d - day
      · have HV := hid (HFAR.out (d - day) (by unfold fdV; omega) hfar)
        clear HFAR HNEAR
        go_wp2
        go_returns
        exact ⟨ret_iii HV.out.1 HV.out.2.1 HV.out.2.2, HH.out.2.2.2⟩
      obtain ⟨D, hD⟩ : ∃ D, d - day = D := ⟨_, rfl⟩
      obtain ⟨⟨n1, n2, n3, n4⟩, n5, n6, n7⟩ := HNEAR.out D (by unfold fdV; omega) (by omega) (by omega)
      have hb := dv_fee n1 n2
      have HDV : Hid (∀ w, Calls Try.prog 86 #[.int .i64 (a * (fee * D)), .int .i64 36000000, .int .i64 3] w fun e w' => e = .returned (.int .i64 (dv (a * (fee * D)) 36000000 3)) ∧ w' = w) := fun w => l1Div_wide _ _ w (by omega) (by omega) (by omega) (by omega)
      obtain ⟨V, hV⟩ : ∃ V, dv (a * (fee * D)) 36000000 3 = V := ⟨_, rfl⟩
      rw [hV] at HDV n6 hb
      obtain ⟨Y, hY⟩ : ∃ Y, fee * D = Y := ⟨_, rfl⟩
      obtain ⟨Z, hZ⟩ : ∃ Z, a * Y = Z := ⟨_, rfl⟩
      rw [hY] at HDV n1 n2 n3 n4
      rw [hZ] at HDV n1 n2
      have hw0 : IntKind.i64.wrap (d - day) = D := by rw [hD]; exact IntWalk.i64_in _ ⟨by omega, by omega⟩
      have hw1 : IntKind.i64.wrap (fee * D) = Y := by rw [hY]; exact IntWalk.i64_in _ ⟨by omega, by omega⟩
      have hw2 : IntKind.i64.wrap (a * Y) = Z := by rw [hZ]; exact IntWalk.i64_in _ ⟨by omega, by omega⟩
      have H5 := hid n5
      have H6 := hid n6
      have H7 := hid n7
      have hD1 : ¬ D < 0 := by omega
      have hD2 : ¬ 360 < D := by omega
      clear hV hY hZ n5 n6 n7 HFAR HNEAR hneg hfar
      go_wp2_with (go_at_call 86; refine (HDV.out _).mono ?_; rintro e w2 ⟨rfl, ew⟩; replace ew := ew.symm; subst ew)
      go_roundw
      case rel => exact ⟨k + 1, A + a, T + V, by omega, by go_num, rfl, rfl, by omega, by omega, H5.out, H6.out, H7.out, HH.out.2.2.2⟩
      case measure => simp [intOf]; omega
    · obtain rfl : k = n := by omega
      have lkk : ¬ (k : Int) < (k : Int) := by omega
      have hmd := md_abs A keep 100000 3
      have HMD : Hid (∀ w, Calls Try.prog 88 #[.int .i64 A, .int .i64 keep, .int .i64 100000, .int .i64 3] w fun e w' => e = .returned (.tuple #[.int .i64 (mdV A keep 100000 3), .bool (mdB A keep 100000 3)]) ∧ w' = w) := fun w => specMulDiv_any A keep 100000 3 w
      obtain ⟨M, hM⟩ : ∃ M, mdV A keep 100000 3 = M := ⟨_, rfl⟩
      obtain ⟨MB, hMB⟩ : ∃ M, mdB A keep 100000 3 = M := ⟨_, rfl⟩
      have HE : Hid (mdV (alS c k) keep 100000 3 = M ∧ alS c k = A ∧ tkS c fee day k = T) := hid ⟨by rw [← HH.out.1]; exact hM, HH.out.1.symm, HH.out.2.1.symm⟩
      rw [hM, hMB] at HMD
      rw [hM] at hmd
      clear hM hMB
      cases ham : inB A (-100000000000) 100000000000
      · have HV := hid (fa_no (n := k) (c := c) (fee := fee) (keep := keep) (day := day) (fun H => inB_f ham ⟨by omega, by have := H.2.2.2.2.2.1; rw [HE.out.2.1] at this; exact this⟩))
        go_wp2_with (go_at_call 87; refine (l1Amt_eq _ _ _ ham).mono ?_; rintro e w2 ⟨rfl, ew⟩; replace ew := ew.symm; subst ew)
        go_returns
        exact ⟨ret_iii HV.out.1 HV.out.2.1 HV.out.2.2, HH.out.2.2.2⟩
      have ham2 := inB_t ham
      by_cases hlow : A - M - T < 0
      · have HV := hid (fa_no (n := k) (c := c) (fee := fee) (keep := keep) (day := day) (fun H => by have := H.2.2.2.2.2.2; rw [HE.out.1, HE.out.2.1, HE.out.2.2] at this; omega))
        go_wp2_with (first | (go_at_call 87; refine (l1Amt_eq _ _ _ ham).mono ?_; rintro e w2 ⟨rfl, ew⟩; replace ew := ew.symm; subst ew) | (go_at_call 88; refine (HMD.out _).mono ?_; rintro e w2 ⟨rfl, ew⟩; replace ew := ew.symm; subst ew))
        go_returns
        exact ⟨ret_iii HV.out.1 HV.out.2.1 HV.out.2.2, HH.out.2.2.2⟩
      · have HV : Hid (A - M - T = faX k c fee keep day ∧ M = faK k c fee keep day ∧ T = faT k c fee keep day) := hid (by
          have := fa_yes (n := k) (c := c) (fee := fee) (keep := keep) (day := day) ⟨HBT.out, hfe2, hke2, hda2, HH.out.2.2.1, by rw [HE.out.2.1]; exact ham2.2, by rw [HE.out.1, HE.out.2.1, HE.out.2.2]; omega⟩
          rw [HE.out.1, HE.out.2.1, HE.out.2.2] at this
          exact this)
        go_wp2_with (first | (go_at_call 87; refine (l1Amt_eq _ _ _ ham).mono ?_; rintro e w2 ⟨rfl, ew⟩; replace ew := ew.symm; subst ew) | (go_at_call 88; refine (HMD.out _).mono ?_; rintro e w2 ⟨rfl, ew⟩; replace ew := ew.symm; subst ew))
        go_returns
        exact ⟨ret_iii HV.out.1 HV.out.2.1 HV.out.2.2, HH.out.2.2.2⟩
end Go.Proofs.Ytnglofgcckdbmaa
