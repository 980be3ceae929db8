/- TaxRulesOk of the model: it answers 'trB'. -/
import Derived.Test.YtbhghghkgojpgaaTb
import Derived.Deep.QuietTactic
namespace Go.Proofs.Ytbhghghkgojpgaa
open Go.ChangeShapes Go.WideShapes Go.ChangeAt Go.RowKit
set_option linter.unusedVariables false
set_option linter.unusedSimpArgs false

def rGood (c : Nat → T5) (i : Nat) : Prop := rOk (c i) = true ∧ ∀ k, k < i → clB (c i) (c k) = false
def TrP (n : Nat) (c : Nat → T5) : Prop := n ≤ 60 ∧ ∀ i, i < n → rGood c i
open Classical in
noncomputable def trB (n : Nat) (c : Nat → T5) : Bool := decide (TrP n c)
open Classical in
theorem trB_t {n : Nat} {c : Nat → T5} (h : TrP n c) : trB n c = true := by unfold trB; exact decide_eq_true h
open Classical in
theorem trB_f {n : Nat} {c : Nat → T5} (h : ¬ TrP n c) : trB n c = false := by unfold trB; exact decide_eq_false h
theorem trB_bad {n i : Nat} {c : Nat → T5} (hi : i < n) (h : ¬ rGood c i) : trB n c = false := trB_f fun H => h (H.2 i hi)
theorem trB_one {n i : Nat} {c : Nat → T5} (hi : i < n) (h : rOk (c i) = false) : trB n c = false := trB_bad hi fun H => by have := H.1; rw [h] at this; cases this
theorem trB_two {n i k : Nat} {c : Nat → T5} (hi : i < n) (hk : k < i) (h : clB (c i) (c k) = true) : trB n c = false := trB_bad hi fun H => by have := H.2 k hk; rw [h] at this; cases this
theorem good_step {c : Nat → T5} {k : Nat} (h : ∀ j, j < k → rGood c j) (g : rGood c k) : ∀ j, j < k + 1 → rGood c j := fun j hj => by
  by_cases e : j = k
  · subst e; exact g
  · exact h j (by omega)
theorem cl_step {c : Nat → T5} {k n : Nat} (h : ∀ j, j < n → clB (c k) (c j) = false) (g : clB (c k) (c n) = false) : ∀ j, j < n + 1 → clB (c k) (c j) = false := fun j hj => by
  by_cases e : j = n
  · subst e; exact g
  · exact h j (by omega)
theorem rOk_le {r : T5} (h : rOk r = true) : r.fr ≤ r.to := by
  unfold rOk at h
  simp only [Bool.and_eq_true, decide_eq_true_eq] at h
  exact h.2.2.2.2.1
theorem bd_N {n : Nat} {A W : World} (h : Below n A W) (q : Nat) : Below n A (W.drewN q) := ⟨h.os, h.tape, h.output, h.size, h.block⟩

set_option maxRecDepth 20000 in
set_option maxHeartbeats 8000000 in
theorem specRules_any (ad : Option Addr) (len cap : Nat) (c : Nat → T5) (w : World) (h : (len : Int) ≤ 1048576) (hs : ∀ j, (c j).code.size ≤ maxLen) (hr : TR w ad len c) :
    Calls Try.prog 17 #[.slice ad len cap] w fun e w' => e = .returned (.bool (trB len c)) ∧ Below w.heap.size w w' := by
  have HR : Hid (TR w ad len c) := hr
  have HS : Hid (∀ j, (c j).code.size ≤ maxLen) := hs
  clear hr hs
  by_cases h60 : (60 : Int) < (len : Int)
  · have HV : Hid (trB len c = false) := trB_f fun H => by have := H.1; omega
    go_enter Try.func17, Try.ntmps17
    go_wp2
    go_returns
    exact ⟨ret_bool HV.out.symm, Below.refl _ _⟩
  have h6 : (len : Int) ≤ 60 := by omega
  clear h60
  go_enter Try.func17, Try.ntmps17
  go_wp2
  go_loopw [3] (fun i wr => ∃ (k : Nat), k ≤ len ∧ i = .int .i64 (k : Int) ∧ Hid ((∀ j, j < k → rGood c j) ∧ Below w.heap.size w wr)) (fun i _ => len - (intOf i).toNat)
  case atStart => exact ⟨0, Nat.zero_le _, rfl, fun j hj => by omega, Below.refl _ _⟩
  case round =>
    obtain ⟨k, hk, rfl, HH⟩ := hrel
    obtain ⟨wo, rfl⟩ : ∃ x, x = wr := ⟨wr, rfl⟩
    by_cases hlt : k < len
    · have hlt2 : (k : Int) < (len : Int) := by omega
      obtain ⟨kb, off, rfl, hkb⟩ := HR.out.addr (by omega)
      obtain ⟨c0, c1, c2, c3, c4⟩ := (HR.out.below HH.out.2).cell hlt
      obtain ⟨r, hr⟩ : ∃ r, c k = r := ⟨_, rfl⟩
      have HX : Hid (c k = r) := hr
      have HZ : Hid (r.code.size ≤ maxLen) := by have := HS.out k; rw [hr] at this; exact this
      rw [hr] at c0 c1 c2 c3 c4
      obtain ⟨s, fr, to, ra, ki⟩ := r
      simp only at c0 c1 c2 c3 c4
      clear hr
      cases hname : nameB s
      · have HV : Hid (trB len c = false) := hid (trB_one hlt (by rw [HX.out]; simp [rOk, hname]))
        go_wp2_with (first | (go_at_call 59; refine (specName_any _ _ HZ.out).mono ?_; rintro e w1 ⟨rfl, rfl⟩) | (go_at_call 60; refine (l2Day_any _ _).mono ?_; rintro e w1 ⟨rfl, rfl⟩) | (go_at_call 56; refine (l1In_any _ _ _ _).mono ?_; rintro e w1 ⟨rfl, rfl⟩))
        go_returns
        exact ⟨ret_bool HV.out.symm, bel_on HH.out.2 (by go_grown)⟩
      cases hfr : inB fr 0 40000
      · have HV : Hid (trB len c = false) := hid (trB_one hlt (by rw [HX.out]; simp [rOk, hfr]))
        go_wp2_with (first | (go_at_call 59; refine (specName_any _ _ HZ.out).mono ?_; rintro e w1 ⟨rfl, rfl⟩) | (go_at_call 60; refine (l2Day_any _ _).mono ?_; rintro e w1 ⟨rfl, rfl⟩) | (go_at_call 56; refine (l1In_any _ _ _ _).mono ?_; rintro e w1 ⟨rfl, rfl⟩))
        go_returns
        exact ⟨ret_bool HV.out.symm, bel_on HH.out.2 (by go_grown)⟩
      cases hto : inB to 0 40000
      · have HV : Hid (trB len c = false) := hid (trB_one hlt (by rw [HX.out]; simp [rOk, hto]))
        go_wp2_with (first | (go_at_call 59; refine (specName_any _ _ HZ.out).mono ?_; rintro e w1 ⟨rfl, rfl⟩) | (go_at_call 60; refine (l2Day_any _ _).mono ?_; rintro e w1 ⟨rfl, rfl⟩) | (go_at_call 56; refine (l1In_any _ _ _ _).mono ?_; rintro e w1 ⟨rfl, rfl⟩))
        go_returns
        exact ⟨ret_bool HV.out.symm, bel_on HH.out.2 (by go_grown)⟩
      cases hle : decide (fr ≤ to)
      · have HV : Hid (trB len c = false) := hid (trB_one hlt (by rw [HX.out]; simp [rOk, hle]))
        have hle2 : to < fr := by have := of_decide_eq_false hle; omega
        clear hle
        go_wp2_with (first | (go_at_call 59; refine (specName_any _ _ HZ.out).mono ?_; rintro e w1 ⟨rfl, rfl⟩) | (go_at_call 60; refine (l2Day_any _ _).mono ?_; rintro e w1 ⟨rfl, rfl⟩) | (go_at_call 56; refine (l1In_any _ _ _ _).mono ?_; rintro e w1 ⟨rfl, rfl⟩))
        go_returns
        exact ⟨ret_bool HV.out.symm, bel_on HH.out.2 (by go_grown)⟩
      cases hrate : inB ra 0 1000000
      · have HV : Hid (trB len c = false) := hid (trB_one hlt (by rw [HX.out]; simp [rOk, hrate]))
        have hle2 : fr ≤ to := of_decide_eq_true hle
        clear hle
        go_wp2_with (first | (go_at_call 59; refine (specName_any _ _ HZ.out).mono ?_; rintro e w1 ⟨rfl, rfl⟩) | (go_at_call 60; refine (l2Day_any _ _).mono ?_; rintro e w1 ⟨rfl, rfl⟩) | (go_at_call 56; refine (l1In_any _ _ _ _).mono ?_; rintro e w1 ⟨rfl, rfl⟩))
        go_returns
        exact ⟨ret_bool HV.out.symm, bel_on HH.out.2 (by go_grown)⟩
      cases hkind : inB ki 1 4
      · have HV : Hid (trB len c = false) := hid (trB_one hlt (by rw [HX.out]; simp [rOk, hkind]))
        have hle2 : fr ≤ to := of_decide_eq_true hle
        clear hle
        go_wp2_with (first | (go_at_call 59; refine (specName_any _ _ HZ.out).mono ?_; rintro e w1 ⟨rfl, rfl⟩) | (go_at_call 60; refine (l2Day_any _ _).mono ?_; rintro e w1 ⟨rfl, rfl⟩) | (go_at_call 56; refine (l1In_any _ _ _ _).mono ?_; rintro e w1 ⟨rfl, rfl⟩))
        go_returns
        exact ⟨ret_bool HV.out.symm, bel_on HH.out.2 (by go_grown)⟩
      have HV : Hid (rOk (c k) = true) := hid (by rw [HX.out]; simp [rOk, hname, hfr, hto, hle, hrate, hkind])
      have hle2 : fr ≤ to := of_decide_eq_true hle
      clear hle
      go_wp2_with (first | (go_at_call 59; refine (specName_any _ _ HZ.out).mono ?_; rintro e w1 ⟨rfl, rfl⟩) | (go_at_call 60; refine (l2Day_any _ _).mono ?_; rintro e w1 ⟨rfl, rfl⟩) | (go_at_call 56; refine (l1In_any _ _ _ _).mono ?_; rintro e w1 ⟨rfl, rfl⟩))
      go_loopw [5] (fun i w2 => ∃ (n : Nat), n ≤ k ∧ i = .int .i64 (n : Int) ∧ Hid ((∀ j, j < n → clB (c k) (c j) = false) ∧ Below w.heap.size w w2) ∧ CB w2 wo.heap.size #[.string s, .int .i64 fr, .int .i64 to, .int .i64 ra, .int .i64 ki] 79) (fun i _ => k - (intOf i).toNat)
      case atStart => exact ⟨0, Nat.zero_le _, rfl, ⟨fun j hj => by omega, bel_on HH.out.2 (by go_grown)⟩, CB.new _ _⟩
      case round =>
        obtain ⟨n, hn, rfl, HN, HC⟩ := hrel
        have k0 := (HC.cell 0).trans rfl
        have k1 := (HC.cell 1).trans rfl
        have k2 := (HC.cell 2).trans rfl
        have HC2 : Hid (CB wr wo.heap.size #[.string s, .int .i64 fr, .int .i64 to, .int .i64 ra, .int .i64 ki] 79) := HC
        clear HC
        by_cases hnk : n < k
        · have hnk2 : (n : Int) < (k : Int) := by omega
          have hn20 : (n : Int) < (len : Int) := by omega
          obtain ⟨d0, d1, d2, _, _⟩ := (HR.out.below HN.out.2).cell (j := n) (by omega)
          have hol := rOk_le (HH.out.1 n hnk).1
          obtain ⟨o, ho⟩ : ∃ r, c n = r := ⟨_, rfl⟩
          have HO : Hid (c n = o) := ho
          rw [ho] at d0 d1 d2 hol
          obtain ⟨s2, fr2, to2, ra2, ki2⟩ := o
          simp only at d0 d1 d2 hol
          clear ho
          by_cases g : s2 = s
          · by_cases g1 : fr2 ≤ to
            · by_cases g2 : fr ≤ to2
              · have HF : Hid (trB len c = false) := hid (trB_two hlt hnk (by rw [HX.out, HO.out]; simp [clB, g]; omega))
                have e1 := lists_t g
                have e2 : decide (fr2 ≤ to) = true := decide_eq_true g1
                have e3 : decide (fr ≤ to2) = true := decide_eq_true g2
                clear g
                go_wp2
                go_quiet (fail)
                go_wp2
                go_returns
                exact ⟨ret_bool HF.out.symm, bd_N HN.out.2 _⟩
              · have HF : Hid (∀ j, j < n + 1 → clB (c k) (c j) = false) := hid (cl_step HN.out.1 (by rw [HX.out, HO.out]; simp [clB]; intro _; omega))
                have e1 := lists_t g
                have e2 : decide (fr2 ≤ to) = true := decide_eq_true g1
                have e3 : decide (fr ≤ to2) = false := decide_eq_false g2
                clear g
                go_wp2
                go_quiet (fail)
                go_wp2
                go_roundw
                case rel => exact ⟨n + 1, by omega, by go_num, ⟨HF.out, bd_N HN.out.2 _⟩, HC2.out⟩
                case measure => simp [intOf]; omega
            · have HF : Hid (∀ j, j < n + 1 → clB (c k) (c j) = false) := hid (cl_step HN.out.1 (by rw [HX.out, HO.out]; simp [clB]; intro _; omega))
              have e1 := lists_t g
              have e2 : decide (fr2 ≤ to) = false := decide_eq_false g1
              clear g
              go_wp2
              go_quiet (fail)
              go_wp2
              go_roundw
              case rel => exact ⟨n + 1, by omega, by go_num, ⟨HF.out, bd_N HN.out.2 _⟩, HC2.out⟩
              case measure => simp [intOf]; omega
          · have HF : Hid (∀ j, j < n + 1 → clB (c k) (c j) = false) := hid (cl_step HN.out.1 (by rw [HX.out, HO.out]; simp [clB]; intro q; exact absurd q.symm g))
            have e1 := lists_f g
            clear g
            go_wp2
            go_quiet (fail)
            go_wp2
            go_roundw
            case rel => exact ⟨n + 1, by omega, by go_num, ⟨HF.out, bd_N HN.out.2 _⟩, HC2.out⟩
            case measure => simp [intOf]; omega
        · obtain rfl : n = k := by omega
          have lkk : ¬ (n : Int) < (n : Int) := by omega
          have HG : Hid (∀ j, j < n + 1 → rGood c j) := good_step HH.out.1 ⟨HV.out, HN.out.1⟩
          go_wp2
          go_roundw
          case rel => exact ⟨n + 1, by omega, by go_num, HG.out, HN.out.2⟩
          case measure => simp [intOf]; omega
    · obtain rfl : k = len := by omega
      have lkk : ¬ (k : Int) < (k : Int) := by omega
      have HF : Hid (trB k c = true) := trB_t ⟨by omega, HH.out.1⟩
      go_wp2
      go_returns
      exact ⟨ret_bool HF.out.symm, HH.out.2⟩
end Go.Proofs.Ytbhghghkgojpgaa
