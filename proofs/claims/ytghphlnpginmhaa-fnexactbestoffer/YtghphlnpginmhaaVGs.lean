/- RateAt in the model: it tells 'rateO'. -/
import Derived.Test.YtghphlnpginmhaaVGp
import Derived.Test.YtghphlnpginmhaaVRs
namespace Go.Proofs.Ytghphlnpginmhaa.Rt
open Go.ChangeShapes Go.WideShapes Go.ChangeAt Go.RowKit
set_option linter.unusedVariables false
set_option linter.unusedSimpArgs false
theorem specRatesOk_eq (ad : Option Addr) (len cap : Nat) (r : Nat → R4) (m : Int) {v : Bool} (w : World) (h : (len : Int) ≤ 1048576) (hr : RR w ad len r) (hv : ratesB m len r = v) :
    Calls Try.prog 150 #[.slice ad len cap, .int .i64 m] w fun e w' => e = .returned (.bool v) ∧ Below w.heap.size w w' := hv ▸ specRatesOk_any ad len cap r m w h hr
theorem ret_o {o : Option (Int × Int)} {a b : Int} {c : Bool} (h : (o = some (a, b) ∧ c = true) ∨ (o = none ∧ a = 0 ∧ b = 0 ∧ c = false)) :
    Ending.returned (.tuple #[.int .i64 a, .int .i64 b, .bool c]) = .returned (.tuple #[.int .i64 (oN o), .int .i64 (oD o), .bool (oB o)]) := by
  rcases h with ⟨rfl, rfl⟩ | ⟨rfl, rfl, rfl, rfl⟩ <;> rfl
set_option maxHeartbeats 2000000 in
theorem specRateAt_any (ad : Option Addr) (len cap : Nat) (r : Nat → R4) (m p d : Int) (w : World) (h : (len : Int) ≤ 1048576) (hr : RR w ad len r) :
    Calls Try.prog 125 #[.slice ad len cap, .int .i64 m, .int .i64 p, .int .i64 d] w fun e w' => e = .returned (.tuple #[.int .i64 (oN (rateO m len r p d)), .int .i64 (oD (rateO m len r p d)), .bool (oB (rateO m len r p d))]) ∧ Below w.heap.size w w' := by
  have HR : Hid (RR w ad len r) := hr
  clear hr
  cases hg : ratesB m len r
  · have HF : Hid (rateO m len r p d = none) := rateO_bad fun H => by rw [hg] at H; cases H.1
    go_enter Try.func125, Try.ntmps125
    go_wp2_with (go_at_call 150; refine (specRatesOk_eq _ _ _ r _ _ h HR.out hg).mono ?_; rintro e w1 ⟨rfl, b1⟩)
    go_returns
    exact ⟨ret_o (.inr ⟨HF.out, rfl, rfl, rfl⟩), b1⟩
  have hm3 := inB_iff.1 (ratesB_iff.1 hg).1
  have hl4 : len ≤ 400 := (ratesB_iff.1 hg).2.1
  obtain ⟨M, hM⟩ : ∃ M, m - 1 = M := ⟨_, rfl⟩
  cases h1 : inB p 0 M
  · have HF : Hid (rateO m len r p d = none) := rateO_bad fun H => by have := H.2.1; rw [hM, h1] at this; cases this
    go_enter Try.func125, Try.ntmps125
    go_wp2_with (first | (go_at_call 150; refine (specRatesOk_eq _ _ _ r _ _ h HR.out hg).mono ?_; rintro e w1 ⟨rfl, b1⟩) | (go_at_call 67; refine (l1In_eq _ h1).mono ?_; rintro e w2 ⟨rfl, ew⟩; replace ew := ew.symm; subst ew))
    go_returns
    exact ⟨ret_o (.inr ⟨HF.out, rfl, rfl, rfl⟩), b1⟩
  cases h2 : inB d 0 40000
  · have HF : Hid (rateO m len r p d = none) := rateO_bad fun H => by have := H.2.2; rw [h2] at this; cases this
    go_enter Try.func125, Try.ntmps125
    go_wp2_with (first | (go_at_call 150; refine (specRatesOk_eq _ _ _ r _ _ h HR.out hg).mono ?_; rintro e w1 ⟨rfl, b1⟩) | (go_at_call 67; refine (l1In_eq _ h1).mono ?_; rintro e w2 ⟨rfl, ew⟩; replace ew := ew.symm; subst ew) | (go_at_call 87; refine (l2Day_eq _ h2).mono ?_; rintro e w2 ⟨rfl, ew⟩; replace ew := ew.symm; subst ew))
    go_returns
    exact ⟨ret_o (.inr ⟨HF.out, rfl, rfl, rfl⟩), b1⟩
  by_cases hp : p = 0
  · have HF : Hid (rateO m len r p d = some (1, 1)) := by subst hp; exact rateO_own hg (hM.symm ▸ h1) h2
    have ep : (p == 0) = true := by simpa using hp
    clear hp
    go_enter Try.func125, Try.ntmps125
    go_wp2_with (first | (go_at_call 150; refine (specRatesOk_eq _ _ _ r _ _ h HR.out hg).mono ?_; rintro e w1 ⟨rfl, b1⟩) | (go_at_call 67; refine (l1In_eq _ h1).mono ?_; rintro e w2 ⟨rfl, ew⟩; replace ew := ew.symm; subst ew) | (go_at_call 87; refine (l2Day_eq _ h2).mono ?_; rintro e w2 ⟨rfl, ew⟩; replace ew := ew.symm; subst ew))
    go_returns
    exact ⟨ret_o (.inl ⟨HF.out, rfl⟩), b1⟩
  · have HF : Hid (rateO m len r p d = (lastR p d len r).map (fun x => (x.num, x.den))) := rateO_other hg (hM.symm ▸ h1) h2 hp
    have ep : (p == 0) = false := by simpa using hp
    have hl5 : (len : Int) ≤ 400 := by omega
    clear hp hl4
    go_enter Try.func125, Try.ntmps125
    go_wp2_with (first | (go_at_call 150; refine (specRatesOk_eq _ _ _ r _ _ h HR.out hg).mono ?_; rintro e w1 ⟨rfl, b1⟩; replace HR : Hid (RR w1 ad len r) := HR.out.below b1; have HB1 : Hid (Below w.heap.size w w1) := b1; clear b1) | (go_at_call 67; refine (l1In_eq _ h1).mono ?_; rintro e w2 ⟨rfl, ew⟩; replace ew := ew.symm; subst ew) | (go_at_call 87; refine (l2Day_eq _ h2).mono ?_; rintro e w2 ⟨rfl, ew⟩; replace ew := ew.symm; subst ew))
    go_loop [11] (fun i => (∃ j : Nat, j < len ∧ i = .int .i64 (j : Int) ∧ Hid (lastR p d (j + 1) r = lastR p d len r)) ∨ (i = .int .i64 (-1) ∧ Hid (lastR p d len r = none))) (fun i => (intOf i + 1).toNat)
    case atStart =>
      by_cases h0 : len = 0
      · subst h0; exact .inr ⟨by simp, rfl⟩
      · obtain ⟨j, rfl⟩ : ∃ j, len = j + 1 := ⟨len - 1, by omega⟩
        exact .inl ⟨j, by omega, by go_num, rfl⟩
    case round =>
      rcases hrel with ⟨j, hj, rfl, HL⟩ | ⟨rfl, HL⟩
      · obtain ⟨kb, off, rfl, _⟩ := HR.out.addr (by omega)
        obtain ⟨xd, xf, xn, xe, hx⟩ : ∃ a b c d, r j = ⟨a, b, c, d⟩ := ⟨_, _, _, _, rfl⟩
        obtain ⟨c1, c2, c3, c4⟩ := HR.out.cell hj
        rw [hx] at c1 c2 c3 c4
        simp only at c1 c2 c3 c4
        have HX : Hid (r j = ⟨xd, xf, xn, xe⟩) := hx
        clear hx
        by_cases hm : xf = p ∧ xd ≤ d
        · have HV : Hid (lastR p d len r = some ⟨xd, xf, xn, xe⟩) := by rw [← HL.out, last_hit (by rw [HX.out]; exact hm.1) (by rw [HX.out]; exact hm.2), HX.out]; exact rfl
          have e1 : (xf == p) = true := by simpa using hm.1
          have e2 : xd ≤ d := hm.2
          clear hm
          go_wp2
          go_quiet (fail)
          go_wp2
          go_returns
          exact ⟨ret_o (.inl ⟨by rw [HF.out, HV.out]; rfl, rfl⟩), bdN HB1.out _⟩
        · have HN : Hid (lastR p d j r = lastR p d len r) := by rw [← HL.out]; exact (last_miss (by rw [HX.out]; exact hm)).symm
          by_cases hf : xf = p
          · have e1 : (xf == p) = true := by simpa using hf
            have e2 : ¬ xd ≤ d := fun g => hm ⟨hf, g⟩
            have e3 : d < xd := by omega
            clear hm hf
            go_wp2
            go_round
            case rel =>
              cases j with
              | zero => exact .inr ⟨by go_num, HN.out.symm⟩
              | succ j => exact .inl ⟨j, by omega, by go_num, HN⟩
            case measure => simp [intOf] <;> omega
          · have e1 : (xf == p) = false := by simpa using hf
            clear hm hf
            go_wp2
            go_round
            case rel =>
              cases j with
              | zero => exact .inr ⟨by go_num, HN.out.symm⟩
              | succ j => exact .inl ⟨j, by omega, by go_num, HN⟩
            case measure => simp [intOf] <;> omega
      · go_wp2
        go_returns
        exact ⟨ret_o (.inr ⟨by rw [HF.out, HL.out]; rfl, rfl, rfl, rfl⟩), HB1.out⟩
end Go.Proofs.Ytghphlnpginmhaa.Rt
