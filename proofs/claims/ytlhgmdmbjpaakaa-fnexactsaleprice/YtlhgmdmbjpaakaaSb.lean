/- SalePrice of the program and of the model. -/
import Derived.Test.YtlhgmdmbjpaakaaSa
namespace Go.Proofs.Ytlhgmdmbjpaakaa
open Go Go.ChangeShapes Go.WideShapes Go.ChangeAt Go.RowKit
set_option linter.unusedVariables false
set_option linter.unusedSimpArgs false

def spF (rt : Nat → Int) (x : Int) : Nat → Int
  | 0 => x
  | k + 1 => spF rt x k - mdV (spF rt x k) (rt k) 100000 3
theorem lr_rate {n : Nat} {z : Nat → RU2} (h : rlB n z = true) (q : Int) : ∀ k, k ≤ n → 0 ≤ lrS z q k ∧ lrS z q k ≤ 100000
  | 0, _ => by simp [lrS]
  | k + 1, hk => by
    have i := lr_rate h q k (by omega)
    unfold lrS
    split
    · have h2 := (rlB_p h).2 k (by omega)
      unfold rlOk rlE at h2
      simp only [Bool.and_eq_true] at h2
      exact inB_t h2.1.2
    · exact i
def SpP (p q : Int) (n : Nat) (z : Nat → RU2) (m : Nat) (y : Nat → Int) : Prop := (0 ≤ p ∧ p ≤ 100000) ∧ (0 ≤ q ∧ q ≤ 1000000) ∧ rlB n z = true ∧ DeP m y
open Classical in
noncomputable def spB (p q : Int) (n : Nat) (z : Nat → RU2) (m : Nat) (y : Nat → Int) : Bool := decide (SpP p q n z m y)
open Classical in
theorem spB_t {p q : Int} {n : Nat} {z : Nat → RU2} {m : Nat} {y : Nat → Int} (h : SpP p q n z m y) : spB p q n z m y = true := by unfold spB; exact decide_eq_true h
open Classical in
theorem spB_f {p q : Int} {n : Nat} {z : Nat → RU2} {m : Nat} {y : Nat → Int} (h : ¬ SpP p q n z m y) : spB p q n z m y = false := by unfold spB; exact decide_eq_false h
noncomputable def spV (p q : Int) (n : Nat) (z : Nat → RU2) (m : Nat) (y : Nat → Int) : Int := if spB p q n z m y = true then spF (rtF (lrV n z q) y) (q * p) (m + 1) else 0
theorem sp_no {p q : Int} {n : Nat} {z : Nat → RU2} {m : Nat} {y : Nat → Int} (h : ¬ SpP p q n z m y) : 0 = spV p q n z m y ∧ false = spB p q n z m y := by unfold spV; rw [spB_f h]; exact ⟨(if_neg (by decide)).symm, rfl⟩
theorem sp_yes {p q : Int} {n : Nat} {z : Nat → RU2} {m : Nat} {y : Nat → Int} (h : SpP p q n z m y) : spF (rtF (lrV n z q) y) (q * p) (m + 1) = spV p q n z m y ∧ true = spB p q n z m y := by unfold spV; rw [spB_t h]; exact ⟨(if_pos rfl).symm, rfl⟩
theorem sp_bd (rt : Nat → Int) {x : Int} (h0 : 0 ≤ x) (h1 : x ≤ 100000000000) : ∀ k : Nat, -(100000000000 * ((k : Int) + 1)) ≤ spF rt x k ∧ spF rt x k ≤ 100000000000 * ((k : Int) + 1)
  | 0 => by unfold spF; omega
  | k + 1 => by
    have i := sp_bd rt h0 h1 k
    have m := md_abs (spF rt x k) (rt k) 100000 3
    unfold spF
    omega

set_option maxRecDepth 20000 in
set_option maxHeartbeats 8000000 in
theorem implSale_any (p q : Int) (ra : Option Addr) (n rc : Nat) (z : Nat → RU2) (ad : Option Addr) (m cap : Nat) (y : Nat → Int) (w : World) (h : (n : Int) ≤ 1048576) (hm : (m : Int) ≤ 1048576) (hr : RUr w ra n z) (hi : IR w ad m y) :
    Calls Try.prog 35 #[.int .i64 p, .int .i64 q, .slice ra n rc, .slice ad m cap] w fun e w' => e = .returned (.tuple #[.int .i64 (spV p q n z m y), .bool (spB p q n z m y)]) ∧ Below w.heap.size w w' := by
  have HR : Hid (RUr w ra n z) := hr
  have HI : Hid (IR w ad m y) := hi
  have HL : Hid (Calls Try.prog 87 #[.slice ra n rc] w fun e w' => e = .returned (.bool (rlB n z)) ∧ Below w.heap.size w w') := rlLadder_any ra n rc z w h hr
  have HD : Hid (∀ W, Below w.heap.size w W → Calls Try.prog 92 #[.slice ad m cap] W fun e w' => e = .returned (.bool (deB m y)) ∧ Below W.heap.size W w') := fun W b => areDisc_any ad m cap y W hm (HI.out.below b)
  clear hr hi
  cases hp : inB p 0 100000
  · have HV := hid (sp_no (p := p) (q := q) (n := n) (z := z) (m := m) (y := y) (fun H => inB_f hp H.1))
    go_enter Try.func35, Try.ntmps35
    go_wp2_with (first
    | (go_at_call 91; refine (isPrice_eq _ _ _ hp).mono ?_; rintro e wq ⟨rfl, ew⟩; replace ew := ew.symm; subst ew)
    | (go_at_call 88; refine (isQty_eq _ _ _ hq).mono ?_; rintro e wq ⟨rfl, ew⟩; replace ew := ew.symm; subst ew)
    | (go_at_call 87; refine HL.out.mono ?_; rintro e w1 ⟨rfl, b1⟩; have HB1 : Hid (Below w.heap.size w w1) := b1; clear b1)
    | (go_at_call 92; refine (HD.out _ HB1.out).mono ?_; rintro e w2 ⟨rfl, b2⟩; have HB2 : Hid (Below w.heap.size w w2) := hid (bel_on HB1.out b2); clear b2))
    go_returns
    exact ⟨ret_ib HV.out.1 HV.out.2, Below.refl _ _⟩
  cases hq : inB q 0 1000000
  · have HV := hid (sp_no (p := p) (q := q) (n := n) (z := z) (m := m) (y := y) (fun H => inB_f hq H.2.1))
    go_enter Try.func35, Try.ntmps35
    go_wp2_with (first
    | (go_at_call 91; refine (isPrice_eq _ _ _ hp).mono ?_; rintro e wq ⟨rfl, ew⟩; replace ew := ew.symm; subst ew)
    | (go_at_call 88; refine (isQty_eq _ _ _ hq).mono ?_; rintro e wq ⟨rfl, ew⟩; replace ew := ew.symm; subst ew)
    | (go_at_call 87; refine HL.out.mono ?_; rintro e w1 ⟨rfl, b1⟩; have HB1 : Hid (Below w.heap.size w w1) := b1; clear b1)
    | (go_at_call 92; refine (HD.out _ HB1.out).mono ?_; rintro e w2 ⟨rfl, b2⟩; have HB2 : Hid (Below w.heap.size w w2) := hid (bel_on HB1.out b2); clear b2))
    go_returns
    exact ⟨ret_ib HV.out.1 HV.out.2, Below.refl _ _⟩
  cases hb : rlB n z
  · have HV := hid (sp_no (p := p) (q := q) (n := n) (z := z) (m := m) (y := y) (fun H => by rw [H.2.2.1] at hb; cases hb))
    rw [hb] at HL
    go_enter Try.func35, Try.ntmps35
    go_wp2_with (first
    | (go_at_call 91; refine (isPrice_eq _ _ _ hp).mono ?_; rintro e wq ⟨rfl, ew⟩; replace ew := ew.symm; subst ew)
    | (go_at_call 88; refine (isQty_eq _ _ _ hq).mono ?_; rintro e wq ⟨rfl, ew⟩; replace ew := ew.symm; subst ew)
    | (go_at_call 87; refine HL.out.mono ?_; rintro e w1 ⟨rfl, b1⟩; have HB1 : Hid (Below w.heap.size w w1) := b1; clear b1)
    | (go_at_call 92; refine (HD.out _ HB1.out).mono ?_; rintro e w2 ⟨rfl, b2⟩; have HB2 : Hid (Below w.heap.size w w2) := hid (bel_on HB1.out b2); clear b2))
    go_returns
    exact ⟨ret_ib HV.out.1 HV.out.2, HB1.out⟩
  rw [hb] at HL
  cases hd : deB m y
  · have HV := hid (sp_no (p := p) (q := q) (n := n) (z := z) (m := m) (y := y) (fun H => by rw [deB_t H.2.2.2] at hd; cases hd))
    rw [hd] at HD
    go_enter Try.func35, Try.ntmps35
    go_wp2_with (first
    | (go_at_call 91; refine (isPrice_eq _ _ _ hp).mono ?_; rintro e wq ⟨rfl, ew⟩; replace ew := ew.symm; subst ew)
    | (go_at_call 88; refine (isQty_eq _ _ _ hq).mono ?_; rintro e wq ⟨rfl, ew⟩; replace ew := ew.symm; subst ew)
    | (go_at_call 87; refine HL.out.mono ?_; rintro e w1 ⟨rfl, b1⟩; have HB1 : Hid (Below w.heap.size w w1) := b1; clear b1)
    | (go_at_call 92; refine (HD.out _ HB1.out).mono ?_; rintro e w2 ⟨rfl, b2⟩; have HB2 : Hid (Below w.heap.size w w2) := hid (bel_on HB1.out b2); clear b2))
    go_returns
    exact ⟨ret_ib HV.out.1 HV.out.2, HB2.out⟩
  rw [hd] at HD
  have hp2 := inB_t hp
  have hq2 := inB_t hq
  have HDE : Hid (DeP m y) := deB_p hd
  have hm8 : (m : Int) ≤ 8 := by have := HDE.out.1; omega
  have HLR : Hid (∀ W, Below w.heap.size w W → Calls Try.prog 31 #[.slice ra n rc, .int .i64 q] W fun e w' => e = .returned (.int .i64 (lrV n z q)) ∧ Below W.heap.size W w') := fun W b => implLr_any ra n rc z q W h (HR.out.below b)
  have hpq0 : 0 ≤ q * p := Int.mul_nonneg hq2.1 hp2.1
  have hpq1 : q * p ≤ 1000000 * 100000 := Int.mul_le_mul hq2.2 hp2.2 hp2.1 (by omega)
  have HV : Hid (spF (rtF (lrV n z q) y) (q * p) (m + 1) = spV p q n z m y ∧ true = spB p q n z m y) := hid (sp_yes ⟨hp2, hq2, hb, HDE.out⟩)
  obtain ⟨f, hf⟩ : ∃ f, lrV n z q = f := ⟨_, rfl⟩
  rw [hf] at HLR HV
  obtain ⟨X, hX⟩ : ∃ X, q * p = X := ⟨_, rfl⟩
  rw [hX] at hpq0 hpq1 HV
  have hwx : IntKind.i64.wrap (q * p) = X := by rw [hX]; exact IntWalk.i64_in _ ⟨by omega, by omega⟩
  obtain ⟨rt, hrt⟩ : ∃ rt, rtF f y = rt := ⟨_, rfl⟩
  have HDS : Hid (∀ W, Below w.heap.size w W → Calls Try.prog 93 #[.int .i64 f, .slice ad m cap] W fun e w' => (∃ g oc, e = .returned (.slice (some ⟨g, 0, none⟩) (m + 1) oc) ∧ Disc w' g (m + 1) rt) ∧ Below W.heap.size W w') := fun W b => by rw [← hrt]; exact discounts_any f ad m cap y W hm8 (HI.out.below b)
  rw [hrt] at HV
  have HBD := hid (sp_bd rt hpq0 (by omega))
  clear hf hX hrt
  go_enter Try.func35, Try.ntmps35
  go_wp2_with (first
    | (go_at_call 91; refine (isPrice_eq _ _ _ hp).mono ?_; rintro e wq ⟨rfl, ew⟩; replace ew := ew.symm; subst ew)
    | (go_at_call 88; refine (isQty_eq _ _ _ hq).mono ?_; rintro e wq ⟨rfl, ew⟩; replace ew := ew.symm; subst ew)
    | (go_at_call 87; refine HL.out.mono ?_; rintro e w1 ⟨rfl, b1⟩; have HB1 : Hid (Below w.heap.size w w1) := b1; clear b1)
    | (go_at_call 92; refine (HD.out _ HB1.out).mono ?_; rintro e w2 ⟨rfl, b2⟩; have HB2 : Hid (Below w.heap.size w w2) := hid (bel_on HB1.out b2); clear b2)
    | (go_at_call 31; refine (HLR.out _ HB2.out).mono ?_; rintro e w3 ⟨rfl, b3⟩; have HB3 : Hid (Below w.heap.size w w3) := hid (bel_on HB2.out b3); clear b3)
    | (go_at_call 93; refine (HDS.out _ HB3.out).mono ?_; rintro e w4 ⟨⟨g, oc, rfl, hdc⟩, b4⟩; have HDC : Hid (Disc w4 g (m + 1) rt) := hdc; have HB4 : Hid (Below w.heap.size w w4) := hid (bel_on HB3.out b4); clear b4 hdc))
  clear HL HD HLR HDS hp hq hb hd
  go_loopw [10, 40] (fun x i wr => ∃ (k : Nat) (V : Int), k ≤ m + 1 ∧ x = .int .i64 V ∧ i = .int .i64 (k : Int) ∧ -(100000000000 * ((k : Int) + 1)) ≤ V ∧ V ≤ 100000000000 * ((k : Int) + 1) ∧ Hid (V = spF rt X k ∧ Below w4.heap.size w4 wr)) (fun _ i _ => m + 1 - (intOf i).toNat)
  case atStart => exact ⟨0, X, Nat.zero_le _, rfl, rfl, by omega, by omega, rfl, Below.refl _ _⟩
  case round =>
    obtain ⟨k, V, hk, rfl, rfl, hV0, hV1, HH⟩ := hrel
    by_cases hlt : k < m + 1
    · have hlt2 : (k : Int) < (m : Int) + 1 := by omega
      have hlt3 : (k : Int) < ((m + 1 : Nat) : Int) := by omega
      obtain ⟨b, k1, k2⟩ := (HDC.out.below HH.out.2).2 k hlt
      have c0 : wr.cell? ⟨g, k, none⟩ = some (.func (Fn.func 126) #[] #[.pointer (some ⟨b, 0, none⟩)]) := k1
      have HN : Hid (V - mdV V (rt k) 100000 3 = spF rt X (k + 1)) := hid (by rw [spF, ← HH.out.1])
      have hmd := md_abs V (rt k) 100000 3
      have HC1 : Hid (Calls Try.prog 126 #[.int .i64 V, .pointer (some ⟨b, 0, none⟩)] wr fun e w' => e = .returned (.int .i64 (V - mdV V (rt k) 100000 3)) ∧ Below wr.heap.size wr w') := disc1_any V (rt k) b wr (by omega) (by omega) k2
      obtain ⟨M, hM⟩ : ∃ M, mdV V (rt k) 100000 3 = M := ⟨_, rfl⟩
      rw [hM] at HN hmd HC1
      clear hM k1 k2
      go_wp2_with (go_at_call 126; refine HC1.out.mono ?_; rintro e w5 ⟨rfl, b5⟩; have HB5 : Hid (Below w4.heap.size w4 w5) := hid (bel_on HH.out.2 b5); clear b5)
      go_roundw
      case rel => exact ⟨k + 1, V - M, by omega, rfl, by go_num, by omega, by omega, HN.out, HB5.out⟩
      case measure => simp [intOf]; omega
    · obtain rfl : k = m + 1 := by omega
      have lkk : ¬ ((m + 1 : Nat) : Int) < ((m + 1 : Nat) : Int) := by omega
      have lkk2 : ¬ ((m : Int) + 1) < ((m : Int) + 1) := by omega
      go_wp2
      go_returns
      exact ⟨ret_ib (HH.out.1.trans HV.out.1) HV.out.2, bel_on HB4.out HH.out.2⟩
end Go.Proofs.Ytlhgmdmbjpaakaa
