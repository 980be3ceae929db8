/- Bills, plainly: what is billed of each line and what it comes to; what state follows. -/
import Derived.Test.YtghphlnpginmhaaRp
import Derived.Test.YtghphlnpginmhaaBa
import Derived.Test.YtghphlnpginmhaaMo
import Derived.Test.YtghphlnpginmhaaAs
namespace Go.Proofs.Ytghphlnpginmhaa
open Go.ChangeShapes Go.WideShapes Go.ChangeAt Go.RowKit
set_option linter.unusedVariables false
set_option linter.unusedSimpArgs false

def bnB (len : Nat) (b : BN3) : Bool := inB b.line 0 ((len : Int) - 1) && (inB b.qty 1 1000000 && inB b.price 0 100000)
def bS (bc : Nat → BN3) : Nat → Nat → Int
  | 0, _ => 0
  | k + 1, j => if (bc k).line = (j : Int) then bS bc k j + (bc k).qty else bS bc k j
def dS (bc : Nat → BN3) : Nat → Nat → Int
  | 0, _ => 0
  | k + 1, j => if (bc k).line = (j : Int) then dS bc k j + (bc k).qty * (bc k).price else dS bc k j
theorem bS_hit {bc : Nat → BN3} {k L : Nat} {q p : Int} (h : bc k = ⟨(L : Int), q, p⟩) : bS bc (k + 1) L = bS bc k L + q := by
  show (if (bc k).line = (L : Int) then bS bc k L + (bc k).qty else bS bc k L) = _
  rw [h]; exact if_pos rfl
theorem bS_miss {bc : Nat → BN3} {k L j : Nat} {q p : Int} (h : bc k = ⟨(L : Int), q, p⟩) (hj : j ≠ L) : bS bc (k + 1) j = bS bc k j := by
  show (if (bc k).line = (j : Int) then bS bc k j + (bc k).qty else bS bc k j) = _
  rw [h]; exact if_neg (by simp only; omega)
theorem dS_hit {bc : Nat → BN3} {k L : Nat} {q p : Int} (h : bc k = ⟨(L : Int), q, p⟩) : dS bc (k + 1) L = dS bc k L + q * p := by
  show (if (bc k).line = (L : Int) then dS bc k L + (bc k).qty * (bc k).price else dS bc k L) = _
  rw [h]; exact if_pos rfl
theorem dS_miss {bc : Nat → BN3} {k L j : Nat} {q p : Int} (h : bc k = ⟨(L : Int), q, p⟩) (hj : j ≠ L) : dS bc (k + 1) j = dS bc k j := by
  show (if (bc k).line = (j : Int) then dS bc k j + (bc k).qty * (bc k).price else dS bc k j) = _
  rw [h]; exact if_neg (by simp only; omega)
theorem bnB_p {len : Nat} {b : BN3} (h : bnB len b = true) : (0 ≤ b.line ∧ b.line ≤ (len : Int) - 1) ∧ (1 ≤ b.qty ∧ b.qty ≤ 1000000) ∧ (0 ≤ b.price ∧ b.price ≤ 100000) := by
  unfold bnB at h; simp only [Bool.and_eq_true] at h
  exact ⟨inB_t h.1, inB_t h.2.1, inB_t h.2.2⟩
/-- Sums over right bill lines: each line brings at most so much, and what it comes to follows. -/
theorem bd_bd {len : Nat} {bc : Nat → BN3} : ∀ {k : Nat}, (∀ i, i < k → bnB len (bc i) = true) → ∀ j, 0 ≤ bS bc k j ∧ bS bc k j ≤ 1000000 * (k : Int) ∧ 0 ≤ dS bc k j ∧ dS bc k j ≤ 100000 * bS bc k j
  | 0, _, j => by unfold bS dS; omega
  | k + 1, h, j => by
    have ih := bd_bd (fun i hi => h i (by omega)) j (k := k)
    by_cases e : (bc k).line = (j : Int)
    · have e1 : bS bc (k + 1) j = bS bc k j + (bc k).qty := if_pos e
      have e2 : dS bc (k + 1) j = dS bc k j + (bc k).qty * (bc k).price := if_pos e
      have hp := bnB_p (h k (by omega))
      have hm : (bc k).qty * (bc k).price ≤ (bc k).qty * 100000 := Int.mul_le_mul_of_nonneg_left hp.2.2.2 (by omega)
      have hm0 : 0 ≤ (bc k).qty * (bc k).price := Int.mul_nonneg (by omega) hp.2.2.1
      rw [e1, e2]
      omega
    · have e1 : bS bc (k + 1) j = bS bc k j := if_neg e
      have e2 : dS bc (k + 1) j = dS bc k j := if_neg e
      rw [e1, e2]; omega
theorem bS_up {len : Nat} {bc : Nat → BN3} {k : Nat} (j : Nat) : ∀ {n : Nat}, (∀ i, i < n → bnB len (bc i) = true) → k ≤ n → bS bc k j ≤ bS bc n j
  | 0, _, hk => by obtain rfl : k = 0 := by omega
                   omega
  | n + 1, h, hk => by
    by_cases e : k = n + 1
    · subst e; omega
    · have ih := bS_up j (k := k) (n := n) (fun i hi => h i (by omega)) (by omega)
      by_cases g : (bc n).line = (j : Int)
      · have e1 : bS bc (n + 1) j = bS bc n j + (bc n).qty := if_pos g
        have hp := bnB_p (h n (by omega))
        rw [e1]; omega
      · have e1 : bS bc (n + 1) j = bS bc n j := if_neg g
        rw [e1]; omega
def BiP (len nb : Nat) (bc : Nat → BN3) : Prop := nb ≤ 400 ∧ (∀ i, i < nb → bnB len (bc i) = true) ∧ ∀ j, bS bc nb j ≤ 1000000
open Classical in
noncomputable def biB (len nb : Nat) (bc : Nat → BN3) : Bool := decide (BiP len nb bc)
open Classical in
theorem biB_t {len nb : Nat} {bc : Nat → BN3} (h : BiP len nb bc) : biB len nb bc = true := by unfold biB; exact decide_eq_true h
open Classical in
theorem biB_f {len nb : Nat} {bc : Nat → BN3} (h : ¬ BiP len nb bc) : biB len nb bc = false := by unfold biB; exact decide_eq_false h
open Classical in
theorem biB_p {len nb : Nat} {bc : Nat → BN3} (h : biB len nb bc = true) : BiP len nb bc := by unfold biB at h; exact of_decide_eq_true h
theorem biB_bad {len nb i : Nat} {bc : Nat → BN3} (hi : i < nb) (h : bnB len (bc i) = false) : biB len nb bc = false := biB_f fun H => by have := H.2.1 i hi; rw [h] at this; cases this
theorem biB_over {len nb k j : Nat} {bc : Nat → BN3} (hk : k ≤ nb) (h : 1000000 < bS bc k j) : biB len nb bc = false := biB_f fun H => by
  have h1 := bS_up (len := len) j H.2.1 hk
  have h2 := H.2.2 j
  omega
theorem bS_out {len : Nat} {bc : Nat → BN3} {j : Nat} (hj : len ≤ j) : ∀ {k : Nat}, (∀ i, i < k → bnB len (bc i) = true) → bS bc k j = 0
  | 0, _ => rfl
  | k + 1, h => by
    have hp := bnB_p (h k (by omega))
    have e1 : bS bc (k + 1) j = bS bc k j := if_neg (by omega)
    rw [e1]; exact bS_out hj (fun i hi => h i (by omega))
def dearV (r le sp : Int) : Int := r + max le sp
/-- The state of a line. -/
def stV (got bil due price tpr tle : Int) : Int :=
  if bil = 0 then 0 else if got < bil then (if dearV (bil * price) tle (mdV (bil * price) tpr 1000 1) < due then 4 else 2) else (if dearV (bil * price) tle (mdV (bil * price) tpr 1000 1) < due then 3 else 1)
def mlF (c : Nat → OL3) (g b d : Nat → Int) (tpr tle : Int) (i : Nat) : ML4 := ⟨g i, b i, d i, stV (g i) (b i) (d i) (c i).price tpr tle⟩
def payS (m : Nat → ML4) : Nat → Int
  | 0 => 0
  | k + 1 => if (m k).state = 1 then payS m k + (m k).due else payS m k
theorem payS_bd {m : Nat → ML4} : ∀ {k : Nat}, (∀ i, i < k → 0 ≤ (m i).due ∧ (m i).due ≤ 100000000000) → 0 ≤ payS m k ∧ payS m k ≤ 100000000000 * (k : Int)
  | 0, _ => by unfold payS; omega
  | k + 1, h => by
    have ih := payS_bd (k := k) (fun i hi => h i (by omega))
    have hk := h k (by omega)
    unfold payS
    split <;> omega
end Go.Proofs.Ytghphlnpginmhaa
