/- Plain: Net and all that is within are together the price; Net and all but reverse taxes are Gross; with all codes free both are the price. -/
import Derived.Test.YtbhghghkgojpgaaTx
namespace Go.Proofs.Ytbhghghkgojpgaa
set_option linter.unusedVariables false

def wsum (pt : Nat → P4) : Nat → Int
  | 0 => 0
  | k + 1 => wsum pt k + (if (pt k).kind = 3 then (pt k).tax else 0)
def asum (pt : Nat → P4) : Nat → Int
  | 0 => 0
  | k + 1 => asum pt k + (if (pt k).kind = 4 then 0 else (pt k).tax)

theorem net_same {p : Int} (hp : -100000000000 ≤ p ∧ p ≤ 100000000000) : mdV p 100000 (100000 + 0) 3 = p := by
  have h := (net_bd (p := p) (al := 0) (by omega) (by omega) hp).1
  obtain ⟨v, hv⟩ : ∃ v, dv (p * 100000) (100000 + 0) 3 = v := ⟨_, rfl⟩
  have n3 := near3 (p * 100000) (100000 + 0) (v * (100000 + 0)) (by omega) (by rw [hv])
  have e : mdV p 100000 (100000 + 0) 3 = v := by unfold mdV; rw [if_pos h]; exact hv
  rw [e]
  omega
theorem gr_sum (u : Nat → T5) (net : Int) (wi : Nat → Int) : ∀ k, grV u net wi k = net + asum (ptV u net wi) k
  | 0 => by simp [grV, asum]
  | k + 1 => by
    have e : grV u net wi (k + 1) = grV u net wi k + lvG (u k) (grV u net wi k) net (wi k) := rfl
    have e2 : (ptV u net wi k).kind = (u k).kind := rfl
    have e3 : (ptV u net wi k).tax = lvT (u k) (grV u net wi k) net (wi k) := rfl
    rw [e, asum, e2, e3]
    have ih := gr_sum u net wi k
    unfold lvG
    split <;> omega
theorem ws_sum (u : Nat → T5) (net : Int) (wi : Nat → Int) (h : ∀ k, (u k).kind ≠ 3 → wi k = 0) : ∀ k, wsum (ptV u net wi) k = Sh.sm wi k
  | 0 => rfl
  | k + 1 => by
    have e2 : (ptV u net wi k).kind = (u k).kind := rfl
    have e3 : (ptV u net wi k).tax = lvT (u k) (grV u net wi k) net (wi k) := rfl
    rw [wsum, e2, e3, Sh.sm_succ, ws_sum u net wi h k]
    by_cases g : (u k).kind = 3
    · rw [if_pos g]; unfold lvT; rw [if_pos g]
    · rw [if_neg g, h k g]
theorem ws_sumB (u : Nat → T5) (net : Int) (wi : Nat → Int) {m : Nat} (h : ∀ k, k < m → (u k).kind ≠ 3 → wi k = 0) : ∀ k, k ≤ m → wsum (ptV u net wi) k = Sh.sm wi k
  | 0, _ => rfl
  | k + 1, hk => by
    have e2 : (ptV u net wi k).kind = (u k).kind := rfl
    have e3 : (ptV u net wi k).tax = lvT (u k) (grV u net wi k) net (wi k) := rfl
    rw [wsum, e2, e3, Sh.sm_succ, ws_sumB u net wi h k (by omega)]
    by_cases g : (u k).kind = 3
    · rw [if_pos g]; unfold lvT; rw [if_pos g]
    · rw [if_neg g, h k (by omega) g]
theorem sm_zero {z : Nat → Int} (h : ∀ j, z j = 0) : ∀ n, Sh.sm z n = 0
  | 0 => rfl
  | n + 1 => by rw [Sh.sm_succ, sm_zero h n, h n]; rfl
/-- Net and all that is within are together the price. -/
theorem within_all {u : Nat → T5} {m : Nat} {p : Int} (h : UOk u m) (hm : m ≤ 6) (hp : amt p = true) : netV u m p + wsum (ptV u (netV u m p) (wiV u m p)) m = p := by
  have hp' := amt_t hp
  by_cases ha : alW u m = 0
  · have hz : ∀ j, wiV u m p j = 0 := fun j => by unfold wiV; rw [if_pos ha]
    rw [ws_sumB u _ _ (fun k _ _ => hz k) m (Nat.le_refl _), sm_zero hz]
    have : netV u m p = p := by unfold netV; rw [ha]; exact net_same hp'
    omega
  · have hs := sh_ok h hm hp ha
    have hf := Sh.shV_facts hs
    have hz : ∀ j, wiV u m p j = Sh.shV (p - netV u m p) m (wsW u) j := fun j => by unfold wiV; rw [if_neg ha]
    have h0 : ∀ k, k < m → (u k).kind ≠ 3 → wiV u m p k = 0 := fun k hk g => by
      rw [hz]
      have hw : wsW u k = 0 := by unfold wsW; rw [if_neg g]
      have q := hf.2.1 k hk
      rw [hw, Int.mul_zero] at q
      have hS := hs.2.2.2
      generalize Sh.shV (p - netV u m p) m (wsW u) k = v at q
      generalize Sh.sm (wsW u) m = S at q hS
      rcases Int.lt_trichotomy v 0 with g1 | g1 | g1
      · have : v * S ≤ (-1) * S := Int.mul_le_mul_of_nonneg_right (by omega) (by omega)
        omega
      · exact g1
      · have : 1 * S ≤ v * S := Int.mul_le_mul_of_nonneg_right (by omega) (by omega)
        omega
    rw [ws_sumB u _ _ h0 m (Nat.le_refl _), Sh.sm_congr (fun j _ => hz j), hf.1]
    omega
theorem mul_zero_dv {b : Int} : dv (b * 0) 100000 3 = 0 := by
  rw [Int.mul_zero]; rfl
theorem md_zero {b : Int} (h : amt b = true) : mdB b 0 100000 3 = true ∧ mdV b 0 100000 3 = 0 := by
  have h' := amt_t h
  have e : mdB b 0 100000 3 = true := by
    unfold mdB
    rw [mul_zero_dv]
    simp only [Bool.and_eq_true, decide_eq_true_eq]
    omega
  exact ⟨e, by unfold mdV; rw [if_pos e, mul_zero_dv]⟩
/-- With rates of 0 Net and Gross are the price. -/
theorem free_all {u : Nat → T5} {m : Nat} {p : Int} (h : ∀ i, i < m → (u i).rate = 0) (hp : amt p = true) : BiP u m p ∧ netV u m p = p ∧ grV u (netV u m p) (wiV u m p) m = p := by
  have hp' := amt_t hp
  have ha : alW u m = 0 := by
    unfold alW
    have : ∀ n, n ≤ m → Sh.sm (wsW u) n = 0 := by
      intro n
      induction n with
      | zero => intro _; rfl
      | succ n ih =>
        intro hn
        rw [Sh.sm_succ, ih (by omega)]
        unfold wsW
        split
        · rw [h n (by omega)]; rfl
        · rfl
    exact this m (Nat.le_refl _)
  have hn : netV u m p = p := by unfold netV; rw [ha]; exact net_same hp'
  have hz : ∀ j, wiV u m p j = 0 := fun j => by unfold wiV; rw [if_pos ha]
  have hg : ∀ k, k ≤ m → grV u p (wiV u m p) k = p := by
    intro k
    induction k with
    | zero => intro _; rfl
    | succ k ih =>
      intro hk
      have e : grV u p (wiV u m p) (k + 1) = grV u p (wiV u m p) k + lvG (u k) (grV u p (wiV u m p) k) p (wiV u m p k) := rfl
      rw [e, ih (by omega), hz]
      have hb : lvB (u k) p p = p := by unfold lvB; split <;> rfl
      have : lvG (u k) p p 0 = 0 := by
        unfold lvG lvT
        rw [hb, h k (by omega), (md_zero hp).2]
        split
        · rfl
        · split <;> rfl
      rw [this]; omega
  refine ⟨⟨hp, fun i hi => ?_, ?_⟩, hn, by rw [hn]; exact hg m (Nat.le_refl _)⟩
  · rw [hn, hg i (by omega)]
    unfold lvO
    have hb : lvB (u i) p p = p := by unfold lvB; split <;> rfl
    rw [hb, h i hi, (md_zero hp).1]
    split <;> rfl
  · rw [hn, hg m (Nat.le_refl _)]; exact hp
/-- The second bill, all codes free. -/
theorem tax_free {n : Nat} {c : Nat → T5} {m : Nat} {cs : Nat → ByteArray} {f : Nat} {fs : Nat → ByteArray} {p d : Int} (h : TaxP n c m cs f fs p d) : TaxP n c m cs m cs p d ∧ netV (usR n c cs m cs d) m p = p ∧ grV (usR n c cs m cs d) (netV (usR n c cs m cs d) m p) (wiV (usR n c cs m cs d) m p) m = p := by
  have hr : ∀ i, i < m → (usR n c cs m cs d i).rate = 0 := fun i hi => by
    unfold usR
    simp only
    rw [if_pos (hasS_t ⟨i, hi, rfl⟩)]
  have q := free_all hr h.2.2.2.1
  have h2 := h.2.1
  exact ⟨⟨h.1, h.2.1, by omega, h.2.2.2.1, h.2.2.2.2.1, q.1⟩, q.2.1, q.2.2⟩
end Go.Proofs.Ytbhghghkgojpgaa
