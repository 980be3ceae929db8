/- StepDown, plain: who gave has 0, and the sum stays. -/
import Derived.Test.YtjlniinahfgakaaHx
import Derived.Test.YtjlniinahfgakaaSw
namespace Go.Proofs.Ytjlniinahfgakaa
open Go.ChangeShapes Go.WideShapes Go.ChangeAt Go.RowKit
set_option linter.unusedVariables false
set_option linter.unusedSimpArgs false

theorem hdn_zero {c : Nat → Int} {r : R3} {x : Nat} (h0 : c x = 0 ∨ x = r.frm.toNat) : ∀ (k : Nat), (∀ i, i < k → (r.to i).toNat ≠ x) → hdn c r k x = 0
  | 0, _ => by
    unfold hdn upd
    split
    · rfl
    · rcases h0 with q | q
      · exact q
      · contradiction
  | k + 1, h => by
    unfold hdn upd
    rw [if_neg (fun q => h k (by omega) q.symm)]
    exact hdn_zero h0 k (fun i hi => h i (by omega))
theorem hdn_sum {n : Nat} {c : Nat → Int} {r : R3} (hf : r.frm.toNat < n) : ∀ (k : Nat), (∀ i, i < k → (r.to i).toNat < n) → sm (hdn c r k) n = sm c n - c r.frm.toNat + sm (rsh c r) k
  | 0, _ => by
    unfold hdn
    rw [sm_upd hf, show sm (rsh c r) 0 = 0 from rfl]; omega
  | k + 1, h => by
    unfold hdn
    rw [sm_upd (h k (by omega)), hdn_sum hf k (fun i hi => h i (by omega)), sm_succ]; omega
/-- One rule keeps the sum. -/
theorem hdn_keeps {n : Nat} {G : Nat → Bool} {c : Nat → Int} {r : R3} (hc : ∀ j, j < n → AmtP (c j)) (h : ROk n G r) : sm (hdn c r r.tn) n = sm c n := by
  obtain ⟨⟨p1, p2⟩, _, hl, hW, hT⟩ := h
  have hf : r.frm.toNat < n := by omega
  rw [hdn_sum hf r.tn (fun i hi => by have := (hT i hi).1; omega)]
  have hs : ShOk (c r.frm.toNat) r.wn r.wt := ⟨hc _ hf, hW⟩
  have := (shV_facts hs).1
  rw [hl]
  show sm c n - c r.frm.toNat + sm (shV (c r.frm.toNat) r.wn r.wt) r.wn = sm c n
  rw [this]; omega
theorem sdn_sum {n : Nat} {c : Nat → Int} {rs : Nat → R3} (hc : ∀ j, j < n → AmtP (c j)) : ∀ {k : Nat} {s : (Nat → Int) × (Nat → Bool)}, sdn n c rs k = some s → sm s.1 n = sm c n
  | 0, s, h => by unfold sdn at h; cases h; rfl
  | k + 1, s, h => by
    unfold sdn at h
    cases e : sdn n c rs k with
    | none => rw [e] at h; cases h
    | some t =>
      rw [e] at h
      simp only at h
      split at h
      · rename_i q
        cases h
        show sm (hdn t.1 (rs k) (rs k).tn) n = sm c n
        rw [hdn_keeps (sdn_amt hc e) (rokB_out q.1), sdn_sum hc e]
      · cases h
theorem sdn_zero {n : Nat} {c : Nat → Int} {rs : Nat → R3} : ∀ {k : Nat} {s : (Nat → Int) × (Nat → Bool)}, sdn n c rs k = some s → ∀ j, j < k → s.1 (rs j).frm.toNat = 0 ∧ (rs j).frm.toNat < n
  | 0, s, h => fun j hj => absurd hj (by omega)
  | k + 1, s, h => by
    unfold sdn at h
    cases e : sdn n c rs k with
    | none => rw [e] at h; cases h
    | some t =>
      rw [e] at h
      simp only at h
      split at h
      · rename_i q
        cases h
        intro j hj
        have hr := rokB_out q.1
        obtain ⟨g1, g2⟩ := sdn_gave e
        show hdn t.1 (rs k) (rs k).tn (rs j).frm.toNat = 0 ∧ _
        by_cases g : j = k
        · subst g
          refine ⟨hdn_zero (.inr rfl) _ (fun i hi q2 => ?_), by have := hr.1; omega⟩
          have h1 := hr.2.2.2.2 i hi
          exact h1.2.2.1 (by have := h1.1; have := hr.1; omega)
        · obtain ⟨z1, z2⟩ := sdn_zero e j (by omega)
          refine ⟨hdn_zero (.inl z1) _ (fun i hi q2 => ?_), z2⟩
          have h1 := hr.2.2.2.2 i hi
          have h2 := (g2 (rs j).frm (g1 j (by omega))).2 ⟨j, by omega, rfl⟩
          have h3 := h1.2.1
          rw [q2, h2] at h3
          cases h3
      · cases h
/-- What StepDown tells, where it tells costs. -/
theorem sd_facts {n : Nat} {c : Nat → Int} {m : Nat} {rs : Nat → R3} (h : sdB n c m rs = true) : sdM n c m rs = n ∧ sm (sdV n c m rs) n = sm c n ∧ ∀ j, j < m → 0 ≤ (rs j).frm ∧ (rs j).frm.toNat < n ∧ sdV n c m rs (rs j).frm.toNat = 0 := by
  have hq : CostP n c ∧ m ≤ 40 ∧ (sdn n c rs m).isSome = true := by
    by_cases g : CostP n c ∧ m ≤ 40 ∧ (sdn n c rs m).isSome = true
    · exact g
    · rw [sdB_f g] at h; cases h
  obtain ⟨hc, _, hs⟩ := hq
  cases e : sdn n c rs m with
  | none => rw [e] at hs; cases hs
  | some t =>
    have hV : sdV n c m rs = t.1 := by unfold sdV; rw [e]
    refine ⟨by unfold sdM; rw [h]; rfl, by rw [hV]; exact sdn_sum hc.2 e, fun j hj => ⟨(sdn_gave e).1 j hj, (sdn_zero e j hj).2, by rw [hV]; exact (sdn_zero e j hj).1⟩⟩
end Go.Proofs.Ytjlniinahfgakaa
