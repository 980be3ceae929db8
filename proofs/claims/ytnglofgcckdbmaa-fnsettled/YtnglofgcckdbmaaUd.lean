/- Why a row sorted by day and place is gone through from its first on. Plain. -/
import Derived.Test.YtnglofgcckdbmaaKl
import Derived.Test.YtnglofgcckdbmaaUa
namespace Go.Proofs.Ytnglofgcckdbmaa
open Go Go.ChangeShapes Go.WideShapes Go.ChangeAt Go.RowKit
set_option linter.unusedVariables false
set_option linter.unusedSimpArgs false

/-- A row by day and place, gone through up to i: those ahead have nothing left, the others what the row says. -/
structure RL (n : Nat) (c : Nat → OI2) (G : Nat → Int × Int × Int) (i : Nat) (a : Nat → Int) : Prop where
  le : i ≤ n
  onto : ∀ q, q < n → ∃ r, r < n ∧ (G r).2.2 = (q : Int)
  plc : ∀ r, r < n → ∃ q : Nat, (G r).2.2 = (q : Int) ∧ q < n ∧ (G r).1 = (c q).day
  srt : SortedOn ltP G 0 n
  gone : ∀ r q : Nat, r < i → (G r).2.2 = (q : Int) → a q = 0
  rest : ∀ r q : Nat, i ≤ r → r < n → (G r).2.2 = (q : Int) → a q = (G r).2.1 ∧ 0 < (G r).2.1
section
variable {n i : Nat} {c : Nat → OI2} {G : Nat → Int × Int × Int} {a : Nat → Int}
theorem RL.ap (H : RL n c G i a) {r s : Nat} (h1 : r < n) (h2 : s < n) (e : (G r).2.2 = (G s).2.2) : r = s := by
  obtain ⟨q, q1, q2, q3⟩ := H.plc r h1
  obtain ⟨p, p1, p2, p3⟩ := H.plc s h2
  have : q = p := by rw [q1, p1] at e; exact Int.ofNat.inj e
  subst this
  rcases Nat.lt_trichotomy r s with h | h | h
  · have := H.srt r s (Nat.zero_le _) h h2; unfold ltP at this; omega
  · exact h
  · have := H.srt s r (Nat.zero_le _) h h1; unfold ltP at this; omega
theorem RL.next (H : RL n c G i a) (hi : i < n) : nx c a n = (G i).2.2 ∧ a (G i).2.2.toNat = (G i).2.1 ∧ 0 < (G i).2.1 ∧ (G i).2.2.toNat < n := by
  obtain ⟨p, p1, p2, p3⟩ := H.plc i hi
  obtain ⟨r1, r2⟩ := H.rest i p (Nat.le_refl _) hi p1
  have e : (G i).2.2.toNat = p := by rw [p1]; rfl
  rw [e]
  refine ⟨?_, r1, r2, p2⟩
  rw [p1]
  refine nx_is p2 (by omega) (fun q hq h0 => ?_)
  obtain ⟨r, hr, hrq⟩ := H.onto q hq
  by_cases h1 : r < i
  · have := H.gone r q h1 hrq; omega
  · by_cases h2 : r = i
    · subst h2; left; rw [hrq] at p1; exact Int.ofNat.inj p1
    · have hl := H.srt i r (Nat.zero_le _) (by omega) hr
      obtain ⟨q', g1, g2, g3⟩ := H.plc r hr
      have : q' = q := by rw [hrq] at g1; exact (Int.ofNat.inj g1).symm
      subst this
      unfold ltP at hl
      rw [p3, g3, p1, g1] at hl
      omega
theorem RL.done (H : RL n c G i a) (hi : i = n) : nx c a n = -1 := nx_none fun q hq => by
  obtain ⟨r, hr, hrq⟩ := H.onto q hq
  have := H.gone r q (by omega) hrq; omega
/-- The first one's amount is made less. -/
def lessG (G : Nat → Int × Int × Int) (i : Nat) (x : Int) (r : Nat) : Int × Int × Int := if r = i then ((G i).1, (G i).2.1 - x, (G i).2.2) else G r
theorem lessG_k (r : Nat) (x : Int) : (lessG G i x r).1 = (G r).1 ∧ (lessG G i x r).2.2 = (G r).2.2 := by
  unfold lessG; split
  · rename_i h; subst h; exact ⟨rfl, rfl⟩
  · exact ⟨rfl, rfl⟩
theorem RL.step (H : RL n c G i a) (hi : i < n) {x : Int} (hx : x ≤ (G i).2.1) {i' : Nat} (hi' : i' = if (G i).2.1 - x = 0 then i + 1 else i) : RL n c (lessG G i x) i' (upd a (G i).2.2.toNat (a (G i).2.2.toNat - x)) := by
  obtain ⟨_, n2, n3, n4⟩ := H.next hi
  obtain ⟨p, p1, p2, p3⟩ := H.plc i hi
  have ep : (G i).2.2.toNat = p := by rw [p1]; rfl
  rw [ep] at n2 ⊢
  refine ⟨by split at hi' <;> omega, fun q hq => ?_, fun r hr => ?_, fun r s h1 h2 h3 => ?_, fun r q h1 h2 => ?_, fun r q h1 h2 h3 => ?_⟩
  · obtain ⟨r, h1, h2⟩ := H.onto q hq
    exact ⟨r, h1, by rw [(lessG_k r x).2]; exact h2⟩
  · rw [(lessG_k r x).1, (lessG_k r x).2]; exact H.plc r hr
  · have := H.srt r s h1 h2 h3
    unfold ltP at this ⊢
    rw [(lessG_k r x).1, (lessG_k r x).2, (lessG_k s x).1, (lessG_k s x).2]; exact this
  · rw [(lessG_k r x).2] at h2
    by_cases hr : r = i
    · subst hr
      have : q = p := by rw [h2] at p1; exact Int.ofNat.inj p1
      subst this
      rw [upd_i, n2]
      split at hi' <;> omega
    · have hlt : r < i := by split at hi' <;> omega
      have hne : q ≠ p := fun e => by subst e; exact hr (H.ap (by omega) hi (h2.trans p1.symm))
      rw [upd_o hne]; exact H.gone r q hlt h2
  · rw [(lessG_k r x).2] at h3
    by_cases hr : r = i
    · subst hr
      have : q = p := by rw [h3] at p1; exact Int.ofNat.inj p1
      subst this
      rw [upd_i, n2]
      have : lessG G r x r = ((G r).1, (G r).2.1 - x, (G r).2.2) := if_pos rfl
      rw [this]
      refine ⟨rfl, ?_⟩
      show 0 < (G r).2.1 - x
      split at hi' <;> omega
    · have hne : q ≠ p := fun e => by subst e; exact hr (H.ap h2 hi (h3.trans p1.symm))
      rw [upd_o hne]
      have : lessG G i x r = G r := if_neg hr
      rw [this]
      exact H.rest r q (by split at hi' <;> omega) h2 h3
/-- What the sort leaves is such a row. -/
theorem RL.start {n : Nat} {c : Nat → OI2} {f g : Nat → Int × Int × Int} (hf : ∀ j, j < n → f j = ((c j).day, (c j).amount, (j : Int))) (hp : PermOn 0 n f g) (hs : SortedOn ltP g 0 n) (h0 : ∀ q, q < n → 0 < (c q).amount) : RL n c g 0 (fun q => (c q).amount) := by
  obtain ⟨_, p, p1, p2⟩ := hp
  have hq : ∀ r, r < n → g r = ((c (p r)).day, (c (p r)).amount, (p r : Int)) := fun r hr => by
    obtain ⟨_, b, e⟩ := p1 r (Nat.zero_le _) hr
    rw [e]; exact hf _ b
  have hlt : ∀ r, r < n → p r < n := fun r hr => (p1 r (Nat.zero_le _) hr).2.1
  refine ⟨Nat.zero_le _, fun q hqn => ?_, fun r hr => ⟨p r, by rw [hq r hr], hlt r hr, by rw [hq r hr]⟩, hs, fun r q h => by omega, fun r q h1 h2 h3 => ?_⟩
  · obtain ⟨r, h1, h2⟩ := inj_onto n p hlt (fun i j h1 h2 e => p2 i j (Nat.zero_le _) h1 (Nat.zero_le _) h2 e) q hqn
    exact ⟨r, h1, by rw [hq r h1, ← h2]⟩
  · rw [hq r h2] at h3 ⊢
    simp only at h3 ⊢
    have : p r = q := Int.ofNat.inj h3
    rw [this]
    have hql : q < n := by rw [← this]; exact hlt r h2
    exact ⟨rfl, h0 q hql⟩
end
end Go.Proofs.Ytnglofgcckdbmaa
