/- What Shares tells, plain: together the total, each within one of its part, a greater weight no lesser share. Nothing of the program. -/
import Derived.Test.YtdgccdlaokbnhaaZC
namespace Go.Proofs.Ytdgccdlaokbnhaa.Sh
set_option linter.unusedVariables false

theorem sm_gst {one : Int} {N : Nat} {o r : Nat → Int} (hN : 0 < N) : ∀ k : Nat, sm (gst one N o r k).1 N = sm o N + k * one
  | 0 => by simp [gst]
  | k + 1 => by
    rw [gst]; simp only
    rw [sm_upd (bst_lt _ N hN), sm_gst hN k, show ((k + 1 : Nat) : Int) = (k : Int) + 1 by omega, Int.add_mul, Int.one_mul]
    omega

def pos0 (r : Nat → Int) (j : Nat) : Int := if r j < 0 then 0 else r j
theorem pos0_ge (r : Nat → Int) (j : Nat) : 0 ≤ pos0 r j := by unfold pos0; split <;> omega
theorem sm_pos {a : Nat → Int} : ∀ {n : Nat}, 0 < sm a n → ∃ j, j < n ∧ 0 < a j
  | 0, h => by simp [sm] at h
  | n + 1, h => by
    rw [sm_succ] at h
    by_cases e : 0 < a n
    · exact ⟨n, by omega, e⟩
    · obtain ⟨j, h1, h2⟩ := sm_pos (a := a) (n := n) (by omega)
      exact ⟨j, by omega, h2⟩

/-- k rounds: who has had one had a rest, and none left out has a greater one. -/
theorem gst_inv {one : Int} {N : Nat} {o r : Nat → Int} {S K : Int} (hN : 0 < N) (hr : ∀ j, j < N → 0 ≤ r j ∧ r j < S) (hs : sm r N = K * S) (hS : 0 < S) :
    ∀ k : Nat, (k : Int) ≤ K → K * S - k * (S - 1) ≤ sm (pos0 (gst one N o r k).2) N ∧
      (∀ j, j < N → ((gst one N o r k).2 j = r j ∧ (gst one N o r k).1 j = o j) ∨ ((gst one N o r k).2 j = -1 ∧ (gst one N o r k).1 j = o j + one ∧ 0 < r j)) ∧
      (∀ i j, i < N → j < N → (gst one N o r k).2 i = r i → (gst one N o r k).2 j = -1 → r i ≤ r j) := by
  intro k
  induction k with
  | zero =>
    intro _
    refine ⟨?_, fun j hj => .inl ⟨rfl, rfl⟩, fun i j hi hj _ h => ?_⟩
    · rw [gst]; simp only
      rw [sm_congr (y := pos0 r) (z := r) (fun j hj => by unfold pos0; rw [if_neg (by have := (hr j hj).1; omega)]), hs]; simp
    · rw [gst] at h; simp only at h; have := (hr j hj).1; omega
  | succ k ih =>
    intro hk
    obtain ⟨h1, h2, h3⟩ := ih (by omega)
    obtain ⟨b, hb⟩ : ∃ b, bst (gst one N o r k).2 N = b := ⟨_, rfl⟩
    have hbN : b < N := hb ▸ bst_lt _ N hN
    have hge : ∀ j, j < N → (gst one N o r k).2 j ≤ (gst one N o r k).2 b := fun j hj => hb ▸ bst_ge _ N j hj
    have e1 : (gst one N o r (k + 1)).1 = upd (gst one N o r k).1 b ((gst one N o r k).1 b + one) := by rw [gst, hb]
    have e2 : (gst one N o r (k + 1)).2 = upd (gst one N o r k).2 b (-1) := by rw [gst, hb]
    obtain ⟨P, hP⟩ : ∃ P, (gst one N o r k).2 = P := ⟨_, rfl⟩
    obtain ⟨O, hO⟩ : ∃ O, (gst one N o r k).1 = O := ⟨_, rfl⟩
    rw [hP] at h1 h2 h3 hge e2
    rw [hO] at h2 e1
    have hpos : 0 < sm (pos0 P) N := by
      have q1 : (k : Int) * (S - 1) ≤ (K - 1) * (S - 1) := Int.mul_le_mul_of_nonneg_right (by omega) (by omega)
      have q2 : (K - 1) * (S - 1) = K * S - K - S + 1 := by rw [Int.sub_mul, Int.mul_sub]; omega
      omega
    obtain ⟨j0, hj0, hp0⟩ := sm_pos hpos
    have hPb : 0 < P b := by
      have := hge j0 hj0
      unfold pos0 at hp0
      split at hp0 <;> omega
    have hb2 : P b = r b ∧ O b = o b := by
      rcases h2 b hbN with q | q
      · exact q
      · omega
    rw [e1, e2]
    refine ⟨?_, fun j hj => ?_, fun i j hi hj hi2 hj2 => ?_⟩
    · have e3 : sm (pos0 (upd P b (-1))) N = sm (upd (pos0 P) b 0) N := sm_congr (fun j hj => by
        unfold pos0 upd
        by_cases e : j = b
        · simp [e]
        · simp [e])
      rw [e3, sm_upd hbN]
      have e4 : pos0 P b = r b := by unfold pos0; rw [if_neg (by omega), hb2.1]
      have := hr b hbN
      rw [e4, show ((k + 1 : Nat) : Int) * (S - 1) = (k : Int) * (S - 1) + (S - 1) by rw [show ((k + 1 : Nat) : Int) = (k : Int) + 1 by omega, Int.add_mul, Int.one_mul]]
      omega
    · by_cases e : j = b
      · subst e; rw [upd_eq, upd_eq]; exact .inr ⟨rfl, by rw [hb2.2], by rw [← hb2.1]; exact hPb⟩
      · rw [upd_ne e, upd_ne e]; exact h2 j hj
    · have hib : i ≠ b := fun q => by
        subst q; rw [upd_eq] at hi2; have := (hr i hi).1; omega
      rw [upd_ne hib] at hi2
      by_cases e : j = b
      · subst e
        have := hge i hi
        rw [hi2, hb2.1] at this; exact this
      · rw [upd_ne e] at hj2; exact h3 i j hi hj hi2 hj2

/-- What is known of the shares. -/
theorem shV_facts {T : Int} {N : Nat} {z : Nat → Int} (h : ShOk T N z) : sm (shV T N z) N = T ∧ (∀ j, j < N → -(sm z N) < shV T N z j * sm z N - T * z j ∧ shV T N z j * sm z N - T * z j < sm z N) ∧ (0 < T → ∀ i j, i < N → j < N → z j < z i → shV T N z j ≤ shV T N z i) := by
  have hN : 0 < N := by
    rcases Nat.eq_zero_or_pos N with e | e
    · subst e; have := h.2.2.2; simp [sm] at this
    · exact e
  obtain ⟨K, k1, k2, k3, hr, hkey⟩ := lf_bd h
  obtain ⟨hT, hN2, hz, hS⟩ := h
  obtain ⟨S, hSe⟩ : ∃ S, sm z N = S := ⟨_, rfl⟩
  have hsum : sm (shV T N z) N = T := by
    unfold shV
    rw [sm_gst hN, k2]
    rcases k3 with ⟨e, e0⟩ | ⟨e, e0⟩
    · rw [show on1 (lf T N z) = 1 by unfold on1; rw [if_neg (by omega)], Int.mul_one, ← e]; unfold lf; omega
    · rw [show on1 (lf T N z) = -1 by unfold on1; rw [if_pos e0]]
      have : (K : Int) * -1 = lf T N z := by rw [e]; omega
      rw [this]; unfold lf; omega
  have hcut : ∀ j, j < N → (0 ≤ T → qv T N z j * S + rs T N z j = T * z j) ∧ (T < 0 → qv T N z j * S - rs T N z j = T * z j) := fun j hj => by
    have hzj := (hz j hj).1
    have f := cut_facts (T * z j) S (by omega)
    constructor
    · intro h0
      have := (f.2.2.1 (Int.mul_nonneg h0 hzj)).2.2.2.2
      unfold qv rs; rw [hSe]; exact this
    · intro h0
      by_cases e : z j = 0
      · unfold qv rs; rw [hSe, e, Int.mul_zero]; simp [cr]
      · have := (f.2.2.2 (Int.mul_neg_of_neg_of_pos h0 (by omega))).2.2.2
        unfold qv rs; rw [hSe]; exact this
  have hsr : sm (rs T N z) N = (K : Int) * S := by
    rw [hSe] at hkey
    rcases k3 with ⟨e, e0⟩ | ⟨e, e0⟩
    · rcases hkey with ⟨t0, q⟩ | ⟨t0, q⟩
      · rw [← e]; exact q.symm
      · have h0 := (sm_le (a := rs T N z) (M := S) (n := N) (fun j hj => by have := hr j hj; omega)).1
        rw [← e]
        have h1 : 0 ≤ lf T N z * S := Int.mul_nonneg e0 (by omega)
        omega
    · rcases hkey with ⟨t0, q⟩ | ⟨t0, q⟩
      · have h0 := (sm_le (a := rs T N z) (M := S) (n := N) (fun j hj => by have := hr j hj; omega)).1
        have h1 : lf T N z * S < 0 := Int.mul_neg_of_neg_of_pos e0 (by omega)
        omega
      · rw [e, Int.neg_mul] at q; omega
  have hinv := gst_inv (one := on1 (lf T N z)) (o := qv T N z) hN (fun j hj => by have := hr j hj; rw [hSe] at this; exact this) hsr (by omega) K (Int.le_refl _)
  have hV : shV T N z = (gst (on1 (lf T N z)) N (qv T N z) (rs T N z) K).1 := by unfold shV; rw [k2]
  rw [← hV] at hinv
  obtain ⟨_, i2, i3⟩ := hinv
  have hone : (0 ≤ T → on1 (lf T N z) = 1) := fun h0 => by
    unfold on1; rw [if_neg]
    intro hl
    rcases hkey with ⟨_, q⟩ | ⟨q, _⟩
    · have h0 := (sm_le (a := rs T N z) (M := S) (n := N) (fun j hj => by have := hr j hj; omega)).1
      have h1 : lf T N z * sm z N < 0 := Int.mul_neg_of_neg_of_pos hl hS
      omega
    · omega
  have hneg : T < 0 → on1 (lf T N z) = -1 ∨ K = 0 := fun h0 => by
    rcases k3 with ⟨e, e0⟩ | ⟨e, e0⟩
    · right
      rcases hkey with ⟨q, _⟩ | ⟨_, q⟩
      · omega
      · have h1 := (sm_le (a := rs T N z) (M := S) (n := N) (fun j hj => by have := hr j hj; omega)).1
        by_cases e2 : K = 0
        · exact e2
        · have : 0 < lf T N z * sm z N := Int.mul_pos (by omega) hS
          omega
    · left; unfold on1; rw [if_pos e0]
  refine ⟨hsum, fun j hj => ?_, fun hT0 i j hi hj hij => ?_⟩
  · rw [hSe] at hr ⊢
    have hrj := hr j hj
    obtain ⟨c1, c2⟩ := hcut j hj
    by_cases h0 : 0 ≤ T
    · have c := c1 h0
      rcases i2 j hj with ⟨_, q⟩ | ⟨_, q, q2⟩
      · rw [q]; omega
      · rw [q, hone h0, Int.add_mul, Int.one_mul]; omega
    · have c := c2 (by omega)
      rcases i2 j hj with ⟨_, q⟩ | ⟨q0, q, q2⟩
      · rw [q]; omega
      · rcases hneg (by omega) with e | e
        · rw [q, e, Int.add_mul]; omega
        · subst e; rw [gst] at q0; simp only at q0; omega
  · rw [hSe] at hr
    have hri := hr i hi
    have hrj := hr j hj
    have ci := (hcut i hi).1 (by omega)
    have cj := (hcut j hj).1 (by omega)
    have hone1 := hone (by omega)
    have hlt : T * z j < T * z i := Int.mul_lt_mul_of_pos_left hij hT0
    have hq : qv T N z j ≤ qv T N z i := by
      rcases Int.lt_or_le (qv T N z i) (qv T N z j) with q | q
      · have : qv T N z i * S ≤ (qv T N z j - 1) * S := Int.mul_le_mul_of_nonneg_right (by omega) (by omega)
        rw [Int.sub_mul, Int.one_mul] at this
        omega
      · exact q
    have hge : qv T N z i ≤ shV T N z i := by
      rcases i2 i hi with ⟨_, q⟩ | ⟨_, q, _⟩
      · omega
      · rw [q, hone1]; omega
    rcases i2 j hj with ⟨_, q⟩ | ⟨p0, q, _⟩
    · omega
    · rw [q, hone1]
      by_cases e : qv T N z j = qv T N z i
      · have hrr : rs T N z j < rs T N z i := by rw [e] at cj; omega
        rcases i2 i hi with ⟨p1, _⟩ | ⟨_, q1, _⟩
        · have := i3 i j hi hj p1 p0; omega
        · rw [q1, hone1]; omega
      · omega
end Go.Proofs.Ytdgccdlaokbnhaa.Sh
