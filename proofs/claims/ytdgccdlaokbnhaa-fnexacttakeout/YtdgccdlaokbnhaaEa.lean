/- What goes out, plain: the states of the loop that takes out, lay by lay (TS, tsS, tsR); what it ends with is right and sums up. -/
import Derived.Test.YtdgccdlaokbnhaaTd
import Derived.Test.YtdgccdlaokbnhaaMm
import Derived.Test.YtdgccdlaokbnhaaMj
namespace Go.Proofs.Ytdgccdlaokbnhaa
open Go Go.ChangeShapes Go.WideShapes Go.ChangeAt Go.RowKit
set_option linter.unusedVariables false
set_option linter.unusedSimpArgs false

theorem half_bd {a q Q : Int} (a0 : 0 ≤ a) (a1 : a ≤ 100000000000) (q1 : 1 ≤ q) (h : q < Q) (hQ : Q ≤ 1000000) :
    0 ≤ mdV a q Q 3 ∧ mdV a q Q 3 ≤ a ∧ (∀ p, a = Q * p → mdV a q Q 3 = q * p) := by
  have hp : 0 ≤ a * q := Int.mul_nonneg a0 (by omega)
  obtain ⟨c0, c1, cp, _⟩ := cut_facts (a * q) Q (by omega)
  obtain ⟨t0, t1, _, _, t4⟩ := cp hp
  have hneg : decide (a * q < 0) = false := decide_eq_false (by omega)
  have hd : dv (a * q) Q 3 = if Q ≤ 2 * cr (a * q) Q then (a * q).tdiv Q + 1 else (a * q).tdiv Q := by
    unfold dv rnd fur
    rw [hneg]
    by_cases g : Q ≤ 2 * cr (a * q) Q <;> simp [g]
  generalize (a * q).tdiv Q = t at *
  generalize cr (a * q) Q = r at *
  have hle : a * q ≤ a * (Q - 1) := Int.mul_le_mul_of_nonneg_left (by omega) a0
  rw [Int.mul_sub, Int.mul_one] at hle
  have hta : t ≤ a := by
    rcases Int.lt_or_le a t with g | g
    · have : (a + 1) * Q ≤ t * Q := Int.mul_le_mul_of_nonneg_right (by omega) (by omega)
      rw [Int.add_mul] at this
      omega
    · exact g
  have hup : 0 ≤ dv (a * q) Q 3 ∧ dv (a * q) Q 3 ≤ a := by
    rw [hd]
    by_cases g : Q ≤ 2 * r
    · rw [if_pos g]
      refine ⟨by omega, ?_⟩
      rcases Int.lt_or_le t a with k | k
      · omega
      · have : t = a := by omega
        subst this
        omega
    · rw [if_neg g]; omega
  obtain ⟨_, hv⟩ := md_in (a := a) (num := q) (den := Q) (m := 3) ⟨by omega, by omega, by omega, by omega, by omega, by omega, by omega, by omega⟩ (by omega) (by omega)
  rw [hv]
  refine ⟨hup.1, hup.2, fun p hp => ?_⟩
  have e : t * Q + r = (q * p) * Q := by rw [t4, hp, Int.mul_comm (Q * p) q, Int.mul_comm Q p, Int.mul_assoc]
  have ht : t = q * p := by
    rcases Int.lt_trichotomy t (q * p) with g | g | g
    · have : (t + 1) * Q ≤ (q * p) * Q := Int.mul_le_mul_of_nonneg_right (by omega) (by omega)
      rw [Int.add_mul] at this
      omega
    · exact g
    · have : (q * p + 1) * Q ≤ t * Q := Int.mul_le_mul_of_nonneg_right (by omega) (by omega)
      rw [Int.add_mul] at this
      omega
  rw [hd, if_neg (by rw [ht] at e; omega), ht]

/-- The place that is taken from next. -/
def atO (m : Int) (n : Nat) : Nat := if m = 2 then n - 1 else 0
def delL (c : Nat → LA2) (i : Nat) (j : Nat) : LA2 := if j < i then c j else c (j + 1)
def setL (c : Nat → LA2) (i : Nat) (x : LA2) (j : Nat) : LA2 := if j = i then x else c j
structure TS where
  n : Nat
  c : Nat → LA2
  left : Int
  cost : Int
def ptV (x : LA2) (q : Int) : Int := mdV x.cost q x.qty 3
def tsS (m : Int) (s : TS) : TS :=
  if s.left ≤ 0 then s
  else if (s.c (atO m s.n)).qty ≤ s.left then ⟨s.n - 1, delL s.c (atO m s.n), s.left - (s.c (atO m s.n)).qty, s.cost + (s.c (atO m s.n)).cost⟩
  else ⟨s.n, setL s.c (atO m s.n) ⟨(s.c (atO m s.n)).qty - s.left, (s.c (atO m s.n)).cost - ptV (s.c (atO m s.n)) s.left⟩, 0, s.cost + ptV (s.c (atO m s.n)) s.left⟩
def tsR (m : Int) : Nat → TS → TS
  | 0, s => s
  | f + 1, s => tsR m f (tsS m s)
theorem tsR_done (m : Int) : ∀ f s, s.left ≤ 0 → tsR m f s = s
  | 0, s, _ => rfl
  | f + 1, s, h => by
    have e : tsS m s = s := by unfold tsS; rw [if_pos h]
    unfold tsR
    rw [e]; exact tsR_done m f s h

theorem qS_del (c : Nat → LA2) : ∀ n i, i ≤ n → qS (delL c i) n + (c i).qty = qS c (n + 1)
  | 0, i, h => by obtain rfl : i = 0 := by omega
                  simp [qS]
  | n + 1, i, h => by
    rcases Nat.lt_or_ge n i with g | g
    · obtain rfl : i = n + 1 := by omega
      rw [qS_congr (c := delL c (n + 1)) (d := c) (n + 1) (fun j hj => by unfold delL; rw [if_pos hj])]
      simp only [qS]
    · have := qS_del c n i g
      show qS (delL c i) n + (delL c i n).qty + (c i).qty = qS c (n + 1) + (c (n + 1)).qty
      have e : delL c i n = c (n + 1) := by unfold delL; rw [if_neg (by omega)]
      rw [e]; omega
theorem kS_del (c : Nat → LA2) : ∀ n i, i ≤ n → kS (delL c i) n + (c i).cost = kS c (n + 1)
  | 0, i, h => by obtain rfl : i = 0 := by omega
                  simp [kS]
  | n + 1, i, h => by
    rcases Nat.lt_or_ge n i with g | g
    · obtain rfl : i = n + 1 := by omega
      rw [kS_congr (c := delL c (n + 1)) (d := c) (n + 1) (fun j hj => by unfold delL; rw [if_pos hj])]
      simp only [kS]
    · have := kS_del c n i g
      show kS (delL c i) n + (delL c i n).cost + (c i).cost = kS c (n + 1) + (c (n + 1)).cost
      have e : delL c i n = c (n + 1) := by unfold delL; rw [if_neg (by omega)]
      rw [e]; omega
theorem qS_set (c : Nat → LA2) (x : LA2) : ∀ n i, i < n → qS (setL c i x) n + (c i).qty = qS c n + x.qty
  | 0, i, h => by omega
  | n + 1, i, h => by
    show qS (setL c i x) n + (setL c i x n).qty + (c i).qty = qS c n + (c n).qty + x.qty
    rcases Nat.lt_or_ge i n with g | g
    · have := qS_set c x n i g
      have e : setL c i x n = c n := by unfold setL; rw [if_neg (by omega)]
      rw [e]; omega
    · obtain rfl : i = n := by omega
      have e : setL c i x i = x := by unfold setL; rw [if_pos rfl]
      rw [e, qS_congr (c := setL c i x) (d := c) i (fun j hj => by unfold setL; rw [if_neg (by omega)])]; omega
theorem kS_set (c : Nat → LA2) (x : LA2) : ∀ n i, i < n → kS (setL c i x) n + (c i).cost = kS c n + x.cost
  | 0, i, h => by omega
  | n + 1, i, h => by
    show kS (setL c i x) n + (setL c i x n).cost + (c i).cost = kS c n + (c n).cost + x.cost
    rcases Nat.lt_or_ge i n with g | g
    · have := kS_set c x n i g
      have e : setL c i x n = c n := by unfold setL; rw [if_neg (by omega)]
      rw [e]; omega
    · obtain rfl : i = n := by omega
      have e : setL c i x i = x := by unfold setL; rw [if_pos rfl]
      rw [e, kS_congr (c := setL c i x) (d := c) i (fun j hj => by unfold setL; rw [if_neg (by omega)])]; omega
theorem atO_lt {m : Int} {n : Nat} (h : 1 ≤ n) : atO m n < n := by unfold atO; split <;> omega

/-- A state on the way: what is right of it. K: costs that were there, U: units that are to be left, p: the price of Standard. -/
structure TsI (m p K U : Int) (M : Nat) (s : TS) : Prop where
  lay : ∀ j, j < s.n → laB (s.c j) = true
  len : s.n ≤ M
  left : 0 ≤ s.left
  qty : qS s.c s.n = U + s.left
  cost : kS s.c s.n + s.cost = K
  got : 0 ≤ s.cost
  std : m = 4 → kS s.c s.n = qS s.c s.n * p
section
variable {m p K U : Int} {M : Nat} {s : TS}
theorem TsI.pos (h : TsI m p K U M s) (hU : 0 ≤ U) (hl : 0 < s.left) : 1 ≤ s.n := by
  rcases Nat.eq_zero_or_pos s.n with g | g
  · have := h.qty
    rw [g] at this
    simp only [qS] at this
    omega
  · exact g
/-- The lay that is taken from: its numbers. -/
theorem TsI.at_ (h : TsI m p K U M s) (hU : 0 ≤ U) (hl : 0 < s.left) : (1 ≤ (s.c (atO m s.n)).qty ∧ (s.c (atO m s.n)).qty ≤ 1000000) ∧ (0 ≤ (s.c (atO m s.n)).cost ∧ (s.c (atO m s.n)).cost ≤ 100000000000) := laB_p (h.lay _ (atO_lt (h.pos hU hl)))
theorem la_mk {x : LA2} (h : 1 ≤ x.qty ∧ x.qty ≤ 1000000) (k : 0 ≤ x.cost ∧ x.cost ≤ 100000000000) : laB x = true := by
  unfold laB inB
  simp [h.1, h.2, k.1, k.2]
theorem TsI.step (h : TsI m p K U M s) (hU : 0 ≤ U) (hM4 : m = 4 → M ≤ 1) : TsI m p K U M (tsS m s) ∧ (0 < s.left → 0 < (tsS m s).left → (tsS m s).n + 1 = s.n) := by
  by_cases hl : s.left ≤ 0
  · have e : tsS m s = s := by unfold tsS; rw [if_pos hl]
    rw [e]; exact ⟨h, fun g => by omega⟩
  have hn := h.pos hU (by omega)
  have hat := atO_lt (m := m) hn
  obtain ⟨⟨x1, x2⟩, y1, y2⟩ := h.at_ hU (by omega)
  have hq := h.qty
  have hk := h.cost
  have hg := h.got
  by_cases hx : (s.c (atO m s.n)).qty ≤ s.left
  · have e : tsS m s = ⟨s.n - 1, delL s.c (atO m s.n), s.left - (s.c (atO m s.n)).qty, s.cost + (s.c (atO m s.n)).cost⟩ := by unfold tsS; rw [if_neg hl, if_pos hx]
    rw [e]
    have d1 := qS_del s.c (s.n - 1) (atO m s.n) (by omega)
    have d2 := kS_del s.c (s.n - 1) (atO m s.n) (by omega)
    rw [show s.n - 1 + 1 = s.n by omega] at d1 d2
    refine ⟨⟨fun j hj => ?_, ?_, ?_, ?_, ?_, ?_, fun e4 => ?_⟩, fun _ _ => ?_⟩
    · have hj' : j < s.n - 1 := hj
      show laB (delL s.c (atO m s.n) j) = true
      unfold delL
      split
      · exact h.lay j (by omega)
      · exact h.lay _ (by omega)
    · show s.n - 1 ≤ M
      have := h.len
      omega
    · show 0 ≤ s.left - _; omega
    · show qS (delL s.c (atO m s.n)) (s.n - 1) = U + (s.left - (s.c (atO m s.n)).qty); omega
    · show kS (delL s.c (atO m s.n)) (s.n - 1) + (s.cost + (s.c (atO m s.n)).cost) = K; omega
    · show 0 ≤ s.cost + _; omega
    · have h1 := hM4 e4
      have h2 := h.len
      show kS (delL s.c (atO m s.n)) (s.n - 1) = qS (delL s.c (atO m s.n)) (s.n - 1) * p
      rw [show s.n - 1 = 0 by omega]
      simp [kS, qS]
    · show s.n - 1 + 1 = s.n; omega
  · have e : tsS m s = ⟨s.n, setL s.c (atO m s.n) ⟨(s.c (atO m s.n)).qty - s.left, (s.c (atO m s.n)).cost - ptV (s.c (atO m s.n)) s.left⟩, 0, s.cost + ptV (s.c (atO m s.n)) s.left⟩ := by unfold tsS; rw [if_neg hl, if_neg hx]
    rw [e]
    obtain ⟨p0, p1, p2⟩ := half_bd (q := s.left) y1 y2 (by omega) (by omega : s.left < (s.c (atO m s.n)).qty) x2
    have e1 : ptV (s.c (atO m s.n)) s.left = mdV (s.c (atO m s.n)).cost s.left (s.c (atO m s.n)).qty 3 := rfl
    rw [← e1] at p0 p1 p2
    have d1 := qS_set s.c ⟨(s.c (atO m s.n)).qty - s.left, (s.c (atO m s.n)).cost - ptV (s.c (atO m s.n)) s.left⟩ s.n (atO m s.n) hat
    have d2 := kS_set s.c ⟨(s.c (atO m s.n)).qty - s.left, (s.c (atO m s.n)).cost - ptV (s.c (atO m s.n)) s.left⟩ s.n (atO m s.n) hat
    simp only at d1 d2
    refine ⟨⟨fun j hj => ?_, h.len, Int.le_refl _, ?_, ?_, ?_, fun e4 => ?_⟩, fun _ g => absurd g (by show ¬ (0 : Int) < 0; omega)⟩
    · show laB (setL s.c (atO m s.n) _ j) = true
      unfold setL
      split
      · exact la_mk ⟨by show 1 ≤ _ - _; omega, by show _ - _ ≤ _; omega⟩ ⟨by show 0 ≤ _ - _; omega, by show _ - _ ≤ _; omega⟩
      · exact h.lay j hj
    · show qS (setL s.c (atO m s.n) _) s.n = U + 0; omega
    · show kS (setL s.c (atO m s.n) _) s.n + (s.cost + _) = K; omega
    · show 0 ≤ s.cost + _; omega
    · have h1 := hM4 e4
      have h2 := h.len
      have h3 := h.std e4
      have hn1 : s.n = 1 := by omega
      have ha : atO m s.n = 0 := by omega
      rw [ha] at e1 p2 ⊢
      show kS (setL s.c 0 ⟨(s.c 0).qty - s.left, (s.c 0).cost - ptV (s.c 0) s.left⟩) s.n = qS (setL s.c 0 ⟨(s.c 0).qty - s.left, (s.c 0).cost - ptV (s.c 0) s.left⟩) s.n * p
      rw [hn1] at h3 ⊢
      simp only [kS, qS, Int.zero_add] at h3 ⊢
      have e2 := p2 p h3
      unfold setL
      simp only [if_pos]
      rw [e2, h3, Int.sub_mul]
end
theorem tsR_end (m p K U : Int) (M : Nat) (hU : 0 ≤ U) (hM4 : m = 4 → M ≤ 1) : ∀ f s, TsI m p K U M s → (0 < s.left → s.n ≤ f) → TsI m p K U M (tsR m f s) ∧ (tsR m f s).left = 0
  | 0, s, h, hf => by
    refine ⟨h, ?_⟩
    rcases Int.lt_or_le 0 s.left with g | g
    · have := h.pos hU g
      have := hf g
      omega
    · have := h.left
      show s.left = 0
      omega
  | f + 1, s, h, hf => by
    obtain ⟨h1, h2⟩ := h.step hU hM4
    refine tsR_end m p K U M hU hM4 f (tsS m s) h1 (fun g => ?_)
    rcases Int.lt_or_le 0 s.left with k | k
    · have := h2 k g
      have := hf k
      omega
    · have e : tsS m s = s := by unfold tsS; rw [if_pos k]
      rw [e] at g; omega

/-- What TakeOut leaves. -/
noncomputable def toS (m : Int) (n : Nat) (c : Nat → LA2) (q : Int) : TS := tsR m n ⟨n, c, q, 0⟩
open Classical in
noncomputable def toB (m p : Int) (n : Nat) (c : Nat → LA2) (off q : Int) : Bool := woB m p n c off && inB q 1 1000000 && decide (q ≤ qS c n)
theorem to_start {m p off q : Int} {n : Nat} {c : Nat → LA2} (h : WoP m p n c off) (h1 : 1 ≤ q) (h2 : q ≤ qS c n) : TsI m p (kS c n) (qS c n - q) (mlN m) ⟨n, c, q, 0⟩ :=
  ⟨h.lay, h.len, by show 0 ≤ q; omega, by show qS c n = qS c n - q + q; omega, by show kS c n + 0 = _; omega, Int.le_refl _, fun e => (h.std e).2.2⟩
theorem to_right {m p off q : Int} {n : Nat} {c : Nat → LA2} (h : WoP m p n c off) (h1 : 1 ≤ q) (h2 : q ≤ qS c n) :
    WoP m p (toS m n c q).n (toS m n c q).c off ∧ qS (toS m n c q).c (toS m n c q).n = qS c n - q ∧ kS (toS m n c q).c (toS m n c q).n + (toS m n c q).cost = kS c n ∧ 0 ≤ (toS m n c q).cost ∧ (toS m n c q).left = 0 := by
  obtain ⟨r, r0⟩ := tsR_end m p (kS c n) (qS c n - q) (mlN m) (by omega) (fun e => by subst e; decide) n ⟨n, c, q, 0⟩ (to_start h h1 h2) (fun _ => Nat.le_refl _)
  have e : tsR m n ⟨n, c, q, 0⟩ = toS m n c q := rfl
  rw [e] at r r0
  have q0 := r.qty
  rw [r0] at q0
  have k0 := r.cost
  have g0 := r.got
  have hb := h.bd
  refine ⟨⟨h.met, r.len, r.lay, fun e4 => ⟨(h.std e4).1, (h.std e4).2.1, r.std e4⟩, h.oth, by omega, by omega⟩, by omega, k0, g0, r0⟩
end Go.Proofs.Ytdgccdlaokbnhaa
