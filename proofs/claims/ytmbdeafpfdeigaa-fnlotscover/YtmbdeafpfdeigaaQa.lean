/- Rows of numbers: sums, what is left over, topping up, the table of the least ways (plain). -/
namespace Go.Proofs.Ytmbdeafpfdeigaa
set_option linter.unusedVariables false
set_option linter.unusedSimpArgs false
/-- The sum of the first k. -/
def smQ (z : Nat → Int) : Nat → Int
  | 0 => 0
  | k + 1 => smQ z k + z k
theorem smQ_s (z : Nat → Int) (k : Nat) : smQ z (k + 1) = smQ z k + z k := rfl
theorem smq_bd {z : Nat → Int} {M : Int} : ∀ k, (∀ j, j < k → 0 ≤ z j ∧ z j ≤ M) → 0 ≤ smQ z k ∧ smQ z k ≤ M * (k : Int)
  | 0, _ => by simp [smQ]
  | k + 1, h => by
    have ih := smq_bd k (fun j hj => h j (by omega))
    have h1 := h k (by omega)
    rw [smQ_s]
    have e : M * ((k + 1 : Nat) : Int) = M * (k : Int) + M := by rw [Int.natCast_add, Int.mul_add]; simp
    rw [e]
    omega
theorem smq_congr {z y : Nat → Int} : ∀ k, (∀ j, j < k → z j = y j) → smQ z k = smQ y k
  | 0, _ => rfl
  | k + 1, h => by rw [smQ_s, smQ_s, smq_congr k (fun j hj => h j (by omega)), h k (by omega)]
theorem smq_mono {z : Nat → Int} {k : Nat} : ∀ m, k ≤ m → (∀ j, j < m → 0 ≤ z j) → smQ z k ≤ smQ z m
  | 0, h, _ => by obtain rfl : k = 0 := by omega
                  exact Int.le_refl _
  | m + 1, h, h1 => by
    by_cases e : k = m + 1
    · subst e; exact Int.le_refl _
    · have ih := smq_mono (k := k) m (by omega) (fun j hj => h1 j (by omega))
      have := h1 m (by omega)
      rw [smQ_s]; omega
theorem smq_le {z y : Nat → Int} : ∀ k, (∀ j, j < k → z j ≤ y j) → smQ z k ≤ smQ y k
  | 0, _ => Int.le_refl _
  | k + 1, h => by
    have ih := smq_le k (fun j hj => h j (by omega))
    have := h k (by omega)
    rw [smQ_s, smQ_s]; omega
/-- What is left over at bucket i's end. -/
def lfF (m o : Nat → Int) (i : Nat) : Int := smQ o (i + 1) - smQ m (i + 1)
/-- The sum of what is left over at the first k ends. -/
def lfS (m o : Nat → Int) : Nat → Int
  | 0 => 0
  | k + 1 => lfS m o k + lfF m o k
theorem lfS_s (m o : Nat → Int) (k : Nat) : lfS m o (k + 1) = lfS m o k + lfF m o k := rfl
/-- How many of the first k are above 0. -/
def ctO (o : Nat → Int) : Nat → Int
  | 0 => 0
  | k + 1 => ctO o k + (if 0 < o k then 1 else 0)
theorem ctO_s (o : Nat → Int) (k : Nat) : ctO o (k + 1) = ctO o k + (if 0 < o k then 1 else 0) := rfl
/-- Whether nothing falls short at the first k ends. -/
def cvB (m o : Nat → Int) : Nat → Bool
  | 0 => true
  | k + 1 => cvB m o k && decide (0 ≤ lfF m o k)
theorem cvB_p {m o : Nat → Int} : ∀ k, cvB m o k = true → ∀ j, j < k → 0 ≤ lfF m o j
  | 0, _, j, hj => by omega
  | k + 1, h, j, hj => by
    simp only [cvB, Bool.and_eq_true, decide_eq_true_eq] at h
    by_cases e : j = k
    · subst e; exact h.2
    · exact cvB_p k h.1 j (by omega)
theorem cvB_t {m o : Nat → Int} : ∀ k, (∀ j, j < k → 0 ≤ lfF m o j) → cvB m o k = true
  | 0, _ => rfl
  | k + 1, h => by simp only [cvB, Bool.and_eq_true, decide_eq_true_eq]; exact ⟨cvB_t k (fun j hj => h j (by omega)), h k (by omega)⟩
theorem cvB_f {m o : Nat → Int} {j : Nat} : ∀ k, j < k → lfF m o j < 0 → cvB m o k = false
  | 0, h, _ => by omega
  | k + 1, h, h1 => by
    by_cases e : j = k
    · subst e
      have : ¬ 0 ≤ lfF m o j := by omega
      simp [cvB, this]
    · show (cvB m o k && _) = false
      rw [cvB_f k (by omega) h1]; rfl
/-- What a way of ordering costs up to k. -/
def lcV (S H : Int) (m o : Nat → Int) (k : Nat) : Int := H * lfS m o k + S * ctO o k
theorem lfF_bd {m o : Nat → Int} {k i : Nat} (hm : ∀ j, j < k → 0 ≤ m j ∧ m j ≤ 1000000) (ho : ∀ j, j < k → 0 ≤ o j ∧ o j ≤ 1000000) (hi : i < k) (hk : k ≤ 40) : -40000000 ≤ lfF m o i ∧ lfF m o i ≤ 40000000 := by
  have a := smq_bd (i + 1) (fun j hj => hm j (by omega))
  have b := smq_bd (i + 1) (fun j hj => ho j (by omega))
  unfold lfF
  have : ((i + 1 : Nat) : Int) ≤ 40 := by omega
  omega
theorem lfS_bd {m o : Nat → Int} {n : Nat} (hm : ∀ j, j < n → 0 ≤ m j ∧ m j ≤ 1000000) (ho : ∀ j, j < n → 0 ≤ o j ∧ o j ≤ 1000000) (hn : n ≤ 40) : ∀ k, k ≤ n → -40000000 * (k : Int) ≤ lfS m o k ∧ lfS m o k ≤ 40000000 * (k : Int)
  | 0, _ => by simp [lfS]
  | k + 1, h => by
    have ih := lfS_bd hm ho hn k (by omega)
    have := lfF_bd hm ho (i := k) (by omega) hn
    rw [lfS_s]
    omega
theorem lfS_nn {m o : Nat → Int} : ∀ k, (∀ j, j < k → 0 ≤ lfF m o j) → 0 ≤ lfS m o k
  | 0, _ => Int.le_refl _
  | k + 1, h => by
    have ih := lfS_nn k (fun j hj => h j (by omega))
    have := h k (by omega)
    rw [lfS_s]; omega
theorem ctO_bd (o : Nat → Int) : ∀ k, 0 ≤ ctO o k ∧ ctO o k ≤ (k : Int)
  | 0 => by simp [ctO]
  | k + 1 => by
    have ih := ctO_bd o k
    rw [ctO_s]
    split <;> omega
theorem lfF_congr {m o m' o' : Nat → Int} {i : Nat} (hm : ∀ j, j ≤ i → m j = m' j) (ho : ∀ j, j ≤ i → o j = o' j) : lfF m o i = lfF m' o' i := by
  unfold lfF
  rw [smq_congr (z := o) (y := o') (i + 1) (fun j hj => ho j (by omega)), smq_congr (z := m) (y := m') (i + 1) (fun j hj => hm j (by omega))]
theorem lfS_congr {m o m' o' : Nat → Int} : ∀ k, (∀ j, j < k → m j = m' j) → (∀ j, j < k → o j = o' j) → lfS m o k = lfS m' o' k
  | 0, _, _ => rfl
  | k + 1, h1, h2 => by rw [lfS_s, lfS_s, lfS_congr k (fun j hj => h1 j (by omega)) (fun j hj => h2 j (by omega)), lfF_congr (fun j hj => h1 j (by omega)) (fun j hj => h2 j (by omega))]
theorem ctO_congr {o o' : Nat → Int} : ∀ k, (∀ j, j < k → o j = o' j) → ctO o k = ctO o' k
  | 0, _ => rfl
  | k + 1, h => by rw [ctO_s, ctO_s, ctO_congr k (fun j hj => h j (by omega)), h k (by omega)]
theorem lcV_congr {S H : Int} {m o m' o' : Nat → Int} (k : Nat) (h1 : ∀ j, j < k → m j = m' j) (h2 : ∀ j, j < k → o j = o' j) : lcV S H m o k = lcV S H m' o' k := by
  unfold lcV; rw [lfS_congr k h1 h2, ctO_congr k h2]
/-- Topping up: what is left over behind the first k, and what is ordered at k. -/
def tS (g : Nat → Int → Int) (m : Nat → Int) : Nat → Int
  | 0 => 0
  | k + 1 => if tS g m k - m k < 0 then tS g m k - m k + g k (-(tS g m k - m k)) else tS g m k - m k
def tO (g : Nat → Int → Int) (m : Nat → Int) (k : Nat) : Int := if tS g m k - m k < 0 then g k (-(tS g m k - m k)) else 0
theorem tS_s (g : Nat → Int → Int) (m : Nat → Int) (k : Nat) : tS g m (k + 1) = tS g m k - m k + tO g m k := by
  show (if tS g m k - m k < 0 then _ else _) = _
  unfold tO
  split <;> omega
theorem smq_tO (g : Nat → Int → Int) (m : Nat → Int) : ∀ k, smQ (tO g m) k - smQ m k = tS g m k
  | 0 => rfl
  | k + 1 => by
    have ih := smq_tO g m k
    rw [smQ_s, smQ_s, tS_s]; omega
theorem tS_nn {g : Nat → Int → Int} {m : Nat → Int} {n : Nat} (hg : ∀ k s, k < n → 0 < s → s ≤ g k s) : ∀ k, k ≤ n → 0 ≤ tS g m k
  | 0, _ => Int.le_refl _
  | k + 1, h => by
    have ih := tS_nn (m := m) hg k (by omega)
    rw [tS_s]
    unfold tO
    split
    · have := hg k (-(tS g m k - m k)) (by omega) (by omega)
      omega
    · omega
theorem tO_nn {g : Nat → Int → Int} {m : Nat → Int} {n k : Nat} (hg : ∀ k s, k < n → 0 < s → s ≤ g k s) (hk : k < n) : 0 ≤ tO g m k := by
  unfold tO
  split
  · have := hg k (-(tS g m k - m k)) hk (by omega)
    omega
  · exact Int.le_refl _
/-- Orders that are never less than what falls short cover all. -/
theorem tO_cover {g : Nat → Int → Int} {m : Nat → Int} {n : Nat} (hg : ∀ k s, k < n → 0 < s → s ≤ g k s) : cvB m (tO g m) n = true :=
  cvB_t n fun j hj => by
    have := smq_tO g m (j + 1)
    have h2 := tS_nn (m := m) hg (j + 1) (by omega)
    unfold lfF; omega
theorem tO_self (m : Nat → Int) (n : Nat) (hm : ∀ j, j < n → 0 ≤ m j) : ∀ k, k ≤ n → tS (fun _ s => s) m k = 0 ∧ ∀ j, j < k → tO (fun _ s => s) m j = m j
  | 0, _ => ⟨rfl, fun j hj => by omega⟩
  | k + 1, h => by
    obtain ⟨i1, i2⟩ := tO_self m n hm k (by omega)
    have hk := hm k (by omega)
    have e : tO (fun _ s => s) m k = m k := by
      unfold tO
      rw [i1]
      split
      · show -(0 - m k) = m k
        omega
      · omega
    refine ⟨by rw [tS_s, i1, e]; omega, fun j hj => ?_⟩
    by_cases q : j = k
    · subst q; exact e
    · exact i2 j (by omega)
/-- What is kept, if what is needed from f up to e is ordered at f. -/
def kF (m : Nat → Int) (f : Nat) : Nat → Int
  | 0 => 0
  | e + 1 => if f ≤ e then kF m f e + ((e : Int) - (f : Int)) * m e else 0
theorem kF_s (m : Nat → Int) {f e : Nat} (h : f ≤ e) : kF m f (e + 1) = kF m f e + ((e : Int) - (f : Int)) * m e := if_pos h
theorem kF_z (m : Nat → Int) {f : Nat} : ∀ e, e ≤ f → kF m f e = 0
  | 0, _ => rfl
  | e + 1, h => if_neg (by omega)
/-- The table of the ways: behind so many places that were gone through, the cost and the last order of the least one up to e. -/
def wT (S H : Int) (m : Nat → Int) : Nat → Nat → Int × Int
  | 0, _ => (0, -1)
  | F + 1, e => if m F = 0 ∨ e ≤ F then wT S H m F e else
      if (wT S H m F e).2 = -1 ∨ (wT S H m F F).1 + S + H * kF m F e < (wT S H m F e).1 then ((wT S H m F F).1 + S + H * kF m F e, (F : Int)) else wT S H m F e
theorem wT_s0 (S H : Int) {m : Nat → Int} {F e : Nat} (h : m F = 0 ∨ e ≤ F) : wT S H m (F + 1) e = wT S H m F e := if_pos h
theorem wT_s (S H : Int) {m : Nat → Int} {F e : Nat} (h : m F ≠ 0) (h2 : F < e) : wT S H m (F + 1) e = if (wT S H m F e).2 = -1 ∨ (wT S H m F F).1 + S + H * kF m F e < (wT S H m F e).1 then ((wT S H m F F).1 + S + H * kF m F e, (F : Int)) else wT S H m F e := if_neg (by omega)
/-- Behind e nothing changes any more. -/
theorem wT_late (S H : Int) (m : Nat → Int) (e : Nat) : ∀ F, e ≤ F → wT S H m F e = wT S H m e e
  | 0, h => by obtain rfl : e = 0 := by omega
               rfl
  | F + 1, h => by
    by_cases q : e = F + 1
    · subst q; rfl
    · rw [wT_s0 S H (.inr (by omega)), wT_late S H m e F (by omega)]
/-- The last order stands among the places that were gone through, and something is missing there. -/
theorem wT_last (S H : Int) (m : Nat → Int) : ∀ F e, (wT S H m F e).2 = -1 ∨ ∃ f : Nat, (wT S H m F e).2 = (f : Int) ∧ f < F ∧ f < e ∧ m f ≠ 0
  | 0, e => .inl rfl
  | F + 1, e => by
    by_cases h : m F = 0 ∨ e ≤ F
    · rw [wT_s0 S H h]
      rcases wT_last S H m F e with g | ⟨f, g1, g2, g3, g4⟩
      · exact .inl g
      · exact .inr ⟨f, g1, by omega, g3, g4⟩
    · rw [wT_s S H (by omega) (by omega)]
      split
      · exact .inr ⟨F, rfl, by omega, by omega, by omega⟩
      · rcases wT_last S H m F e with g | ⟨f, g1, g2, g3, g4⟩
        · exact .inl g
        · exact .inr ⟨f, g1, by omega, g3, g4⟩
/-- There is no way just where nothing is missing yet. -/
theorem wT_none (S H : Int) (m : Nat → Int) (e : Nat) : ∀ F, (wT S H m F e).2 = -1 → wT S H m F e = (0, -1) ∧ ∀ j, j < F → j < e → m j = 0
  | 0, _ => ⟨rfl, fun j hj => by omega⟩
  | F + 1, h => by
    by_cases g : m F = 0 ∨ e ≤ F
    · rw [wT_s0 S H g] at h ⊢
      obtain ⟨h1, h2⟩ := wT_none S H m e F h
      refine ⟨h1, fun j hj he => ?_⟩
      by_cases q : j = F
      · subst q; omega
      · exact h2 j (by omega) he
    · rw [wT_s S H (by omega) (by omega)] at h
      split at h
      · simp at h
      · rename_i g2
        exact absurd (.inl h) g2
theorem wT_zero (S H : Int) (m : Nat → Int) (e : Nat) : ∀ F, (∀ j, j < F → j < e → m j = 0) → wT S H m F e = (0, -1)
  | 0, _ => rfl
  | F + 1, h => by
    by_cases g : m F = 0 ∨ e ≤ F
    · rw [wT_s0 S H g]; exact wT_zero S H m e F (fun j hj he => h j (by omega) he)
    · exact absurd (h F (by omega) (by omega)) (by omega)
end Go.Proofs.Ytmbdeafpfdeigaa
