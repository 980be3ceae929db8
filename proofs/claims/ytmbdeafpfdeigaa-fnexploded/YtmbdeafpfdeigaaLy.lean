/- What items cost that bring nothing else, and which are bought: plain. -/
import Derived.Test.YtmbdeafpfdeigaaLx
import Derived.Test.YtmbdeafpfdeigaaKr
namespace Go.Proofs.Ytmbdeafpfdeigaa
open Go.ChangeShapes Go.WideShapes Go.ChangeAt Go.RowKit
set_option linter.unusedVariables false
set_option linter.unusedSimpArgs false

theorem os_zero {O z : Nat → Int} {i : Nat} : ∀ r, (∀ j, j ≠ i → O j = 0) → osF O z i r = 0
  | 0, _ => rfl
  | r + 1, h => by
    have ih := os_zero (z := z) r h
    unfold osF
    by_cases e : r = i
    · rw [if_pos e]; exact ih
    · rw [if_neg e, ih, h r e]; simp
theorem ou_plain {n : Nat} {c : Nat → IT} {d : Int} {i : Nat} {x : Int} (h : (c i).alsn = 0) : ∀ j, j ≠ i → ouF n c d i x j = 0 := fun j hj => by
  unfold ouF brF
  rw [h]
  show upI z0 i _ j = 0
  rw [upI_ne hj]; rfl
/-- An item that is bought on day d: none of its parts counts. -/
def boB (c : Nat → IT) (d : Int) (i : Nat) : Bool := decide (cnN (c i).parz d (c i).parn = 0)
/-- What the first k come to that are bought. -/
def buV (c : Nat → IT) (d : Int) (z E : Nat → Int) : Nat → Int
  | 0 => 0
  | k + 1 => if boB c d k = true then buV c d z E k + E k * z k else buV c d z E k
theorem oc_plain {n : Nat} {c : Nat → IT} {d : Int} {z : Nat → Int} {i : Nat} {x : Int} (h : (c i).alsn = 0) : ocV n c d z i x = if boB c d i = true then x * z i else 0 := by
  unfold ocV boB
  by_cases g : 0 < cnN (c i).parz d (c i).parn
  · rw [if_pos g, if_neg (by rw [decide_eq_false (by omega)]; decide), os_zero n (ou_plain h)]; rfl
  · rw [if_neg g, if_pos (decide_eq_true (by omega))]
theorem cs_buy {n : Nat} {c : Nat → IT} {d : Int} {z E : Nat → Int} : ∀ k, (∀ j, j < k → (c j).alsn = 0) → csV n c d z E k = buV c d z E k
  | 0, _ => rfl
  | k + 1, h => by
    show csV n c d z E k + _ = (if boB c d k = true then buV c d z E k + E k * z k else buV c d z E k)
    rw [cs_buy k (fun j hj => h j (by omega)), oc_plain (h k (by omega))]
    split <;> omega
theorem bu_twice {c : Nat → IT} {d : Int} {z E : Nat → Int} : ∀ k, buV c d (fun j => 2 * z j) E k = 2 * buV c d z E k
  | 0 => rfl
  | k + 1 => by
    have ih := bu_twice (c := c) (d := d) (z := z) (E := E) k
    unfold buV
    split
    · rw [ih, Int.mul_left_comm]; omega
    · exact ih
theorem tk_pos {nb : Int} {p : PA6} (hb : 1 ≤ nb) (h1 : nb * p.qty ≤ 1000000) (hp : CP p) : 1 ≤ tk nb p := by
  have h0 : 1 * 1 ≤ nb * p.qty := Int.mul_le_mul hb hp.1 (by omega) (by omega)
  rw [tk_val (by omega) h1 hp.2]
  have : 1 * 100 ≤ nb * p.qty * (100 + p.scr) := Int.mul_le_mul (by omega) (by have := hp.2; omega) (by omega) (by omega)
  omega
/-- The sum of the first k. -/
def suF (f : Nat → Int) : Nat → Int
  | 0 => 0
  | k + 1 => suF f k + f k
theorem suF_up {i : Nat} {q : Int} : ∀ k, suF (upI z0 i q) k = if i < k then q else 0
  | 0 => rfl
  | k + 1 => by
    have ih := suF_up (i := i) (q := q) k
    show suF (upI z0 i q) k + upI z0 i q k = _
    rw [ih]
    by_cases e : k = i
    · subst e; rw [upI_eq, if_neg (by omega), if_pos (by omega)]; omega
    · rw [upI_ne e]
      show _ + (0 : Int) = _
      by_cases g : i < k
      · rw [if_pos g, if_pos (by omega)]; omega
      · rw [if_neg g, if_neg (by omega)]; rfl
theorem suF_ge {f : Nat → Int} (h : ∀ j, 0 ≤ f j) {j : Nat} : ∀ k, j < k → f j ≤ suF f k ∧ 0 ≤ suF f k
  | 0, hj => by omega
  | k + 1, hj => by
    have nn : ∀ k, 0 ≤ suF f k := by
      intro k
      induction k with
      | zero => exact Int.le_refl _
      | succ k ih => have := h k; show 0 ≤ suF f k + f k; omega
    have hk := h k
    refine ⟨?_, nn _⟩
    show f j ≤ suF f k + f k
    by_cases e : j = k
    · subst e; have := nn j; omega
    · have := (suF_ge h k (show j < k by omega)).1; omega
theorem suF_two {f : Nat → Int} (h : ∀ j, 0 ≤ f j) {i j : Nat} (hij : i < j) : ∀ k, j < k → f i + f j ≤ suF f k
  | 0, hj => by omega
  | k + 1, hj => by
    show f i + f j ≤ suF f k + f k
    have hk := h k
    by_cases e : j = k
    · subst e; have := (suF_ge h (j := i) j hij).1; omega
    · have := suF_two h hij k (by omega); omega
theorem suF_bd {f : Nat → Int} (h : FQ f) : ∀ k, 0 ≤ suF f k ∧ suF f k ≤ 1000000 * (k : Int)
  | 0 => by simp [suF]
  | k + 1 => by
    have ih := suF_bd h k
    have := h k
    show 0 ≤ suF f k + f k ∧ suF f k + f k ≤ _
    omega
/-- What is bought is needed alone. -/
theorem eo_bought {n : Nat} {c : Nat → IT} {d : Int} {i : Nat} {x : Int} (hI : isB n c = true) (hi : i < n) (hb : boB c d i = true) : eoF n c d i x = upI z0 i x := by
  have hc : ¬ 0 < cnN (c i).parz d (c i).parn := by have := of_decide_eq_true hb; omega
  have key : ∀ k, i + k ≤ n → epF c d i (upI z0 i x) k = upI z0 i x := by
    intro k
    induction k with
    | zero => intro _; rfl
    | succ k ih =>
      intro hk
      show epS c d (epF c d i (upI z0 i x) k) (i + k) = _
      rw [ih (by omega), ep_xp]
      by_cases e : k = 0
      · subst e; exact xp_none hc
      · funext j
        rw [xp_add, upI_ne (show i + k ≠ i by omega)]
        show _ + xpF c d z0 (i + k) 0 j = _
        rw [(xp_zero (d := d) hI (show i + k < n by omega) z0_q).1]
        show _ + (0 : Int) = _
        omega
  exact key (n - i) (by omega)
theorem ex_mono {nb : Int} {c : Nat → PA6} {f : Nat → Int} {j : Nat} : ∀ k m, k ≤ m → (∀ r, r < m → CP (c r)) → exB f nb c m = true → exF f nb c k j ≤ exF f nb c m j
  | k, 0, h, _, _ => by obtain rfl : k = 0 := by omega
                        exact Int.le_refl _
  | k, m + 1, h, hc, e => by
    by_cases q : k = m + 1
    · subst q; exact Int.le_refl _
    · simp only [exB, Bool.and_eq_true] at e
      have ih := ex_mono (j := j) k m (by omega) (fun r hr => hc r (by omega)) e.1
      refine Int.le_trans ih ?_
      show _ ≤ upI _ _ _ j
      by_cases g : j = (c m).item.toNat
      · subst g
        rw [upI_eq]
        have s1 := e.2
        simp only [stB, Bool.and_eq_true] at s1
        have i1 := inB_t s1.1
        obtain ⟨hq, hs0, hs1⟩ := hc m (by omega)
        have := tk_nn i1.1 i1.2 ⟨hs0, hs1⟩
        omega
      · rw [upI_ne g]; exact Int.le_refl _
theorem ep_mono {n : Nat} {c : Nat → IT} {d : Int} {a : Nat} {f : Nat → Int} {j : Nat} (hI : isB n c = true) {k : Nat} : ∀ m, k ≤ m → a + m ≤ n → epB c d a f m = true → epF c d a f k j ≤ epF c d a f m j
  | 0, h, _, _ => by obtain rfl : k = 0 := by omega
                     exact Int.le_refl _
  | m + 1, h, hn, e => by
    by_cases q : k = m + 1
    · subst q; exact Int.le_refl _
    · simp only [epB, Bool.and_eq_true] at e
      exact Int.le_trans (ep_mono hI m (by omega) (by omega) e.1) (le_up hI (show a + m < n by omega) e.2 j)
/-- Of what is made on day d more than one is needed. -/
theorem eo_made {n : Nat} {c : Nat → IT} {d : Int} {i : Nat} (hI : isB n c = true) (hi : i < n) (hb : boB c d i = false) (e : eoB n c d i 1 = true) : suF (eoF n c d i 1) n ≠ 1 := by
  have hc : 0 < cnN (c i).parz d (c i).parn := by have := of_decide_eq_false hb; omega
  have fq : FQ (upI z0 i 1) := z0_q.up i (by omega) (by omega)
  have eq : FQ (eoF n c d i 1) := epF_q fq _ e
  have e0 := e
  unfold eoB at e
  rw [show n - i = (n - (i + 1)) + 1 by omega, (ep_front c d i _ _).2, Bool.and_eq_true] at e
  have s := e.1
  unfold epO at s
  rw [if_pos hc, upI_eq] at s
  unfold xpB at s
  simp only [Bool.and_eq_true] at s
  obtain ⟨g1, _⟩ := isB_it hI hi
  have b1 : 1 ≤ bat 1 (c i).batch := by
    have := bat_ge (q := 1) g1.1
    have nn := (bat_bd (q := 1) (by omega) g1.1).1
    by_cases z : bat 1 (c i).batch = 0
    · rw [z] at this; omega
    · omega
  -- the first part that counts
  have p0 := cp_of (d := d) hI hi 0 hc
  have i0 := cp_item (d := d) hI hi 0 hc
  have hn0 : (cnC (c i).parz d (c i).parn 0).item.toNat < n := by
    obtain ⟨_, _, _, g4, _⟩ := isB_it hI hi
    exact cnC_all (P := fun p => p.item.toNat < n) _ (fun j hj => by have := (g4 j hj).1.1; show ((c i).parz j).item.toNat < n; omega) 0 hc
  have x1 : exB (upI z0 i 1) (bat 1 (c i).batch) (cnC (c i).parz d (c i).parn) 1 = true := by
    cases h : exB (upI z0 i 1) (bat 1 (c i).batch) (cnC (c i).parz d (c i).parn) 1
    · rw [exB_mono _ hc h] at s; exact absurd s.2 (by decide)
    · rfl
  simp only [exB, Bool.true_and, stB, Bool.and_eq_true] at x1
  have t1 := tk_pos b1 (inB_t x1.1).2 p0
  have m1 := ex_mono (f := upI z0 i 1) (j := (cnC (c i).parz d (c i).parn 0).item.toNat) 1 _ hc (cp_of hI hi) s.2
  have v1 : exF (upI z0 i 1) (bat 1 (c i).batch) (cnC (c i).parz d (c i).parn) 1 (cnC (c i).parz d (c i).parn 0).item.toNat = 0 + tk (bat 1 (c i).batch) (cnC (c i).parz d (c i).parn 0) := by
    show upI _ _ _ _ = _
    rw [upI_eq]
    show upI z0 i 1 _ + _ = _
    rw [upI_ne (show (cnC (c i).parz d (c i).parn 0).item.toNat ≠ i by omega)]; rfl
  have st : ∀ j, epS c d (upI z0 i 1) i j ≤ eoF n c d i 1 j := fun j => ep_mono (k := 1) (a := i) (f := upI z0 i 1) hI (n - i) (by omega) (by omega) e0
  have w1 := st (cnC (c i).parz d (c i).parn 0).item.toNat
  rw [ep_xp, upI_eq] at w1
  have w2 := st i
  rw [ep_xp, upI_eq, xp_low hI hi (Nat.le_refl _), upI_eq] at w2
  have two := suF_two (fun j => (eq j).1) i0 n hn0
  unfold xpF at w1
  omega
end Go.Proofs.Ytmbdeafpfdeigaa
