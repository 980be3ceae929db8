/- Making, plain: the parts that count on a day, what is taken of each, how items are expanded. -/
import Derived.Test.YtmbdeafpfdeigaaJi
import Derived.Test.YtmbdeafpfdeigaaPc
import Derived.Test.YtmbdeafpfdeigaaDv
namespace Go.Proofs.Ytmbdeafpfdeigaa
open Go.ChangeShapes Go.WideShapes Go.ChangeAt Go.RowKit
set_option linter.unusedVariables false
set_option linter.unusedSimpArgs false

/-- Whether a group has been met among the first k parts that count on day d. -/
def mt_ (z : Nat → PA6) (d : Int) : Nat → Int → Bool
  | 0, _ => false
  | k + 1, g => if (inB d (z k).fst (z k).lst && !mt_ z d k (z k).grp) = true then (if g = (z k).grp then decide (0 < g) else mt_ z d k g) else mt_ z d k g
def okC (z : Nat → PA6) (d : Int) (k : Nat) : Bool := inB d (z k).fst (z k).lst && !mt_ z d k (z k).grp
/-- How many of the first k parts count on day d, and which. -/
def cnN (z : Nat → PA6) (d : Int) : Nat → Nat
  | 0 => 0
  | k + 1 => if okC z d k = true then cnN z d k + 1 else cnN z d k
def cnC (z : Nat → PA6) (d : Int) : Nat → (Nat → PA6)
  | 0 => z
  | k + 1 => if okC z d k = true then (fun j => if j = cnN z d k then z k else cnC z d k j) else cnC z d k
theorem mt_yes {z : Nat → PA6} {d : Int} {k : Nat} {g : Int} (h : okC z d k = true) : mt_ z d (k + 1) g = if g = (z k).grp then decide (0 < g) else mt_ z d k g := by
  show (if _ then _ else _) = _
  rw [if_pos (by unfold okC at h; exact h)]
theorem mt_no {z : Nat → PA6} {d : Int} {k : Nat} {g : Int} (h : okC z d k = false) : mt_ z d (k + 1) g = mt_ z d k g := by
  show (if _ then _ else _) = _
  rw [if_neg (by unfold okC at h; rw [h]; decide)]
theorem cnN_yes {z : Nat → PA6} {d : Int} {k : Nat} (h : okC z d k = true) : cnN z d (k + 1) = cnN z d k + 1 := if_pos h
theorem cnN_no {z : Nat → PA6} {d : Int} {k : Nat} (h : okC z d k = false) : cnN z d (k + 1) = cnN z d k := if_neg (by rw [h]; decide)
theorem cnC_yes {z : Nat → PA6} {d : Int} {k : Nat} (h : okC z d k = true) : cnC z d (k + 1) = (fun j => if j = cnN z d k then z k else cnC z d k j) := if_pos h
theorem cnC_no {z : Nat → PA6} {d : Int} {k : Nat} (h : okC z d k = false) : cnC z d (k + 1) = cnC z d k := if_neg (by rw [h]; decide)
theorem cnN_le (z : Nat → PA6) (d : Int) : ∀ k, cnN z d k ≤ k
  | 0 => Nat.le_refl _
  | k + 1 => by
    have := cnN_le z d k
    cases h : okC z d k
    · rw [cnN_no h]; omega
    · rw [cnN_yes h]; omega
/-- What holds of every part holds of those that count. -/
theorem cnC_all {z : Nat → PA6} {d : Int} {P : PA6 → Prop} : ∀ k, (∀ j, j < k → P (z j)) → ∀ j, j < cnN z d k → P (cnC z d k j)
  | 0, _, j, hj => by simp [cnN] at hj
  | k + 1, h, j, hj => by
    cases g : okC z d k
    · rw [cnN_no g] at hj; rw [cnC_no g]; exact cnC_all k (fun j hj => h j (by omega)) j hj
    · rw [cnN_yes g] at hj; rw [cnC_yes g]
      by_cases e : j = cnN z d k
      · show P (if j = cnN z d k then z k else cnC z d k j)
        rw [if_pos e]; exact h k (by omega)
      · show P (if j = cnN z d k then z k else cnC z d k j)
        rw [if_neg e]; exact cnC_all k (fun j hj => h j (by omega)) j (by omega)
theorem rowPA6_congr {c e : Nat → PA6} : ∀ {n : Nat}, (∀ j, j < n → c j = e j) → rowPA6 c n = rowPA6 e n
  | 0, _ => rfl
  | n + 1, h => by
    show rowPA6 c n ++ _ = rowPA6 e n ++ _
    rw [rowPA6_congr (fun j hj => h j (by omega)), h n (by omega)]
theorem rowPA6_cn {z : Nat → PA6} {d : Int} {k : Nat} (h : okC z d k = true) : rowPA6 (cnC z d (k + 1)) (cnN z d (k + 1)) = rowPA6 (cnC z d k) (cnN z d k) ++ [.int .i64 (z k).item, .int .i64 (z k).qty, .int .i64 (z k).scr, .int .i64 (z k).fst, .int .i64 (z k).lst, .int .i64 (z k).grp] := by
  rw [cnN_yes h, cnC_yes h]
  show rowPA6 _ (cnN z d k) ++ _ = _
  rw [rowPA6_congr (e := cnC z d k) (fun j hj => if_neg (by omega))]
  simp only [if_true, eq_self]
theorem PAr.congr {w : World} {ad : Option Addr} {n : Nat} {c e : Nat → PA6} (H : PAr w ad n c) (h : ∀ j, j < n → c j = e j) : PAr w ad n e := by
  rcases H with h0 | ⟨k, off, e1, hk, hc⟩
  · exact .inl h0
  · exact .inr ⟨k, off, e1, hk, fun j hj => by rw [← h j hj]; exact hc j hj⟩

/-- In how many batches q is made. -/
def bat (q b : Int) : Int := (q + b - 1) / b
theorem bat_bd {q b : Int} (h0 : 0 ≤ q) (hb : 1 ≤ b) : 0 ≤ bat q b ∧ bat q b ≤ q := by
  unfold bat
  refine ⟨Int.ediv_nonneg (by omega) (by omega), ?_⟩
  by_cases h : q = 0
  · subst h; rw [show (0 : Int) + b - 1 = b - 1 by omega, Int.ediv_eq_zero_of_lt (by omega) (by omega)]; exact Int.le_refl _
  · have : (q + b - 1) / b ≤ (q * b) / b := Int.ediv_le_ediv (by omega) (by
      have := Int.mul_le_mul_of_nonneg_right (show (1 : Int) ≤ q by omega) (show 0 ≤ b - 1 by omega)
      have e : q * (b - 1) = q * b - q := (by rw [Int.mul_sub, Int.mul_one])
      omega)
    rwa [Int.mul_ediv_cancel _ (by omega)] at this
theorem bat_up {q b : Int} (h0 : 0 ≤ q) (hb : 1 ≤ b) : bat q b = if 0 < q % b then q / b + 1 else q / b := by
  obtain ⟨a1, a2, a3, a4, a5⟩ := ediv_bd q b h0 hb
  unfold bat
  by_cases h : 0 < q % b
  · rw [if_pos h, show q + b - 1 = (q % b - 1) + (q / b + 1) * b by rw [Int.add_mul, Int.one_mul]; omega, Int.add_mul_ediv_right _ _ (by omega), Int.ediv_eq_zero_of_lt (by omega) (by omega)]
    omega
  · rw [if_neg h, show q + b - 1 = (b - 1) + (q / b) * b by omega, Int.add_mul_ediv_right _ _ (by omega), Int.ediv_eq_zero_of_lt (by omega) (by omega)]
    omega
/-- What of one part is taken for nb batches. -/
def tk (nb : Int) (p : PA6) : Int := mdV (nb * p.qty) (100 + p.scr) 100 6
def exF (f : Nat → Int) (nb : Int) (c : Nat → PA6) : Nat → (Nat → Int)
  | 0 => f
  | k + 1 => upI (exF f nb c k) (c k).item.toNat (exF f nb c k (c k).item.toNat + tk nb (c k))
def stB (f : Nat → Int) (nb : Int) (p : PA6) : Bool := inB (nb * p.qty) 0 1000000 && inB (f p.item.toNat + tk nb p) 0 1000000
/-- Whether every number stays a quantity over k parts. -/
def exB (f : Nat → Int) (nb : Int) (c : Nat → PA6) : Nat → Bool
  | 0 => true
  | k + 1 => exB f nb c k && stB (exF f nb c k) nb (c k)
theorem dv_ceil (p : Int) (h : 0 ≤ p) : dv p 100 6 = (p + 99) / 100 := by
  obtain ⟨a, b⟩ := dv_pos p 100 h (by omega)
  unfold dv
  rw [a, b]
  have hn : decide (p < 0) = false := decide_eq_false (by omega)
  rw [hn]
  unfold rnd fur
  simp only [show ¬ (6 : Int) = 1 by omega, show ¬ (6 : Int) = 2 by omega, show ¬ (6 : Int) = 3 by omega, show ¬ (6 : Int) = 4 by omega, show ¬ (6 : Int) = 5 by omega, if_false, Bool.not_false, Bool.true_and, Bool.false_eq_true]
  by_cases g : 0 < p % 100
  · rw [if_pos (decide_eq_true g)]; omega
  · rw [if_neg (by rw [decide_eq_false g]; decide)]; omega
theorem mdB_le {a n d m : Int} (h : mdB a n d m = true) : -100000000000 ≤ dv (a * n) d m ∧ dv (a * n) d m ≤ 100000000000 := by
  unfold mdB at h
  simp only [Bool.and_eq_true, decide_eq_true_eq] at h
  exact h.2
/-- MulDiv of what is taken: it answers where what all batches take is a quantity, and else tells no less than that. -/
theorem md_tk {nb : Int} {p : PA6} (h0 : 0 ≤ nb * p.qty) (h1 : nb * p.qty ≤ 1000000000000) (hs : 0 ≤ p.scr ∧ p.scr ≤ 100) :
    (nb * p.qty ≤ 1000000 → mdB (nb * p.qty) (100 + p.scr) 100 6 = true) ∧ (mdB (nb * p.qty) (100 + p.scr) 100 6 = true → nb * p.qty ≤ tk nb p) ∧ 0 ≤ tk nb p ∧ tk nb p ≤ 100000000000 := by
  unfold tk
  generalize nb * p.qty = x at h0 h1 ⊢
  have hx : 0 ≤ x * (100 + p.scr) := Int.mul_nonneg h0 (by omega)
  have hge : x * 100 ≤ x * (100 + p.scr) := Int.mul_le_mul_of_nonneg_left (by omega) h0
  have hle : x * (100 + p.scr) ≤ x * 200 := Int.mul_le_mul_of_nonneg_left (by omega) h0
  have hc := dv_ceil _ hx
  refine ⟨fun h => ?_, fun h => ?_, ?_⟩
  · exact (md_in ⟨by omega, by omega, by omega, by omega, by omega, by omega, by omega, by omega⟩ (by rw [hc]; omega) (by rw [hc]; omega)).1
  · unfold mdV; rw [if_pos h, hc]; omega
  · have hv : mdV x (100 + p.scr) 100 6 = if mdB x (100 + p.scr) 100 6 = true then (x * (100 + p.scr) + 99) / 100 else 0 := by unfold mdV; rw [hc]
    rw [hv]
    cases hb : mdB x (100 + p.scr) 100 6
    · simp
    · rw [if_pos rfl]
      have := mdB_le hb
      rw [hc] at this
      omega
/-- What the program and the model do alike with one part. -/
theorem st_prog {f : Nat → Int} {nb : Int} {p : PA6} (h0 : 0 ≤ nb * p.qty) (h1 : nb * p.qty ≤ 1000000000000) (hs : 0 ≤ p.scr ∧ p.scr ≤ 100) (hf : 0 ≤ f p.item.toNat) :
    stB f nb p = (mdB (nb * p.qty) (100 + p.scr) 100 6 && inB (f p.item.toNat + tk nb p) 0 1000000) := by
  obtain ⟨m1, m2, m3, m4⟩ := md_tk h0 h1 hs
  unfold stB
  by_cases g : nb * p.qty ≤ 1000000
  · rw [m1 g, inB_y h0 g]
  · have e : inB (nb * p.qty) 0 1000000 = false := decide_eq_false (fun H => g H.2)
    rw [e]
    cases hb : mdB (nb * p.qty) (100 + p.scr) 100 6
    · rfl
    · have := m2 hb
      have e2 : inB (f p.item.toNat + tk nb p) 0 1000000 = false := decide_eq_false (fun H => by omega)
      rw [e2]; rfl
/-- Quantities. -/
def FQ (f : Nat → Int) : Prop := ∀ j, 0 ≤ f j ∧ f j ≤ 1000000
theorem exF_q {f : Nat → Int} {nb : Int} {c : Nat → PA6} (hf : FQ f) : ∀ k, exB f nb c k = true → FQ (exF f nb c k)
  | 0, _ => hf
  | k + 1, h => fun j => by
    simp only [exB, Bool.and_eq_true] at h
    have ih := exF_q hf k h.1
    show 0 ≤ upI _ _ _ j ∧ upI _ _ _ j ≤ 1000000
    by_cases e : j = (c k).item.toNat
    · subst e
      rw [upI_eq]
      have := h.2
      simp only [stB, Bool.and_eq_true] at this
      exact inB_t this.2
    · rw [upI_ne e]; exact ih j
theorem exB_mono {f : Nat → Int} {nb : Int} {c : Nat → PA6} {k : Nat} : ∀ m, k ≤ m → exB f nb c k = false → exB f nb c m = false
  | 0, h, h1 => by obtain rfl : k = 0 := by omega
                   exact h1
  | m + 1, h, h1 => by
    by_cases e : k = m + 1
    · subst e; exact h1
    · show (exB f nb c m && _) = false
      rw [exB_mono m (by omega) h1]; rfl
/-- An item of c expanded for q on day d, in a list f. -/
def xpB (c : Nat → IT) (d : Int) (f : Nat → Int) (i : Nat) (q : Int) : Bool := inB (bat q (c i).batch * (c i).batch) 0 1000000 && exB f (bat q (c i).batch) (cnC (c i).parz d (c i).parn) (cnN (c i).parz d (c i).parn)
def xpF (c : Nat → IT) (d : Int) (f : Nat → Int) (i : Nat) (q : Int) : Nat → Int := exF f (bat q (c i).batch) (cnC (c i).parz d (c i).parn) (cnN (c i).parz d (c i).parn)
end Go.Proofs.Ytmbdeafpfdeigaa
