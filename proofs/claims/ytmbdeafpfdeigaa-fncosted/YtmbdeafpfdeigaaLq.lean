/- Needs of two quantities are together at least those of both, and none less than those of one: plain. -/
import Derived.Test.YtmbdeafpfdeigaaKl
namespace Go.Proofs.Ytmbdeafpfdeigaa
open Go.ChangeShapes Go.WideShapes Go.ChangeAt Go.RowKit
set_option linter.unusedVariables false
set_option linter.unusedSimpArgs false

theorem bat_ge {q b : Int} (hb : 1 ≤ b) : q ≤ bat q b * b := by
  have h := Int.lt_ediv_add_one_mul_self (q + b - 1) (show 0 < b by omega)
  unfold bat
  rw [Int.add_mul, Int.one_mul] at h
  omega
theorem bat_sub {q q1 q2 b : Int} (hb : 1 ≤ b) (h : q ≤ q1 + q2) : bat q b ≤ bat q1 b + bat q2 b := by
  have h1 := bat_ge (q := q1) hb
  have h2 := bat_ge (q := q2) hb
  have h3 : bat q b < bat q1 b + bat q2 b + 1 := by
    show (q + b - 1) / b < _
    refine Int.ediv_lt_of_lt_mul (by omega) ?_
    rw [Int.add_mul, Int.add_mul, Int.one_mul]
    omega
  omega
theorem bat_mono {q1 q b : Int} (hb : 1 ≤ b) (h : q1 ≤ q) : bat q1 b ≤ bat q b := Int.ediv_le_ediv (by omega) (by omega)
theorem tk_val {nb : Int} {p : PA6} (h0 : 0 ≤ nb * p.qty) (h1 : nb * p.qty ≤ 1000000) (hs : 0 ≤ p.scr ∧ p.scr ≤ 100) : tk nb p = (nb * p.qty * (100 + p.scr) + 99) / 100 := by
  obtain ⟨m1, _, _, _⟩ := md_tk h0 (by omega) hs
  unfold tk mdV
  rw [if_pos (m1 h1), dv_ceil _ (Int.mul_nonneg h0 (by omega))]
/-- Three rows of numbers: the first is at most the two others together, and at least the second. -/
def Hv (f a b : Nat → Int) : Prop := ∀ j, f j ≤ a j + b j ∧ a j ≤ f j
theorem ex_hv {nf na nb : Int} {c : Nat → PA6} (hn : nf ≤ na + nb) (hm : na ≤ nf) (h0 : 0 ≤ na) (h1 : 0 ≤ nb) : ∀ k, (∀ j, j < k → 0 ≤ (c j).qty ∧ 0 ≤ (c j).scr ∧ (c j).scr ≤ 100) → ∀ f a b : Nat → Int, Hv f a b → exB f nf c k = true → exB a na c k = true → exB b nb c k = true → Hv (exF f nf c k) (exF a na c k) (exF b nb c k)
  | 0, _, _, _, _, h, _, _, _ => h
  | k + 1, hc, f, a, b, h, e1, e2, e3 => fun j => by
    simp only [exB, Bool.and_eq_true] at e1 e2 e3
    have ih := ex_hv hn hm h0 h1 k (fun j hj => hc j (by omega)) f a b h e1.1 e2.1 e3.1
    show upI _ _ _ j ≤ upI _ _ _ j + upI _ _ _ j ∧ upI _ _ _ j ≤ upI _ _ _ j
    by_cases e : j = (c k).item.toNat
    · subst e
      rw [upI_eq, upI_eq, upI_eq]
      have g := ih (c k).item.toNat
      have s1 := e1.2; have s2 := e2.2; have s3 := e3.2
      simp only [stB, Bool.and_eq_true] at s1 s2 s3
      have i1 := inB_t s1.1; have i2 := inB_t s2.1; have i3 := inB_t s3.1
      obtain ⟨hq, hs0, hs1⟩ := hc k (by omega)
      rw [tk_val i1.1 i1.2 ⟨hs0, hs1⟩, tk_val i2.1 i2.2 ⟨hs0, hs1⟩, tk_val i3.1 i3.2 ⟨hs0, hs1⟩]
      have m1 : nf * (c k).qty ≤ na * (c k).qty + nb * (c k).qty := by rw [← Int.add_mul]; exact Int.mul_le_mul_of_nonneg_right hn hq
      have m2 : na * (c k).qty ≤ nf * (c k).qty := Int.mul_le_mul_of_nonneg_right hm hq
      have m3 : nf * (c k).qty * (100 + (c k).scr) ≤ na * (c k).qty * (100 + (c k).scr) + nb * (c k).qty * (100 + (c k).scr) := by rw [← Int.add_mul]; exact Int.mul_le_mul_of_nonneg_right m1 (by omega)
      have m4 : na * (c k).qty * (100 + (c k).scr) ≤ nf * (c k).qty * (100 + (c k).scr) := Int.mul_le_mul_of_nonneg_right m2 (by omega)
      generalize nf * (c k).qty * (100 + (c k).scr) = X at *
      generalize na * (c k).qty * (100 + (c k).scr) = Y at *
      generalize nb * (c k).qty * (100 + (c k).scr) = Z at *
      omega
    · rw [upI_ne e, upI_ne e, upI_ne e]; exact ih j
theorem xp_hv {n : Nat} {c : Nat → IT} {d : Int} {f a b : Nat → Int} {i : Nat} {q q1 q2 : Int} (hI : isB n c = true) (hi : i < n) (h : Hv f a b) (hq : q ≤ q1 + q2) (hm : q1 ≤ q) (h1 : 0 ≤ q1) (h2 : 0 ≤ q2) (e1 : xpB c d f i q = true) (e2 : xpB c d a i q1 = true) (e3 : xpB c d b i q2 = true) : Hv (xpF c d f i q) (xpF c d a i q1) (xpF c d b i q2) := by
  obtain ⟨g1, _, _, g4, _⟩ := isB_it hI hi
  unfold xpB at e1 e2 e3
  simp only [Bool.and_eq_true] at e1 e2 e3
  unfold xpF
  exact ex_hv (bat_sub g1.1 hq) (bat_mono g1.1 hm) (bat_bd h1 g1.1).1 (bat_bd h2 g1.1).1 _ (cnC_all (P := fun p => 0 ≤ p.qty ∧ 0 ≤ p.scr ∧ p.scr ≤ 100) _ (fun j hj => ⟨by have := (g4 j hj).1.2.1; omega, (g4 j hj).1.2.2.1.1, (g4 j hj).1.2.2.1.2⟩)) _ _ _ h e1.2 e2.2 e3.2
theorem upI_same {f : Nat → Int} {p : Nat} (h : f p = 0) : upI f p 0 = f := by
  funext j
  by_cases e : j = p
  · subst e; rw [upI_eq, h]
  · exact upI_ne e
/-- Passing by a phantom is one expansion, be there any of it or not. -/
theorem nS_xp {n : Nat} {c : Nat → IT} {d : Int} {f : Nat → Int} {p : Nat} (hI : isB n c = true) (hp : p < n) (hf : FQ f) (h : (c p).pha = true) : nS c d f p = xpF c d (upI f p 0) p (f p) ∧ nO c d f p = xpB c d (upI f p 0) p (f p) := by
  by_cases g : 0 < f p
  · exact nS_yes ⟨h, g⟩
  · have g0 : f p = 0 := by have := hf p; omega
    obtain ⟨y1, y2⟩ := nS_no (c := c) (d := d) (f := f) (i := p) (fun q => g q.2)
    obtain ⟨x1, x2⟩ := xp_zero (d := d) hI hp hf
    rw [y1, y2, upI_same g0, g0, x1, x2]
    exact ⟨rfl, rfl⟩
theorem sn_hv {n : Nat} {c : Nat → IT} {d : Int} {p : Nat} (hI : isB n c = true) {f a b : Nat → Int} (h : Hv f a b) (ff : FQ f) (fa : FQ a) (fb : FQ b) : ∀ k, p + k ≤ n → snB c d p f k = true → snB c d p a k = true → snB c d p b k = true → Hv (snF c d p f k) (snF c d p a k) (snF c d p b k)
  | 0, _, _, _, _ => h
  | k + 1, hk, e1, e2, e3 => by
    simp only [snB, Bool.and_eq_true] at e1 e2 e3
    have ih := sn_hv hI h ff fa fb k (by omega) e1.1 e2.1 e3.1
    have qf := snF_q ff k e1.1
    have qa := snF_q fa k e2.1
    have qb := snF_q fb k e3.1
    have s1 := e1.2; have s2 := e2.2; have s3 := e3.2
    show Hv (nS c d (snF c d p f k) (p + k)) (nS c d (snF c d p a k) (p + k)) (nS c d (snF c d p b k) (p + k))
    generalize snF c d p f k = F at *
    generalize snF c d p a k = A at *
    generalize snF c d p b k = B at *
    cases hph : (c (p + k)).pha
    · rw [(nS_no (c := c) (d := d) (fun q => by rw [hph] at q; cases q.1)).1, (nS_no (c := c) (d := d) (fun q => by rw [hph] at q; cases q.1)).1, (nS_no (c := c) (d := d) (fun q => by rw [hph] at q; cases q.1)).1]
      exact ih
    · obtain ⟨x1, y1⟩ := nS_xp (d := d) hI (show p + k < n by omega) qf hph
      obtain ⟨x2, y2⟩ := nS_xp (d := d) hI (show p + k < n by omega) qa hph
      obtain ⟨x3, y3⟩ := nS_xp (d := d) hI (show p + k < n by omega) qb hph
      rw [x1, x2, x3]
      refine xp_hv hI (show p + k < n by omega) (fun j => ?_) (ih (p + k)).1 (ih (p + k)).2 (qa (p + k)).1 (qb (p + k)).1 (y1 ▸ s1) (y2 ▸ s2) (y3 ▸ s3)
      by_cases e : j = p + k
      · subst e; rw [upI_eq, upI_eq, upI_eq]; omega
      · rw [upI_ne e, upI_ne e, upI_ne e]; exact ih j
theorem ne_halves {n : Nat} {c : Nat → IT} {d : Int} {i : Nat} {q q1 q2 : Int} (hI : isB n c = true) (hi : i < n) (hq : q ≤ q1 + q2) (hm : q1 ≤ q) (h1 : 0 ≤ q1) (h2 : 0 ≤ q2) (e1 : neB n c d i q = true) (e2 : neB n c d i q1 = true) (e3 : neB n c d i q2 = true) : Hv (neF n c d i q) (neF n c d i q1) (neF n c d i q2) := by
  unfold neB at e1 e2 e3
  unfold neF
  rw [(nd_sn c d _ _ _).2, Bool.and_eq_true] at e1 e2 e3
  rw [(nd_sn c d _ _ _).1, (nd_sn c d _ _ _).1, (nd_sn c d _ _ _).1]
  exact sn_hv hI (xp_hv hI hi (fun j => ⟨by show (0 : Int) ≤ 0 + 0; omega, Int.le_refl _⟩) hq hm h1 h2 e1.1 e2.1 e3.1) (xpF_q (n := 0) z0_q e1.1) (xpF_q (n := 0) z0_q e2.1) (xpF_q (n := 0) z0_q e3.1) _ (by omega) e1.2 e2.2 e3.2
end Go.Proofs.Ytmbdeafpfdeigaa
