/- Needs are no more than what there must be; what there must be is what was asked for and all needs: plain. -/
import Derived.Test.YtmbdeafpfdeigaaLq
namespace Go.Proofs.Ytmbdeafpfdeigaa
open Go.ChangeShapes Go.WideShapes Go.ChangeAt Go.RowKit
set_option linter.unusedVariables false
set_option linter.unusedSimpArgs false

/-- One row is at most the other one, but at i. -/
def Lef (i : Nat) (f g : Nat → Int) : Prop := ∀ j, j ≠ i → f j ≤ g j
/-- Parts with numbers that are right. -/
def CP (p : PA6) : Prop := 1 ≤ p.qty ∧ 0 ≤ p.scr ∧ p.scr ≤ 100
theorem cp_of {n : Nat} {c : Nat → IT} {d : Int} {i : Nat} (hI : isB n c = true) (hi : i < n) : ∀ j, j < cnN (c i).parz d (c i).parn → CP (cnC (c i).parz d (c i).parn j) := by
  obtain ⟨g1, _, _, g4, _⟩ := isB_it hI hi
  exact cnC_all (P := CP) _ (fun j hj => ⟨(g4 j hj).1.2.1.1, (g4 j hj).1.2.2.1.1, (g4 j hj).1.2.2.1.2⟩)
theorem cp_item {n : Nat} {c : Nat → IT} {d : Int} {i : Nat} (hI : isB n c = true) (hi : i < n) : ∀ j, j < cnN (c i).parz d (c i).parn → i < (cnC (c i).parz d (c i).parn j).item.toNat := by
  obtain ⟨g1, _, _, g4, _⟩ := isB_it hI hi
  exact cnC_all (P := fun p => i < p.item.toNat) _ (fun j hj => by have := (g4 j hj).2; show i < ((c i).parz j).item.toNat; omega)
theorem tk_nn {nb : Int} {p : PA6} (h0 : 0 ≤ nb * p.qty) (h1 : nb * p.qty ≤ 1000000) (hs : 0 ≤ p.scr ∧ p.scr ≤ 100) : 0 ≤ tk nb p := (md_tk h0 (by omega) hs).2.2.1
theorem ex_le {i : Nat} {nf ng : Int} {c : Nat → PA6} (hn : nf ≤ ng) : ∀ k, (∀ j, j < k → CP (c j)) → ∀ f g : Nat → Int, Lef i f g → exB f nf c k = true → exB g ng c k = true → Lef i (exF f nf c k) (exF g ng c k)
  | 0, _, _, _, h, _, _ => h
  | k + 1, hc, f, g, h, e1, e2 => fun j hj => by
    simp only [exB, Bool.and_eq_true] at e1 e2
    have ih := ex_le (i := i) hn k (fun j hj => hc j (by omega)) f g h e1.1 e2.1 j hj
    show upI _ _ _ j ≤ upI _ _ _ j
    by_cases e : j = (c k).item.toNat
    · subst e
      rw [upI_eq, upI_eq]
      have s1 := e1.2; have s2 := e2.2
      simp only [stB, Bool.and_eq_true] at s1 s2
      have i1 := inB_t s1.1; have i2 := inB_t s2.1
      obtain ⟨hq, hs0, hs1⟩ := hc k (by omega)
      rw [tk_val i1.1 i1.2 ⟨hs0, hs1⟩, tk_val i2.1 i2.2 ⟨hs0, hs1⟩]
      have m1 : nf * (c k).qty ≤ ng * (c k).qty := Int.mul_le_mul_of_nonneg_right hn (by omega)
      have m2 : nf * (c k).qty * (100 + (c k).scr) ≤ ng * (c k).qty * (100 + (c k).scr) := Int.mul_le_mul_of_nonneg_right m1 (by omega)
      generalize nf * (c k).qty * (100 + (c k).scr) = X at *
      generalize ng * (c k).qty * (100 + (c k).scr) = Y at *
      omega
    · rw [upI_ne e, upI_ne e]; exact ih
/-- An expansion only adds. -/
theorem ex_up {nb : Int} {c : Nat → PA6} : ∀ k, (∀ j, j < k → CP (c j)) → ∀ f : Nat → Int, exB f nb c k = true → ∀ j, f j ≤ exF f nb c k j
  | 0, _, _, _, j => Int.le_refl _
  | k + 1, hc, f, e1, j => by
    simp only [exB, Bool.and_eq_true] at e1
    have ih := ex_up k (fun j hj => hc j (by omega)) f e1.1 j
    show f j ≤ upI _ _ _ j
    by_cases e : j = (c k).item.toNat
    · subst e
      rw [upI_eq]
      have s1 := e1.2
      simp only [stB, Bool.and_eq_true] at s1
      have i1 := inB_t s1.1
      obtain ⟨hq, hs0, hs1⟩ := hc k (by omega)
      have := tk_nn i1.1 i1.2 ⟨hs0, hs1⟩
      omega
    · rw [upI_ne e]; exact ih
theorem xp_le {n : Nat} {c : Nat → IT} {d : Int} {f g : Nat → Int} {i p : Nat} {q1 q : Int} (hI : isB n c = true) (hp : p < n) (h : Lef i f g) (hm : q1 ≤ q) (e1 : xpB c d f p q1 = true) (e2 : xpB c d g p q = true) : Lef i (xpF c d f p q1) (xpF c d g p q) := by
  obtain ⟨g1, _⟩ := isB_it hI hp
  unfold xpB at e1 e2
  simp only [Bool.and_eq_true] at e1 e2
  exact ex_le (bat_mono g1.1 hm) _ (cp_of hI hp) _ _ h e1.2 e2.2
theorem xp_none {c : Nat → IT} {d : Int} {f : Nat → Int} {p : Nat} {q : Int} (h : ¬ 0 < cnN (c p).parz d (c p).parn) : xpF c d f p q = f := by
  unfold xpF
  rw [show cnN (c p).parz d (c p).parn = 0 by omega]; rfl
theorem ep_xp {c : Nat → IT} {d : Int} {f : Nat → Int} {p : Nat} : epS c d f p = xpF c d f p (f p) := by
  unfold epS
  split
  · rfl
  · rename_i h; rw [xp_none h]
theorem le_up {n : Nat} {c : Nat → IT} {d : Int} {g : Nat → Int} {p : Nat} (hI : isB n c = true) (hp : p < n) (h : epO c d g p = true) : ∀ j, g j ≤ epS c d g p j := by
  intro j
  unfold epO at h
  unfold epS
  split
  · rename_i q
    rw [if_pos q] at h
    unfold xpB at h
    simp only [Bool.and_eq_true] at h
    exact ex_up _ (cp_of hI hp) _ h.2 j
  · exact Int.le_refl _
theorem sn_le {n : Nat} {c : Nat → IT} {d : Int} {p i : Nat} (hI : isB n c = true) (hip : i < p) {f g : Nat → Int} (h : Lef i f g) (ff : FQ f) (fg : FQ g) : ∀ k, p + k ≤ n → snB c d p f k = true → epB c d p g k = true → Lef i (snF c d p f k) (epF c d p g k)
  | 0, _, _, _ => h
  | k + 1, hk, e1, e2 => by
    simp only [snB, epB, Bool.and_eq_true] at e1 e2
    have ih := sn_le hI hip h ff fg k (by omega) e1.1 e2.1
    have qf := snF_q ff k e1.1
    have qg := epF_q fg k e2.1
    have s1 := e1.2; have s2 := e2.2
    have up := le_up hI (show p + k < n by omega) s2
    show Lef i (nS c d (snF c d p f k) (p + k)) (epS c d (epF c d p g k) (p + k))
    generalize snF c d p f k = F at *
    generalize epF c d p g k = G at *
    cases hph : (c (p + k)).pha
    · rw [(nS_no (c := c) (d := d) (fun q => by rw [hph] at q; cases q.1)).1]
      exact fun j hj => Int.le_trans (ih j hj) (up j)
    · obtain ⟨x1, y1⟩ := nS_xp (d := d) hI (show p + k < n by omega) qf hph
      rw [x1]
      have l0 : Lef i (upI F (p + k) 0) G := fun j hj => by
        by_cases e : j = p + k
        · subst e; rw [upI_eq]; exact (qg _).1
        · rw [upI_ne e]; exact ih j hj
      by_cases hc : 0 < cnN (c (p + k)).parz d (c (p + k)).parn
      · rw [ep_xp]
        unfold epO at s2
        rw [if_pos hc] at s2
        exact xp_le hI (show p + k < n by omega) l0 (ih (p + k) (by omega)) (y1 ▸ s1) s2
      · rw [xp_none hc]
        exact fun j hj => Int.le_trans (l0 j hj) (up j)
theorem ep_front (c : Nat → IT) (d : Int) (a : Nat) (f : Nat → Int) : ∀ r, epF c d a f (r + 1) = epF c d (a + 1) (epS c d f a) r ∧ epB c d a f (r + 1) = (epO c d f a && epB c d (a + 1) (epS c d f a) r)
  | 0 => ⟨rfl, by show (true && _) = (_ && true); rw [Bool.true_and, Bool.and_true]; rfl⟩
  | r + 1 => by
    obtain ⟨e1, e2⟩ := ep_front c d a f r
    refine ⟨?_, ?_⟩
    · show epS c d (epF c d a f (r + 1)) (a + (r + 1)) = epS c d (epF c d (a + 1) (epS c d f a) r) (a + 1 + r)
      rw [e1, show a + (r + 1) = a + 1 + r by omega]
    · show (epB c d a f (r + 1) && epO c d (epF c d a f (r + 1)) (a + (r + 1))) = (epO c d f a && (epB c d (a + 1) (epS c d f a) r && epO c d (epF c d (a + 1) (epS c d f a) r) (a + 1 + r)))
      rw [e1, e2, show a + (r + 1) = a + 1 + r by omega, Bool.and_assoc]
/-- Needs are no more than what there must be. -/
theorem ne_eo {n : Nat} {c : Nat → IT} {d : Int} {i : Nat} {q : Int} (hI : isB n c = true) (hi : i < n) (h0 : 0 ≤ q) (h1 : q ≤ 1000000) (e1 : neB n c d i q = true) (e2 : eoB n c d i q = true) : ∀ j, j ≠ i → neF n c d i q j ≤ eoF n c d i q j := by
  unfold neB at e1
  unfold neF
  rw [(nd_sn c d _ _ _).2, Bool.and_eq_true] at e1
  rw [(nd_sn c d _ _ _).1]
  unfold eoB at e2
  unfold eoF
  have en : n - i = (n - (i + 1)) + 1 := by omega
  rw [en, (ep_front c d i _ _).2, Bool.and_eq_true] at e2
  rw [en, (ep_front c d i _ _).1]
  have fq : FQ (upI z0 i q) := z0_q.up i h0 h1
  have l0 : Lef i z0 (upI z0 i q) := fun j hj => by rw [upI_ne hj]; exact Int.le_refl _
  have l1 : Lef i (xpF c d z0 i q) (epS c d (upI z0 i q) i) := by
    by_cases hc : 0 < cnN (c i).parz d (c i).parn
    · have s2 := e2.1
      unfold epO at s2
      rw [if_pos hc] at s2
      rw [ep_xp]
      rw [upI_eq] at s2 ⊢
      exact xp_le hI hi l0 (Int.le_refl _) e1.1 s2
    · rw [xp_none hc, ep_xp, xp_none hc]; exact l0
  have fe : FQ (epS c d (upI z0 i q) i) := by
    have := epF_q (c := c) (d := d) (a := i) fq 1 (by simp only [epB, Bool.true_and]; exact e2.1)
    exact this
  exact sn_le hI (Nat.lt_succ_self i) l1 (xpF_q (n := 0) z0_q e1.1) fe _ (by omega) e1.2 e2.2
/-- What is added hangs on no row. -/
theorem ex_add (f : Nat → Int) (nb : Int) (c : Nat → PA6) (j : Nat) : ∀ k, exF f nb c k j = f j + exF z0 nb c k j
  | 0 => by show f j = f j + 0; omega
  | k + 1 => by
    show upI _ _ _ j = f j + upI _ _ _ j
    have ih := ex_add f nb c j k
    by_cases e : j = (c k).item.toNat
    · subst e; rw [upI_eq, upI_eq, ih]; omega
    · rw [upI_ne e, upI_ne e, ih]
theorem xp_add (c : Nat → IT) (d : Int) (f : Nat → Int) (i : Nat) (q : Int) (j : Nat) : xpF c d f i q j = f j + xpF c d z0 i q j := ex_add f _ _ j _
theorem ex_low {nb : Int} {c : Nat → PA6} {f : Nat → Int} {j : Nat} : ∀ k, (∀ r, r < k → j < (c r).item.toNat) → exF f nb c k j = f j
  | 0, _ => rfl
  | k + 1, h => by
    show upI _ _ _ j = _
    rw [upI_ne (by have := h k (by omega); omega), ex_low k (fun r hr => h r (by omega))]
theorem xp_low {n : Nat} {c : Nat → IT} {d : Int} {f : Nat → Int} {p : Nat} {q : Int} {j : Nat} (hI : isB n c = true) (hp : p < n) (hj : j ≤ p) : xpF c d f p q j = f j :=
  ex_low _ (fun r hr => by have := cp_item (d := d) hI hp r hr; omega)
/-- What the first k take together of j, when there must be E of each. -/
def tkS (c : Nat → IT) (d : Int) (E : Nat → Int) (j : Nat) : Nat → Int
  | 0 => 0
  | k + 1 => tkS c d E j k + xpF c d z0 k (E k) j
theorem tkS_low {n : Nat} {c : Nat → IT} {d : Int} {E : Nat → Int} {i j : Nat} (hI : isB n c = true) (hE : ∀ p, p < i → E p = 0) : ∀ k, k ≤ i → k ≤ n → tkS c d E j k = 0
  | 0, _, _ => rfl
  | k + 1, h, hn => by
    show tkS c d E j k + _ = 0
    rw [tkS_low hI hE k (by omega) (by omega), hE k (by omega), (xp_zero (d := d) hI (show k < n by omega) z0_q).1]
    rfl
/-- Behind its own step a place keeps what it has. -/
theorem ep_late {n : Nat} {c : Nat → IT} {d : Int} {a : Nat} {f : Nat → Int} {j : Nat} (hI : isB n c = true) {k : Nat} (hj : j ≤ a + k) : ∀ m, k ≤ m → a + m ≤ n → epF c d a f m j = epF c d a f k j
  | 0, h, _ => by obtain rfl : k = 0 := by omega
                  rfl
  | m + 1, h, hn => by
    by_cases e : k = m + 1
    · subst e; rfl
    · show epS c d (epF c d a f m) (a + m) j = _
      rw [ep_xp, xp_low hI (show a + m < n by omega) (by omega), ep_late hI hj m (by omega) (by omega)]
theorem ep_low {n : Nat} {c : Nat → IT} {d : Int} {a : Nat} {f : Nat → Int} {j : Nat} (hI : isB n c = true) (hj : j < a) (m : Nat) (hm : a + m ≤ n) : epF c d a f m j = f j :=
  (ep_late (k := 0) hI (show j ≤ a + 0 by omega) m (by omega) hm)
/-- What there must be of each is what was asked for and what all take. -/
theorem eo_sum {n : Nat} {c : Nat → IT} {d : Int} {i : Nat} {q : Int} (hI : isB n c = true) (hi : i < n) (j : Nat) : eoF n c d i q j = upI z0 i q j + tkS c d (eoF n c d i q) j n := by
  have hlow : ∀ p, p < i → eoF n c d i q p = 0 := fun p hp => by
    unfold eoF
    rw [ep_low hI hp _ (by omega), upI_ne (by omega)]; rfl
  have key : ∀ k, i + k ≤ n → epF c d i (upI z0 i q) k j = upI z0 i q j + tkS c d (eoF n c d i q) j (i + k) := by
    intro k
    induction k with
    | zero => intro _; rw [Nat.add_zero, tkS_low hI hlow i (Nat.le_refl _) (by omega)]; show upI z0 i q j = _; omega
    | succ k ih =>
      intro hk
      have own : eoF n c d i q (i + k) = epF c d i (upI z0 i q) k (i + k) := ep_late hI (Nat.le_refl _) (n - i) (by omega) (by omega)
      show epS c d (epF c d i (upI z0 i q) k) (i + k) j = _ + (tkS c d (eoF n c d i q) j (i + k) + xpF c d z0 (i + k) (eoF n c d i q (i + k)) j)
      rw [ep_xp, xp_add, ih (by omega), own]
      omega
  have := key (n - i) (by omega)
  rw [show i + (n - i) = n by omega] at this
  exact this
/-- Without phantoms needs are one expansion. -/
theorem ne_plain {n : Nat} {c : Nat → IT} {d : Int} {i : Nat} {q : Int} (hp : ∀ j, j < n → (c j).pha = false) : neF n c d i q = xpF c d z0 i q ∧ neB n c d i q = xpB c d z0 i q := by
  have a : ∀ r p (f : Nat → Int), p + r ≤ n → ndF c d r p f = f ∧ ndB c d r p f = true := by
    intro r
    induction r with
    | zero => intro p f _; exact ⟨rfl, rfl⟩
    | succ r ih =>
      intro p f h
      obtain ⟨y1, y2⟩ := nS_no (c := c) (d := d) (f := f) (i := p) (fun q => by rw [hp p (by omega)] at q; cases q.1)
      show ndF c d r (p + 1) (nS c d f p) = f ∧ (nO c d f p && ndB c d r (p + 1) (nS c d f p)) = true
      rw [y1, y2]
      have := ih (p + 1) f (by omega)
      exact ⟨this.1, by rw [this.2]; rfl⟩
  by_cases h : i < n
  · have := a (n - (i + 1)) (i + 1) (xpF c d z0 i q) (by omega)
    unfold neF neB
    exact ⟨this.1, by rw [this.2, Bool.and_true]⟩
  · unfold neF neB
    rw [show n - (i + 1) = 0 by omega]
    exact ⟨rfl, by show (_ && true) = _; rw [Bool.and_true]⟩
end Go.Proofs.Ytmbdeafpfdeigaa
