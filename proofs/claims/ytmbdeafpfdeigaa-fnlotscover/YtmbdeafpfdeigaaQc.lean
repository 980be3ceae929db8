/- The least way: its orders, its marks (plain); part Qc. -/
import Derived.Test.YtmbdeafpfdeigaaQb
namespace Go.Proofs.Ytmbdeafpfdeigaa
set_option linter.unusedVariables false
set_option linter.unusedSimpArgs false
/-- What the least way costs, by its last order. -/
theorem wT_at (S H : Int) (m : Nat → Int) {f : Nat} : ∀ F e, (wT S H m F e).2 = (f : Int) → (wT S H m F e).1 = (wT S H m f f).1 + S + H * kF m f e
  | 0, e, h => by
    have : (wT S H m 0 e).2 = -1 := rfl
    omega
  | F + 1, e, h => by
    by_cases g : m F = 0 ∨ e ≤ F
    · rw [wT_s0 S H g] at h ⊢
      exact wT_at S H m F e h
    · rw [wT_s S H (by omega) (by omega)] at h ⊢
      split at h
      · rename_i g2
        rw [if_pos g2]
        have h9 : ((F : Nat) : Int) = (f : Int) := h
        obtain rfl : F = f := by omega
        rfl
      · rename_i g2
        rw [if_neg g2]
        exact wT_at S H m F e h
theorem wT_mono1 (S H : Int) (m : Nat → Int) {F e : Nat} (h : (wT S H m F e).2 ≠ -1) : (wT S H m (F + 1) e).2 ≠ -1 ∧ (wT S H m (F + 1) e).1 ≤ (wT S H m F e).1 := by
  by_cases g : m F = 0 ∨ e ≤ F
  · rw [wT_s0 S H g]; exact ⟨h, Int.le_refl _⟩
  · rw [wT_s S H (by omega) (by omega)]
    split
    · rename_i g2
      rcases g2 with g2 | g2
      · exact absurd g2 h
      · exact ⟨by show ((F : Nat) : Int) ≠ -1; omega, Int.le_of_lt g2⟩
    · exact ⟨h, Int.le_refl _⟩
theorem wT_mono (S H : Int) (m : Nat → Int) {F e : Nat} (h : (wT S H m F e).2 ≠ -1) : ∀ k, (wT S H m (F + k) e).2 ≠ -1 ∧ (wT S H m (F + k) e).1 ≤ (wT S H m F e).1
  | 0 => ⟨h, Int.le_refl _⟩
  | k + 1 => by
    have ih := wT_mono S H m h k
    have := wT_mono1 S H m ih.1
    exact ⟨this.1, Int.le_trans this.2 ih.2⟩
theorem wT_via (S H : Int) (m : Nat → Int) {F e : Nat} (h : m F ≠ 0) (hf : F < e) : (wT S H m e e).1 ≤ (wT S H m F F).1 + S + H * kF m F e := by
  have a : (wT S H m (F + 1) e).2 ≠ -1 ∧ (wT S H m (F + 1) e).1 ≤ (wT S H m F F).1 + S + H * kF m F e := by
    rw [wT_s S H h hf]
    split
    · exact ⟨by show ((F : Nat) : Int) ≠ -1; omega, Int.le_refl _⟩
    · rename_i g
      exact ⟨fun q => g (.inl q), Int.not_lt.mp fun q => g (.inr q)⟩
  have b := wT_mono S H m a.1 (e - (F + 1))
  rw [show F + 1 + (e - (F + 1)) = e by omega] at b
  exact Int.le_trans b.2 a.2
theorem kF_same {m : Nat → Int} {f e G : Nat} (hG : G ≤ f) : ∀ k, (∀ j, f ≤ j → j < f + k → m j = 0) → kF m G (f + k) = kF m G f
  | 0, _ => rfl
  | k + 1, h => by
    rw [show f + (k + 1) = (f + k) + 1 by omega, kF_s m (by omega), h (f + k) (by omega) (by omega), kF_same (e := e) hG k (fun j h1 h2 => h j h1 (by omega))]
    simp
/-- Where nothing is missing the least way stays. -/
theorem wT_keep (S H : Int) {m : Nat → Int} {f e : Nat} (hfe : f ≤ e) (hz : ∀ j, f ≤ j → j < e → m j = 0) : wT S H m e e = wT S H m f f := by
  have a : ∀ G, G ≤ f → wT S H m G e = wT S H m G f := by
    intro G
    induction G with
    | zero => intro _; rfl
    | succ G ih =>
      intro hG
      have i := ih (by omega)
      have kk : kF m G e = kF m G f := by
        have := kF_same (m := m) (f := f) (e := e) (G := G) (by omega) (e - f) (fun j h1 h2 => hz j h1 (by omega))
        rwa [show f + (e - f) = e by omega] at this
      by_cases g : m G = 0
      · rw [wT_s0 S H (.inl g), wT_s0 S H (.inl g), i]
      · rw [wT_s S H g (by omega), wT_s S H g (by omega), i, kk]
  have b : ∀ k, f + k ≤ e → wT S H m (f + k) e = wT S H m f e := by
    intro k
    induction k with
    | zero => intro _; rfl
    | succ k ih =>
      intro hk
      rw [show f + (k + 1) = (f + k) + 1 by omega, wT_s0 S H (.inl (hz (f + k) (by omega) (by omega))), ih (by omega)]
  have c := b (e - f) (by omega)
  rw [show f + (e - f) = e by omega] at c
  rw [c, a f (Nat.le_refl _)]
theorem left_sum {m o : Nat → Int} {F : Nat} {X : Int} : ∀ k, F ≤ k → (∀ j, F ≤ j → j < k → X ≤ smQ o (j + 1)) → lfS m o F + kF m F k + ((k : Int) - (F : Int)) * (X - smQ m k) ≤ lfS m o k
  | 0, h, _ => by
    obtain rfl : F = 0 := by omega
    rw [kF_z m 0 (by omega)]; simp
  | k + 1, h, hX => by
    by_cases q : F = k + 1
    · subst q
      rw [kF_z m _ (Nat.le_refl _)]; simp
    · have ih := left_sum (m := m) k (by omega) (fun j h1 h2 => hX j h1 (by omega))
      have hx := hX k (by omega) (by omega)
      rw [kF_s m (by omega), lfS_s, smQ_s m]
      unfold lfF
      rw [smQ_s m]
      have e1 : (((k + 1 : Nat) : Int) - (F : Int)) * (X - (smQ m k + m k)) = ((k : Int) - (F : Int)) * (X - smQ m k) - ((k : Int) - (F : Int)) * m k + (X - smQ m k - m k) := by
        rw [show ((k + 1 : Nat) : Int) - (F : Int) = ((k : Int) - (F : Int)) + 1 by omega, Int.add_mul, Int.one_mul, show X - (smQ m k + m k) = (X - smQ m k) - m k by omega, Int.mul_sub]
      rw [e1]
      omega
/-- The sum where just so much is there at each end. -/
theorem left_eq {m o : Nat → Int} {F : Nat} {X : Int} : ∀ k, F ≤ k → (∀ j, F ≤ j → j < k → X = smQ o (j + 1)) → lfS m o F + kF m F k + ((k : Int) - (F : Int)) * (X - smQ m k) = lfS m o k
  | 0, h, _ => by
    obtain rfl : F = 0 := by omega
    rw [kF_z m 0 (by omega)]; simp
  | k + 1, h, hX => by
    by_cases q : F = k + 1
    · subst q
      rw [kF_z m _ (Nat.le_refl _)]; simp
    · have ih := left_eq (m := m) k (by omega) (fun j h1 h2 => hX j h1 (by omega))
      have hx := hX k (by omega) (by omega)
      rw [kF_s m (by omega), lfS_s, smQ_s m]
      unfold lfF
      rw [smQ_s m]
      have e1 : (((k + 1 : Nat) : Int) - (F : Int)) * (X - (smQ m k + m k)) = ((k : Int) - (F : Int)) * (X - smQ m k) - ((k : Int) - (F : Int)) * m k + (X - smQ m k - m k) := by
        rw [show ((k + 1 : Nat) : Int) - (F : Int) = ((k : Int) - (F : Int)) + 1 by omega, Int.add_mul, Int.one_mul, show X - (smQ m k + m k) = (X - smQ m k) - m k by omega, Int.mul_sub]
      rw [e1]
      omega
theorem lfS_mono {m o : Nat → Int} {k : Nat} : ∀ e, k ≤ e → (∀ j, j < e → 0 ≤ lfF m o j) → lfS m o k ≤ lfS m o e
  | 0, h, _ => by obtain rfl : k = 0 := by omega
                  exact Int.le_refl _
  | e + 1, h, g => by
    by_cases q : k = e + 1
    · subst q; exact Int.le_refl _
    · have ih := lfS_mono (m := m) (o := o) (k := k) e (by omega) (fun j hj => g j (by omega))
      have := g e (by omega)
      rw [lfS_s]; omega
theorem ctO_mono {o : Nat → Int} {k : Nat} : ∀ e, k ≤ e → ctO o k ≤ ctO o e
  | 0, h => by obtain rfl : k = 0 := by omega
               exact Int.le_refl _
  | e + 1, h => by
    by_cases q : k = e + 1
    · subst q; exact Int.le_refl _
    · have ih := ctO_mono (o := o) (k := k) e (by omega)
      rw [ctO_s]
      split <;> omega
/-- The last place of something, or nowhere. -/
theorem last_pos (o : Nat → Int) : ∀ e, (∀ j, j < e → ¬ 0 < o j) ∨ ∃ f, f < e ∧ 0 < o f ∧ ∀ j, f < j → j < e → ¬ 0 < o j
  | 0 => .inl fun j hj => by omega
  | e + 1 => by
    by_cases h : 0 < o e
    · exact .inr ⟨e, by omega, h, fun j h1 h2 => by omega⟩
    · rcases last_pos o e with g | ⟨f, g1, g2, g3⟩
      · exact .inl fun j hj => by
          by_cases q : j = e
          · subst q; exact h
          · exact g j (by omega)
      · exact .inr ⟨f, by omega, g2, fun j h1 h2 => by
          by_cases q : j = e
          · subst q; exact h
          · exact g3 j h1 (by omega)⟩
theorem first_nz (m : Nat → Int) (f : Nat) : ∀ k, (∀ j, f ≤ j → j < f + k → m j = 0) ∨ ∃ F, f ≤ F ∧ F < f + k ∧ m F ≠ 0 ∧ ∀ j, f ≤ j → j < F → m j = 0
  | 0 => .inl fun j h1 h2 => by omega
  | k + 1 => by
    rcases first_nz m f k with g | ⟨F, g1, g2, g3, g4⟩
    · by_cases h : m (f + k) = 0
      · exact .inl fun j h1 h2 => by
          by_cases q : j = f + k
          · subst q; exact h
          · exact g j h1 (by omega)
      · exact .inr ⟨f + k, by omega, by omega, h, fun j h1 h2 => g j h1 h2⟩
    · exact .inr ⟨F, g1, by omega, g3, g4⟩
theorem smq_flat {o : Nat → Int} {f : Nat} : ∀ e, f ≤ e → (∀ j, f ≤ j → j < e → o j = 0) → smQ o e = smQ o f
  | 0, h, _ => by obtain rfl : f = 0 := by omega
                  rfl
  | e + 1, h, g => by
    by_cases q : f = e + 1
    · subst q; rfl
    · rw [smQ_s, smq_flat e (by omega) (fun j h1 h2 => g j h1 (by omega)), g e (by omega) (by omega)]; omega
theorem smq_none {m : Nat → Int} : ∀ e, (∀ j, j < e → 0 ≤ m j) → smQ m e ≤ 0 → ∀ j, j < e → m j = 0
  | 0, _, _, j, hj => by omega
  | e + 1, h, g, j, hj => by
    have a := h e (by omega)
    have b : 0 ≤ smQ m e := smq_mono (k := 0) e (by omega) (fun j hj => h j (by omega))
    rw [smQ_s] at g
    by_cases q : j = e
    · subst q; omega
    · exact smq_none e (fun j hj => h j (by omega)) (by omega) j (by omega)
theorem lcV_nn {S H : Int} {m o : Nat → Int} {e : Nat} (hS : 0 ≤ S) (hH : 0 ≤ H) (hc : ∀ j, j < e → 0 ≤ lfF m o j) : 0 ≤ lcV S H m o e := by
  have a := Int.mul_nonneg hH (lfS_nn e hc)
  have b := Int.mul_nonneg hS (ctO_bd o e).1
  unfold lcV; omega
/-- Nothing that covers costs less than the least way. -/
theorem least_le {S H : Int} {m o : Nat → Int} (hS : 0 ≤ S) (hH : 0 ≤ H) : ∀ N e, e ≤ N → (∀ j, j < e → 0 ≤ m j) → (∀ j, j < e → 0 ≤ o j) → (∀ j, j < e → 0 ≤ lfF m o j) → (wT S H m e e).1 ≤ lcV S H m o e
  | 0, e, h, hm, ho, hc => by
    obtain rfl : e = 0 := by omega
    exact lcV_nn hS hH hc
  | N + 1, e, h, hm, ho, hc => by
    rcases last_pos o e with g | ⟨f, f1, f2, f3⟩
    · have so : smQ o e = 0 := smq_flat (f := 0) e (by omega) (fun j _ hj => by have := ho j hj; have := g j hj; omega)
      have sm : smQ m e ≤ 0 := by
        by_cases q : e = 0
        · subst q; exact Int.le_refl _
        · have := hc (e - 1) (by omega)
          unfold lfF at this
          rw [show e - 1 + 1 = e by omega] at this
          omega
      rw [wT_zero S H m e e (fun j hj _ => smq_none e hm sm j hj)]
      exact lcV_nn hS hH hc
    · have ih := least_le (m := m) (o := o) hS hH N f (by omega) (fun j hj => hm j (by omega)) (fun j hj => ho j (by omega)) (fun j hj => hc j (by omega))
      have hflat : ∀ j, f ≤ j → j < e → smQ o (j + 1) = smQ o e := fun j h1 h2 => (smq_flat (f := j + 1) e (by omega) (fun i g1 g2 => by have := ho i g2; have := f3 i (by omega) g2; omega)).symm
      have hend : 0 ≤ smQ o e - smQ m e := by
        have := hc (e - 1) (by omega)
        unfold lfF at this
        rwa [show e - 1 + 1 = e by omega] at this
      have ct : ctO o f + 1 ≤ ctO o e := by
        have a := ctO_mono (o := o) (k := f + 1) e (by omega)
        rw [ctO_s, if_pos f2] at a
        exact a
      have cS : S * ctO o f + S ≤ S * ctO o e := by
        have := Int.mul_le_mul_of_nonneg_left ct hS
        rw [Int.mul_add, Int.mul_one] at this
        exact this
      rcases first_nz m f (e - f) with g | ⟨F, g1, g2, g3, g4⟩
      · rw [wT_keep S H (f := f) (e := e) (by omega) (fun j h1 h2 => g j h1 (by omega))]
        have b := Int.mul_le_mul_of_nonneg_left (lfS_mono (m := m) (o := o) (k := f) e (by omega) hc) hH
        unfold lcV at *
        omega
      · have a := wT_via S H m g3 (e := e) (by omega)
        rw [wT_keep S H (f := f) (e := F) g1 g4] at a
        have b := left_sum (m := m) (o := o) (F := F) (X := smQ o e) e (by omega) (fun j h1 h2 => by rw [hflat j (by omega) h2]; exact Int.le_refl _)
        have b2 := lfS_mono (m := m) (o := o) (k := f) F g1 (fun j hj => hc j (by omega))
        have b3 : 0 ≤ ((e : Int) - (F : Int)) * (smQ o e - smQ m e) := Int.mul_nonneg (by omega) hend
        have b4 : lfS m o f + kF m F e ≤ lfS m o e := by omega
        have b5 := Int.mul_le_mul_of_nonneg_left b4 hH
        rw [Int.mul_add] at b5
        unfold lcV at *
        omega
/-- The least way: it covers just what is missing, and costs what the table tells. -/
theorem least_is {S H : Int} {m : Nat → Int} : ∀ N e, e ≤ N → (∀ j, j < e → 0 ≤ m j) → (∀ j, 0 ≤ orL S H m e j ∧ orL S H m e j ≤ smQ m e) ∧ (∀ j, j < e → 0 ≤ lfF m (orL S H m e) j) ∧ smQ (orL S H m e) e = smQ m e ∧ lcV S H m (orL S H m e) e = (wT S H m e e).1
  | 0, e, h, hm => by
    obtain rfl : e = 0 := by omega
    exact ⟨fun j => by rw [orL_none rfl]; simp [smQ], fun j hj => by omega, rfl, by unfold lcV; simp [lfS, ctO, wT]⟩
  | N + 1, e, h, hm => by
    rcases wT_last S H m e e with g | ⟨f, g1, g2, g3, g4⟩
    · obtain ⟨w1, w2⟩ := wT_none S H m e e g
      have z : ∀ j, orL S H m e j = 0 := orL_none g
      have so : ∀ k, smQ (orL S H m e) k = 0 := fun k => smq_flat (f := 0) k (by omega) (fun j _ _ => z j)
      have sm : ∀ k, k ≤ e → smQ m k = 0 := fun k hk => smq_flat (f := 0) k (by omega) (fun j _ hj => w2 j (by omega) (by omega))
      have lf : ∀ j, j < e → lfF m (orL S H m e) j = 0 := fun j hj => by unfold lfF; rw [so, sm _ (by omega)]; rfl
      have ls : ∀ k, k ≤ e → lfS m (orL S H m e) k = 0 := by
        intro k
        induction k with
        | zero => intro _; rfl
        | succ k ih => intro hk; rw [lfS_s, ih (by omega), lf k (by omega)]; rfl
      have co : ∀ k, ctO (orL S H m e) k = 0 := by
        intro k
        induction k with
        | zero => rfl
        | succ k ih => rw [ctO_s, ih, z k]; rfl
      refine ⟨fun j => by rw [z j, sm e (Nat.le_refl _)]; simp, fun j hj => by rw [lf j hj]; exact Int.le_refl _, by rw [so, sm e (Nat.le_refl _)], ?_⟩
      unfold lcV
      rw [ls e (Nat.le_refl _), co, w1]
      simp
    · obtain ⟨i1, i2, i3, i4⟩ := least_is (S := S) (H := H) (m := m) N f (by omega) (fun j hj => hm j (by omega))
      have os : ∀ j, orL S H m e j = if j = f then smQ m e - smQ m f else orL S H m f j := orL_step g1
      have mf := hm f (by omega)
      have m1 : smQ m (f + 1) ≤ smQ m e := smq_mono (k := f + 1) e (by omega) hm
      have m2 : smQ m f ≤ smQ m e := smq_mono (k := f) e (by omega) hm
      have m0 : 0 ≤ smQ m f := smq_mono (k := 0) f (by omega) (fun j hj => hm j (by omega))
      have lo : ∀ k, k ≤ f → smQ (orL S H m e) k = smQ (orL S H m f) k := fun k hk => smq_congr k (fun j hj => by rw [os, if_neg (by omega)])
      have up : ∀ k, f < k → smQ (orL S H m e) k = smQ m e := by
        intro k hk
        rw [smq_flat (f := f + 1) k (by omega) (fun j h1 h2 => by rw [os, if_neg (by omega)]; exact orL_past S H m f f (Nat.le_refl _) j (by omega)), smQ_s, lo f (Nat.le_refl _), i3, os, if_pos rfl]
        omega
      have cov : ∀ j, j < e → 0 ≤ lfF m (orL S H m e) j := by
        intro j hj
        by_cases q : j < f
        · have := i2 j q
          unfold lfF at this ⊢
          rw [lo (j + 1) (by omega)]; exact this
        · have : smQ m (j + 1) ≤ smQ m e := smq_mono (k := j + 1) e (by omega) hm
          unfold lfF
          rw [up (j + 1) (by omega)]; omega
      refine ⟨fun j => ?_, cov, up e g3, ?_⟩
      · rw [os]
        split
        · omega
        · have := i1 j; omega
      · have c1 : ctO (orL S H m e) e = ctO (orL S H m f) f + 1 := by
          have a : ∀ k, k ≤ f → ctO (orL S H m e) k = ctO (orL S H m f) k := fun k hk => ctO_congr k (fun j hj => by rw [os, if_neg (by omega)])
          have b : ∀ k, ctO (orL S H m e) (f + 1 + k) = ctO (orL S H m f) f + 1 := by
            intro k
            induction k with
            | zero =>
              rw [Nat.add_zero, ctO_s, a f (Nat.le_refl _), os, if_pos rfl, if_pos]
              rw [smQ_s] at m1
              omega
            | succ k ih =>
              have z0 : orL S H m e (f + 1 + k) = 0 := by rw [os, if_neg (by omega)]; exact orL_past S H m f f (Nat.le_refl _) _ (by omega)
              rw [show f + 1 + (k + 1) = (f + 1 + k) + 1 by omega, ctO_s, ih, z0]
              simp
          have := b (e - (f + 1))
          rwa [show f + 1 + (e - (f + 1)) = e by omega] at this
        have l1 : lfS m (orL S H m e) e = lfS m (orL S H m f) f + kF m f e := by
          have a := left_eq (m := m) (o := orL S H m e) (F := f) (X := smQ m e) e (by omega) (fun j h1 h2 => (up (j + 1) (by omega)).symm)
          rw [show lfS m (orL S H m e) f = lfS m (orL S H m f) f from lfS_congr f (fun _ _ => rfl) (fun j hj => by rw [os, if_neg (by omega)])] at a
          rw [← a]; simp
        have w := wT_at S H m e e g1
        unfold lcV at i4 ⊢
        rw [l1, c1, w, ← i4, Int.mul_add, Int.mul_add]
        omega
end Go.Proofs.Ytmbdeafpfdeigaa
