/- The merge of a stable sort, plain: what a rotation leaves, and why two halves that are sorted apart are sorted together. Nothing of the program. -/
namespace Go.Proofs.Ytogolmbgboihdaa
set_option linter.unusedVariables false

/-- f' is f but for the places from a up to b, which are rearranged. -/
def PermOn {α : Type} (a b : Nat) (f f' : Nat → α) : Prop :=
  (∀ i, ¬ (a ≤ i ∧ i < b) → f' i = f i) ∧ ∃ p : Nat → Nat, (∀ i, a ≤ i → i < b → a ≤ p i ∧ p i < b ∧ f' i = f (p i)) ∧ (∀ i j, a ≤ i → i < b → a ≤ j → j < b → p i = p j → i = j)

section
variable {α : Type} {a b c : Nat} {f g h : Nat → α}
theorem PermOn.refl (a b : Nat) (f : Nat → α) : PermOn a b f f := ⟨fun _ _ => rfl, fun i => i, fun i h1 h2 => ⟨h1, h2, rfl⟩, fun i j _ _ _ _ e => e⟩
theorem PermOn.trans (x : PermOn a b f g) (y : PermOn a b g h) : PermOn a b f h := by
  obtain ⟨x1, p, x2, x3⟩ := x
  obtain ⟨y1, q, y2, y3⟩ := y
  refine ⟨fun i hi => (y1 i hi).trans (x1 i hi), fun i => p (q i), fun i h1 h2 => ?_, fun i j h1 h2 h3 h4 e => ?_⟩
  · obtain ⟨u1, u2, u3⟩ := y2 i h1 h2
    obtain ⟨v1, v2, v3⟩ := x2 (q i) u1 u2
    exact ⟨v1, v2, u3.trans v3⟩
  · obtain ⟨u1, u2, _⟩ := y2 i h1 h2
    obtain ⟨v1, v2, _⟩ := y2 j h3 h4
    exact y3 i j h1 h2 h3 h4 (x3 _ _ u1 u2 v1 v2 e)
theorem PermOn.mono {a' b' : Nat} (x : PermOn a b f g) (ha : a' ≤ a) (hb : b ≤ b') : PermOn a' b' f g := by
  obtain ⟨x1, p, x2, x3⟩ := x
  refine ⟨fun i hi => x1 i (fun q => hi ⟨by omega, by omega⟩), fun i => if a ≤ i ∧ i < b then p i else i, fun i h1 h2 => ?_, fun i j h1 h2 h3 h4 e => ?_⟩
  · by_cases q : a ≤ i ∧ i < b
    · obtain ⟨u1, u2, u3⟩ := x2 i q.1 q.2
      simp only [if_pos q]
      exact ⟨by omega, by omega, u3⟩
    · simp only [if_neg q]
      exact ⟨h1, h2, x1 i q⟩
  · simp only at e
    by_cases q : a ≤ i ∧ i < b <;> by_cases r : a ≤ j ∧ j < b
    · rw [if_pos q, if_pos r] at e
      exact x3 i j q.1 q.2 r.1 r.2 e
    · rw [if_pos q, if_neg r] at e
      obtain ⟨u1, u2, _⟩ := x2 i q.1 q.2
      exact absurd ⟨by omega, by omega⟩ r
    · rw [if_neg q, if_pos r] at e
      obtain ⟨u1, u2, _⟩ := x2 j r.1 r.2
      exact absurd ⟨by omega, by omega⟩ q
    · rw [if_neg q, if_neg r] at e; exact e

/-- What the places a up to m and m up to b hold change sides, each in its order. -/
def rot (a m b : Nat) (f : Nat → α) (i : Nat) : α := if a ≤ i ∧ i < a + (b - m) then f (i + (m - a)) else if a + (b - m) ≤ i ∧ i < b then f (i - (b - m)) else f i
theorem rot_lo {m i : Nat} (h1 : a ≤ i) (h2 : i < a + (b - m)) : rot a m b f i = f (i + (m - a)) := if_pos ⟨h1, h2⟩
theorem rot_hi {m i : Nat} (h1 : a + (b - m) ≤ i) (h2 : i < b) : rot a m b f i = f (i - (b - m)) := by unfold rot; rw [if_neg (by omega), if_pos ⟨h1, h2⟩]
theorem rot_out {m i : Nat} (ha : a ≤ m) (hm : m ≤ b) (h : ¬ (a ≤ i ∧ i < b)) : rot a m b f i = f i := by unfold rot; rw [if_neg (by omega), if_neg (by omega)]
theorem rot_perm {m : Nat} (ha : a ≤ m) (hm : m ≤ b) : PermOn a b f (rot a m b f) := by
  refine ⟨fun i hi => rot_out ha hm hi, fun i => if i < a + (b - m) then i + (m - a) else i - (b - m), fun i h1 h2 => ?_, fun i j h1 h2 h3 h4 e => ?_⟩
  · by_cases q : i < a + (b - m)
    · simp only [if_pos q]; exact ⟨by omega, by omega, rot_lo h1 q⟩
    · simp only [if_neg q]; exact ⟨by omega, by omega, rot_hi (by omega) h2⟩
  · simp only at e
    by_cases q : i < a + (b - m) <;> by_cases r : j < a + (b - m)
    · rw [if_pos q, if_pos r] at e; omega
    · rw [if_pos q, if_neg r] at e; omega
    · rw [if_neg q, if_pos r] at e; omega
    · rw [if_neg q, if_neg r] at e; omega
end

section
variable {α : Type} (lt : α → α → Prop)
def SortedOn (f : Nat → α) (a b : Nat) : Prop := ∀ i j, a ≤ i → i < j → j < b → lt (f i) (f j)
variable {lt} {f g h : Nat → α} {a b m : Nat}
theorem SortedOn.sub {a' b' : Nat} (x : SortedOn lt f a b) (h1 : a ≤ a') (h2 : b' ≤ b) : SortedOn lt f a' b' := fun i j p q r => x i j (by omega) q (by omega)
theorem SortedOn.congr (x : SortedOn lt f a b) (e : ∀ i, a ≤ i → i < b → g i = f i) : SortedOn lt g a b := fun i j p q r => by rw [e i p (by omega), e j (by omega) r]; exact x i j p q r

/-- Both halves sorted, and all of the first ahead of all of the second. -/
theorem sorted_join (x : SortedOn lt f a m) (y : SortedOn lt f m b) (z : ∀ i j, a ≤ i → i < m → m ≤ j → j < b → lt (f i) (f j)) : SortedOn lt f a b := fun i j p q r => by
  rcases Nat.lt_or_ge j m with s | s
  · exact x i j p q s
  · rcases Nat.lt_or_ge i m with t | t
    · exact z i j p t s r
    · exact y i j t q r
/-- A rearrangement within each half leaves the first ahead of the second. -/
theorem cross_perm (z : ∀ i j, a ≤ i → i < m → m ≤ j → j < b → lt (f i) (f j)) (x : PermOn a m f g) (y : PermOn m b g h) (ham : a ≤ m) : ∀ i j, a ≤ i → i < m → m ≤ j → j < b → lt (h i) (h j) := by
  intro i j h1 h2 h3 h4
  obtain ⟨x1, p, x2, _⟩ := x
  obtain ⟨y1, q, y2, _⟩ := y
  obtain ⟨u1, u2, u3⟩ := x2 i h1 h2
  obtain ⟨v1, v2, v3⟩ := y2 j h3 h4
  rw [y1 i (by omega), u3, v3, x1 (q j) (by omega)]
  exact z _ _ u1 u2 v1 v2

/-- The step of the merge: 's' parts the first half so that the rotation lays the lesser ones ahead. -/
theorem merge_step (tr : ∀ x y z, lt x y → lt y z → lt x z) {mid s e : Nat} (ham : a ≤ m) (hmb : m ≤ b) (hmid : a ≤ mid ∧ mid ≤ b) (he : s + e = mid + m) (hs1 : a ≤ s) (hs2 : s ≤ m) (he1 : m ≤ e) (he2 : e ≤ b)
    (x : SortedOn lt f a m) (y : SortedOn lt f m b)
    (hl : a < s → e < b → lt (f (s - 1)) (f e)) (hr : s < m → m < e → lt (f (e - 1)) (f s)) :
    SortedOn lt (rot s m e f) a s ∧ SortedOn lt (rot s m e f) s mid ∧ SortedOn lt (rot s m e f) mid e ∧ SortedOn lt (rot s m e f) e b ∧ ∀ i j, a ≤ i → i < mid → mid ≤ j → j < b → lt (rot s m e f i) (rot s m e f j) := by
  have hmd : mid = s + (e - m) := by omega
  have le1 : ∀ i, a ≤ i → i < s → ∀ j, e ≤ j → j < b → lt (f i) (f j) := fun i h1 h2 j h3 h4 => by
    have k := hl (by omega) (by omega)
    have k1 : lt (f i) (f e) := by
      by_cases q : i = s - 1
      · rw [q]; exact k
      · exact tr _ _ _ (x i (s - 1) h1 (by omega) (by omega)) k
    by_cases q : j = e
    · rw [q]; exact k1
    · exact tr _ _ _ k1 (y e j (by omega) (by omega) h4)
  have le2 : ∀ i, m ≤ i → i < e → ∀ j, s ≤ j → j < m → lt (f i) (f j) := fun i h1 h2 j h3 h4 => by
    have k := hr (by omega) (by omega)
    have k1 : lt (f i) (f s) := by
      by_cases q : i = e - 1
      · rw [q]; exact k
      · exact tr _ _ _ (y i (e - 1) h1 (by omega) (by omega)) k
    by_cases q : j = s
    · rw [q]; exact k1
    · exact tr _ _ _ k1 (x s j (by omega) (by omega) h4)
  have out : ∀ i, ¬ (s ≤ i ∧ i < e) → rot s m e f i = f i := fun i hi => rot_out (by omega) (by omega) hi
  have lo : ∀ i, s ≤ i → i < mid → rot s m e f i = f (i + (m - s)) := fun i h1 h2 => rot_lo h1 (by omega)
  have hi : ∀ i, mid ≤ i → i < e → rot s m e f i = f (i - (e - m)) := fun i h1 h2 => rot_hi (by omega) h2
  refine ⟨(x.sub (Nat.le_refl _) hs2).congr (fun i h1 h2 => out i (by omega)), fun i j h1 h2 h3 => ?_, fun i j h1 h2 h3 => ?_, (y.sub he1 (Nat.le_refl _)).congr (fun i h1 h2 => out i (by omega)), fun i j h1 h2 h3 h4 => ?_⟩
  · rw [lo i h1 (by omega), lo j (by omega) h3]; exact y _ _ (by omega) (by omega) (by omega)
  · rw [hi i h1 (by omega), hi j (by omega) h3]; exact x _ _ (by omega) (by omega) (by omega)
  · rcases Nat.lt_or_ge i s with q | q <;> rcases Nat.lt_or_ge j e with r | r
    · rw [out i (by omega), hi j h3 r]; exact x _ _ h1 (by omega) (by omega)
    · rw [out i (by omega), out j (by omega)]; exact le1 i h1 q j r h4
    · rw [lo i q h2, hi j h3 r]; exact le2 _ (by omega) (by omega) _ (by omega) (by omega)
    · rw [lo i q h2, out j (by omega)]; exact y _ _ (by omega) (by omega) h4
end

end Go.Proofs.Ytogolmbgboihdaa
