/- The best way up to a bucket, place by place (plain). -/
import Derived.Test.YtmbdeafpfdeigaaQc
namespace Go.Proofs.Ytmbdeafpfdeigaa
set_option linter.unusedVariables false
set_option linter.unusedSimpArgs false
variable {S H : Int} {m : Nat → Int}
/-- What stands is cheaper than by any place ahead of its last order. -/
theorem wT_first : ∀ G e f F, (wT S H m G e).2 = ((f : Nat) : Int) → m F ≠ 0 → F < f → (wT S H m G e).1 < (wT S H m F F).1 + S + H * kF m F e
  | 0, e, f, F, h, _, _ => by
    have : (wT S H m 0 e).2 = -1 := rfl
    omega
  | G + 1, e, f, F, h, hF, hlt => by
    have hfe : f < e := by
      rcases wT_last S H m (G + 1) e with g | ⟨f', g1, g2, g3, g4⟩
      · omega
      · omega
    by_cases g : m G = 0 ∨ e ≤ G
    · rw [wT_s0 S H g] at h ⊢
      exact wT_first G e f F h hF hlt
    · rw [wT_s S H (by omega) (by omega)] at h ⊢
      split at h
      · rename_i g2
        rw [if_pos g2]
        have h9 : ((G : Nat) : Int) = (f : Int) := h
        obtain rfl : G = f := by omega
        have a : (wT S H m (F + 1) e).2 ≠ -1 ∧ (wT S H m (F + 1) e).1 ≤ (wT S H m F F).1 + S + H * kF m F e := by
          rw [wT_s S H hF (by omega)]
          split
          · exact ⟨by show ((F : Nat) : Int) ≠ -1; omega, Int.le_refl _⟩
          · rename_i g
            exact ⟨fun q => g (.inl q), Int.not_lt.mp fun q => g (.inr q)⟩
        have b := wT_mono S H m a.1 (G - (F + 1))
        rw [show F + 1 + (G - (F + 1)) = G by omega] at b
        rcases g2 with g2 | g2
        · exact absurd g2 b.1
        · show (wT S H m G G).1 + S + H * kF m G e < _
          omega
      · rename_i g2
        rw [if_neg g2]
        exact wT_first G e f F h hF hlt
theorem IsCh.le {mk : Nat → Nat} : ∀ {l e}, IsCh S H m l e mk → l ≤ e
  | 0, e, _ => Nat.zero_le _
  | l + 1, e, h => by
    have a := IsCh.lt h l (by omega)
    have b := IsCh.le h.2
    omega
/-- The table that the best way follows. -/
def tT (S H : Int) (m : Nat → Int) (F e : Nat) : Int × Int := if m (e - 1) = 0 then wT S H m e e else wT S H m F e
/-- The best way up to e behind the first F places. -/
def BS (S H : Int) (m : Nat → Int) (F e : Nat) (c : Int) (l : Nat) (mk : Nat → Nat) : Prop :=
  ((tT S H m F e).2 = -1 ∧ l = 0 ∧ c = if m (e - 1) = 0 then 0 else -1) ∨ ∃ f l', (tT S H m F e).2 = ((f : Nat) : Int) ∧ c = (tT S H m F e).1 ∧ l = l' + 1 ∧ mk l' = f ∧ IsCh S H m l' f mk
theorem best_keep {e l : Nat} {mk : Nat → Nat} (he : 1 ≤ e) (h0 : m (e - 1) = 0) (h : IsCh S H m l (e - 1) mk) : BS S H m 0 e (wT S H m (e - 1) (e - 1)).1 l mk := by
  have hk := wT_keep S H (m := m) (f := e - 1) (e := e) (by omega) (fun j h1 h2 => by rw [show j = e - 1 by omega]; exact h0)
  unfold BS tT
  rw [if_pos h0, if_pos h0, hk]
  cases l with
  | zero => exact .inl ⟨h, rfl, by rw [(wT_none S H m (e - 1) (e - 1) h).1]⟩
  | succ l => exact .inr ⟨mk l, l, h.1, rfl, rfl, rfl, h.2⟩
theorem best_new {e : Nat} {mk : Nat → Nat} (h0 : m (e - 1) ≠ 0) : BS S H m 0 e (-1) 0 mk := by
  unfold BS tT
  rw [if_neg h0, if_neg h0]
  exact .inl ⟨rfl, rfl, rfl⟩
theorem best_end {e l : Nat} {c : Int} {mk : Nat → Nat} (he : 1 ≤ e) (h : BS S H m e e c l mk) : c = (wT S H m e e).1 ∧ IsCh S H m l e mk := by
  have ht : tT S H m e e = wT S H m e e := by unfold tT; split <;> rfl
  unfold BS at h
  rw [ht] at h
  rcases h with ⟨h1, rfl, h3⟩ | ⟨f, l', h1, h2, rfl, rfl, h5⟩
  · have hn := wT_none S H m e e h1
    have := hn.2 (e - 1) (by omega) (by omega)
    rw [if_pos this] at h3
    exact ⟨by rw [h3, hn.1], h1⟩
  · exact ⟨h2, h1, h5⟩
theorem tT_skip {F e : Nat} (h0 : m F = 0) : tT S H m (F + 1) e = tT S H m F e := by
  unfold tT
  rw [wT_s0 S H (.inl h0)]
theorem best_skip {F e l : Nat} {c : Int} {mk : Nat → Nat} (h0 : m F = 0) (h : BS S H m F e c l mk) : BS S H m (F + 1) e c l mk := by
  unfold BS at h ⊢
  rw [tT_skip h0]; exact h
theorem best_step {F e l lF : Nat} {c : Int} {mk mF : Nat → Nat} (hF : m F ≠ 0) (hlt : F < e) (hnn : 0 ≤ (wT S H m F e).1) (hnn2 : 0 ≤ (wT S H m e e).1) (h : BS S H m F e c l mk) (hc : IsCh S H m lF F mF) :
    (c < 0 ∧ BS S H m (F + 1) e ((wT S H m F F).1 + S + H * kF m F e) (lF + 1) (fun j => if j = lF then F else mF j)) ∨
    (0 ≤ c ∧ ∃ v, (((wT S H m F F).1 + S + H * kF m F e ≠ c ∧ v = decide ((wT S H m F F).1 + S + H * kF m F e < c)) ∨
        ((wT S H m F F).1 + S + H * kF m F e = c ∧ 0 < lF + 1 ∧ 0 < l ∧ (fun j => if j = lF then F else mF j) (lF + 1 - 1) ≠ mk (l - 1) ∧ v = decide ((fun j => if j = lF then F else mF j) (lF + 1 - 1) < mk (l - 1))) ∨
        ((wT S H m F F).1 + S + H * kF m F e = c ∧ lF + 1 = l ∧ (∀ j, j < lF + 1 → (fun j => if j = lF then F else mF j) j = mk j) ∧ v = false)) ∧
      (v = true → BS S H m (F + 1) e ((wT S H m F F).1 + S + H * kF m F e) (lF + 1) (fun j => if j = lF then F else mF j)) ∧ (v = false → BS S H m (F + 1) e c l mk)) := by
  generalize hV : (wT S H m F F).1 + S + H * kF m F e = V
  by_cases g : m (e - 1) = 0
  · have ht : ∀ G, tT S H m G e = wT S H m e e := fun G => if_pos g
    have hnot : (wT S H m e e).2 ≠ -1 := fun q => hF ((wT_none S H m e e q).2 F hlt hlt)
    have hvia := wT_via S H m hF hlt
    rw [hV] at hvia
    have hst : BS S H m (F + 1) e c l mk := by
      unfold BS at h ⊢
      rw [ht] at h ⊢; exact h
    unfold BS at h
    rw [ht] at h
    rcases h with ⟨h1, _⟩ | ⟨f, l', h1, h2, rfl, rfl, h5⟩
    · exact absurd h1 hnot
    · refine .inr ⟨by omega, false, ?_, fun q => (nomatch q), fun _ => hst⟩
      by_cases q : V = c
      · rcases Nat.lt_trichotomy F (mk l') with q2 | q2 | q2
        · have := wT_first e e (mk l') F h1 hF q2
          rw [hV] at this; omega
        · subst q2
          obtain ⟨i1, i2⟩ := IsCh.same hc h5
          subst i1
          refine .inr (.inr ⟨q, rfl, fun j hj => ?_, rfl⟩)
          show (if j = lF then mk lF else mF j) = mk j
          split
          · rename_i q3; rw [q3]
          · exact i2 j (by omega)
        · refine .inr (.inl ⟨q, by omega, by omega, ?_, ?_⟩)
          · show (if lF + 1 - 1 = lF then F else _) ≠ mk (l' + 1 - 1)
            rw [if_pos (by omega), show l' + 1 - 1 = l' by omega]; omega
          · show false = decide ((if lF + 1 - 1 = lF then F else _) < mk (l' + 1 - 1))
            rw [if_pos (by omega), show l' + 1 - 1 = l' by omega]
            exact (decide_eq_false (by omega)).symm
      · exact .inl ⟨q, (decide_eq_false (by omega)).symm⟩
  · have ht : ∀ G, tT S H m G e = wT S H m G e := fun G => if_neg g
    have hs := wT_s S H hF hlt
    rw [hV] at hs
    have hnew : ((wT S H m F e).2 = -1 ∨ V < (wT S H m F e).1) → BS S H m (F + 1) e V (lF + 1) (fun j => if j = lF then F else mF j) := fun q => by
      rw [if_pos q] at hs
      unfold BS
      rw [ht, hs]
      exact .inr ⟨F, lF, rfl, rfl, rfl, by simp, hc.congr (fun j hj => by simp; omega)⟩
    unfold BS at h
    rw [ht, if_neg g] at h
    rcases h with ⟨h1, h2, h3⟩ | ⟨f, l', h1, h2, rfl, rfl, h5⟩
    · exact .inl ⟨by omega, hnew (.inl h1)⟩
    · have hst : ¬ V < c → BS S H m (F + 1) e c (l' + 1) mk := fun q => by
        rw [if_neg (by omega)] at hs
        unfold BS
        rw [ht, hs]
        exact .inr ⟨mk l', l', h1, h2, rfl, rfl, h5⟩
      have hfF : mk l' < F := by
        rcases wT_last S H m F e with q | ⟨f', q1, q2, _⟩
        · omega
        · omega
      by_cases q : V = c
      · refine .inr ⟨by omega, false, .inr (.inl ⟨q, by omega, by omega, ?_, ?_⟩), fun q => (nomatch q), fun _ => hst (by omega)⟩
        · show (if lF + 1 - 1 = lF then F else _) ≠ mk (l' + 1 - 1)
          rw [if_pos (by omega), show l' + 1 - 1 = l' by omega]; omega
        · show false = decide ((if lF + 1 - 1 = lF then F else _) < mk (l' + 1 - 1))
          rw [if_pos (by omega), show l' + 1 - 1 = l' by omega]
          exact (decide_eq_false (by omega)).symm
      · by_cases q2 : V < c
        · exact .inr ⟨by omega, true, .inl ⟨q, (decide_eq_true q2).symm⟩, fun _ => hnew (.inr (by omega)), fun q => (nomatch q)⟩
        · exact .inr ⟨by omega, false, .inl ⟨q, (decide_eq_false q2).symm⟩, fun q => (nomatch q), fun _ => hst q2⟩
end Go.Proofs.Ytmbdeafpfdeigaa
