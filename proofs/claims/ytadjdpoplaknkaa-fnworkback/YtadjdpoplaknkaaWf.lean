/- Plain facts on the n-th working day and on how many lie between. -/
import Derived.Test.YtadjdpoplaknkaaAs
namespace Go.Proofs.Ytadjdpoplaknkaa
set_option linter.unusedVariables false

theorem wl_mem (wd : Int → Bool) (s : Int) : ∀ f d y, y ∈ wl wd s f d → (0 ≤ y ∧ y ≤ 40000) ∧ wd y = true
  | 0, d, y, h => by simp [wl] at h
  | f + 1, d, y, h => by
    simp only [wl] at h
    split at h
    · rename_i hd
      split at h
      · rename_i hw
        simp only [List.mem_cons] at h
        rcases h with rfl | h
        · exact ⟨hd, hw⟩
        · exact wl_mem wd s f (d + s) y h
      · exact wl_mem wd s f (d + s) y h
    · simp at h

theorem pick_mem {xs : List Int} {n : Int} (h : 0 ≤ pick xs n) : pick xs n ∈ xs := by
  unfold pick at h ⊢
  cases hx : xs[(n - 1).toNat]? with
  | none => rw [hx] at h; simp at h
  | some v => simp only [Option.getD_some]; exact List.mem_of_getElem? hx

theorem up_count (wd : Int → Bool) : ∀ (f : Nat) (d n : Int), far 1 d = f → 1 ≤ n → 0 ≤ pick (wl wd 1 (far 1 d) d) n → d ≤ pick (wl wd 1 (far 1 d) d) n ∧ cnt wd (pick (wl wd 1 (far 1 d) d) n - d + 1).toNat d = n
  | 0, d, n, hf, hn, h => by unfold far at hf; split at hf <;> omega
  | f + 1, d, n, hf, hn, h => by
    by_cases hd : 0 ≤ d ∧ d ≤ 40000
    · have hs := far_step (s := 1) (.inl rfl) hd
      rcases hw : wd d
      · rw [wl_free wd (.inl rfl) hd hw] at h ⊢
        obtain ⟨h1, h2⟩ := up_count wd f (d + 1) n (by omega) hn h
        refine ⟨by omega, ?_⟩
        obtain ⟨e, he⟩ : ∃ e, pick (wl wd 1 (far 1 (d + 1)) (d + 1)) n = e := ⟨_, rfl⟩
        rw [he] at h1 h2 ⊢
        rw [show (e - d + 1).toNat = (e - (d + 1) + 1).toNat + 1 by omega, cnt, h2]; simp [hw]
      · rw [wl_work wd (.inl rfl) hd hw] at h ⊢
        by_cases g : n = 1
        · subst g; rw [pick_one]; refine ⟨Int.le_refl _, ?_⟩
          rw [show (d - d + 1).toNat = 1 by omega]; simp [cnt, hw]
        · rw [pick_more _ _ (by omega)] at h ⊢
          obtain ⟨h1, h2⟩ := up_count wd f (d + 1) (n - 1) (by omega) (by omega) h
          refine ⟨by omega, ?_⟩
          obtain ⟨e, he⟩ : ∃ e, pick (wl wd 1 (far 1 (d + 1)) (d + 1)) (n - 1) = e := ⟨_, rfl⟩
          rw [he] at h1 h2 ⊢
          rw [show (e - d + 1).toNat = (e - (d + 1) + 1).toNat + 1 by omega, cnt, h2]; simp [hw]; omega
    · rw [wl_end _ _ _ hd, pick_nil] at h; omega

theorem down_count (wd : Int → Bool) : ∀ (f : Nat) (d n : Int), far (-1) d = f → 1 ≤ n → 0 ≤ pick (wl wd (-1) (far (-1) d) d) n → pick (wl wd (-1) (far (-1) d) d) n ≤ d ∧ cnt wd (d - pick (wl wd (-1) (far (-1) d) d) n + 1).toNat (pick (wl wd (-1) (far (-1) d) d) n) = n
  | 0, d, n, hf, hn, h => by unfold far at hf; split at hf <;> omega
  | f + 1, d, n, hf, hn, h => by
    by_cases hd : 0 ≤ d ∧ d ≤ 40000
    · have hs := far_step (s := -1) (.inr rfl) hd
      rcases hw : wd d
      · rw [wl_free wd (.inr rfl) hd hw] at h ⊢
        obtain ⟨h1, h2⟩ := down_count wd f (d + -1) n (by omega) hn h
        refine ⟨by omega, ?_⟩
        obtain ⟨e, he⟩ : ∃ e, pick (wl wd (-1) (far (-1) (d + -1)) (d + -1)) n = e := ⟨_, rfl⟩
        rw [he] at h1 h2 ⊢
        rw [show (d - e + 1).toNat = (d + -1 - e + 1).toNat + 1 by omega, cnt_last, h2, show e + ((d + -1 - e + 1).toNat : Int) = d by omega]; simp [hw]
      · rw [wl_work wd (.inr rfl) hd hw] at h ⊢
        by_cases g : n = 1
        · subst g; rw [pick_one]; refine ⟨Int.le_refl _, ?_⟩
          rw [show (d - d + 1).toNat = 1 by omega]; simp [cnt, hw]
        · rw [pick_more _ _ (by omega)] at h ⊢
          obtain ⟨h1, h2⟩ := down_count wd f (d + -1) (n - 1) (by omega) (by omega) h
          refine ⟨by omega, ?_⟩
          obtain ⟨e, he⟩ : ∃ e, pick (wl wd (-1) (far (-1) (d + -1)) (d + -1)) (n - 1) = e := ⟨_, rfl⟩
          rw [he] at h1 h2 ⊢
          rw [show (d - e + 1).toNat = (d + -1 - e + 1).toNat + 1 by omega, cnt_last, h2, show e + ((d + -1 - e + 1).toNat : Int) = d by omega]; simp [hw]
    · rw [wl_end _ _ _ hd, pick_nil] at h; omega

/-- What FnWorkBack asks of a day that AddWork tells. -/
theorem back_facts {off : Int} {len : Nat} {z : Nat → Int} {d n : Int} (h : 0 ≤ addW off len z d n) :
    workV off len z (addW off len z d n) = true ∧ (0 ≤ d ∧ d ≤ 40000) ∧ addW off len z d n ≤ 40000 ∧ (-2000 ≤ n ∧ n ≤ 2000) ∧
    (0 < n → cntV off len z d (addW off len z d n) = n) ∧
    (n < 0 → 0 < addW off len z d n → cntV off len z (addW off len z d n - 1) (d - 1) = -n) ∧
    (n = 0 → d ≤ addW off len z d n) := by
  by_cases c : calB off len z = true ∧ (0 ≤ d ∧ d ≤ 40000) ∧ (-2000 ≤ n ∧ n ≤ 2000)
  · obtain ⟨hc, hd, hn⟩ := c
    have fin : ∀ e, (0 ≤ e ∧ e ≤ 40000) ∧ workB off len z e = true → workV off len z e = true ∧ e ≤ 40000 := fun e g => ⟨by unfold workV; rw [dayB_t g.1, hc, g.2]; rfl, g.1.2⟩
    rcases (by omega : 0 < n ∨ n < 0 ∨ n = 0) with g | g | g
    · have e := addW_up ⟨hc, hd, hn⟩ g
      rw [e] at h ⊢
      have hm := fin _ (wl_mem _ _ _ _ _ (pick_mem h))
      obtain ⟨h1, h2⟩ := up_count (workB off len z) _ (d + 1) n rfl (by omega) h
      obtain ⟨x, hx⟩ : ∃ x, pick (wl (workB off len z) 1 (far 1 (d + 1)) (d + 1)) n = x := ⟨_, rfl⟩
      rw [hx] at h h1 h2 hm ⊢
      refine ⟨hm.1, hd, hm.2, hn, fun _ => ?_, fun g2 => by omega, fun g2 => by omega⟩
      unfold cntV
      rw [if_pos ⟨hc, hd, h, hm.2⟩, if_neg (by omega), show (x - d).toNat = (x - (d + 1) + 1).toNat by omega]; exact h2
    · have e := addW_down ⟨hc, hd, hn⟩ g
      rw [e] at h ⊢
      have hm := fin _ (wl_mem _ _ _ _ _ (pick_mem h))
      obtain ⟨h1, h2⟩ := down_count (workB off len z) _ (d - 1) (-n) rfl (by omega) h
      obtain ⟨x, hx⟩ : ∃ x, pick (wl (workB off len z) (-1) (far (-1) (d - 1)) (d - 1)) (-n) = x := ⟨_, rfl⟩
      rw [hx] at h h1 h2 hm ⊢
      refine ⟨hm.1, hd, hm.2, hn, fun g2 => by omega, fun _ g3 => ?_, fun g2 => by omega⟩
      unfold cntV
      rw [if_pos ⟨hc, by omega, by omega⟩, if_neg (by omega), show (d - 1 - (x - 1)).toNat = (d - 1 - x + 1).toNat by omega, show x - 1 + 1 = x by omega]; exact h2
    · subst g
      have e := addW_zero ⟨hc, hd, hn⟩
      rw [e] at h ⊢
      have hm := fin _ (wl_mem _ _ _ _ _ (pick_mem h))
      have hge := wl_ge _ _ _ _ (pick_mem h)
      exact ⟨hm.1, hd, hm.2, hn, fun g2 => by omega, fun g2 => by omega, fun _ => hge⟩
  · rw [addW_no c] at h; omega

theorem work96 (z : Nat → Int) : workV 96 0 z 2 = true ∧ workV 96 0 z 1 = false := by
  have hA : Asc 0 z := fun j hj => by omega
  have hm : ∀ d, memB 0 z d = false := fun d => memB_f fun ⟨j, h, _⟩ => by omega
  have hc : calB 96 0 z = true := by unfold calB; rw [ascB_t hA]; rfl
  constructor
  · unfold workV workB; rw [hm, hc]; decide
  · unfold workV workB; rw [hm, hc]; decide

end Go.Proofs.Ytadjdpoplaknkaa
