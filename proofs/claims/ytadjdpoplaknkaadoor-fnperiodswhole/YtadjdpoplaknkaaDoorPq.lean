/- The contract of the model's Periods, which appends one by one. -/
import Derived.Test.YtadjdpoplaknkaaDoorPi
import Derived.OwnWalk
import Derived.Laws.OwnMore
namespace Go.Proofs.YtadjdpoplaknkaaDoor
open Go.ChangeShapes Go.WideShapes Go.ChangeAt Go.RowKit
set_option linter.unusedVariables false
set_option linter.unusedSimpArgs false

/-- The cells of so many pairs. -/
def flatP (x y : Nat → Int) : Nat → List Value
  | 0 => []
  | n + 1 => flatP x y n ++ [.int .i64 (x n), .int .i64 (y n)]

theorem flatP_len (x y : Nat → Int) : ∀ n, (flatP x y n).length = n * 2
  | 0 => rfl
  | n + 1 => by simp [flatP, flatP_len x y n]; omega

theorem flatP_at (x y : Nat → Int) : ∀ n j, j < n → (flatP x y n)[j * 2]? = some (.int .i64 (x j)) ∧ (flatP x y n)[j * 2 + 1]? = some (.int .i64 (y j))
  | 0, j, h => by omega
  | n + 1, j, h => by
    have hl := flatP_len x y n
    by_cases e : j = n
    · subst e
      constructor
      · simp only [flatP]; rw [List.getElem?_append_right (by omega), hl, Nat.sub_self]; rfl
      · simp only [flatP]; rw [List.getElem?_append_right (by omega), hl, show j * 2 + 1 - j * 2 = 1 by omega]; rfl
    · have := flatP_at x y n j (by omega)
      constructor
      · simp only [flatP]; rw [List.getElem?_append_left (by omega)]; exact this.1
      · simp only [flatP]; rw [List.getElem?_append_left (by omega)]; exact this.2

theorem info38 : (Tryd.prog.info? 38).map (fun i => (i.zero, i.size, i.bytes)) = some (some (.agg #[.int .i64 0, .int .i64 0]), 2, 16) := by kernel_rfl

theorem own_zero {w : World} {B b : Nat} {x y : Nat → Int} (h : CB w b #[] 38) (hb : B ≤ b := by simp) : Hid (w.ownsRow B 38 2 (.slice (some ⟨b, 0, none⟩) 0 0) 0 (flatP x y 0)) :=
  ⟨rfl, .inr ⟨b, 0, #[], rfl, hb, h, Nat.le_refl _, Nat.zero_le _, rfl, rfl⟩⟩

theorem own_next {w : World} {B k : Nat} {v : Value} {x y : Nat → Int} {F L : Int} (h : w.ownsRow B 38 2 v (k + 1) (flatP x y k ++ [.int .i64 F, .int .i64 L])) (hF : x k = F) (hL : y k = L) : w.ownsRow B 38 2 v (k + 1) (flatP x y (k + 1)) := by
  subst hF hL; exact h

theorem _root_.Go.World.ownsRow.of_below {w w' : World} {B : Nat} {e : TypeId} {s n : Nat} {v : Value} {xs : List Value} (h : w.ownsRow B e s v n xs) (b : Below w.heap.size w w') : Hid (w'.ownsRow B e s v n xs) := by
  obtain ⟨h1, h2 | ⟨g, cap, cur, hv, hb, hh, h3⟩⟩ := h
  · exact ⟨h1, .inl h2⟩
  · exact ⟨h1, .inr ⟨g, cap, cur, hv, hb, by rw [b.block g (lt_of_block hh)]; exact hh, h3⟩⟩

theorem pers_own {w w' : World} {kind first : Int} {n : Nat} {v : Value} (h : w'.ownsRow w.heap.size 38 2 v n (flatP (fst kind first) (lst kind first) n)) (hp : perOk kind first (n : Int)) : Pers kind first (n : Int) v w w' := by
  have hn := hp.2.1.1
  obtain ⟨h1, ⟨_, h0⟩ | ⟨g, cap, cur, hv, hb, hh, h3, h4, h5, h6⟩⟩ := h
  · omega
  · refine .inl ⟨hp, g, n, cap, cur, rfl, hv, hb, hh, by omega, fun j hj => ?_⟩
    have hf := flatP_at (fst kind first) (lst kind first) n j hj
    rw [← h6] at hf
    rw [List.getElem?_take_of_lt (by omega), List.getElem?_take_of_lt (by omega)] at hf
    simpa using hf

set_option maxHeartbeats 4000000 in
theorem specPeriods_k3 (first : Int) (n : Nat) (w : World) (f0 : 0 ≤ first) (f1 : first ≤ 40000) (c0 : 1 ≤ (n : Int)) (c1 : (n : Int) ≤ 60) :
    Calls Tryd.prog 22 #[.int .i64 3, .int .i64 first, .int .i64 (n : Int)] w fun e w' => ∃ v, e = .returned v ∧ Pers 3 first (n : Int) v w w' ∧ Below w.heap.size w w' := by
  obtain ⟨kind, hkind⟩ : ∃ kind : Int, kind = 3 := ⟨_, rfl⟩
  have HK : Hid (kind = 3) := hkind
  rw [← hkind]
  have b1 : (kind == 1) = false := by simp [hkind]
  have b2 : (kind == 2) = false := by simp [hkind]
  have db := dayB_t ⟨f0, f1⟩
  have i1 : inB kind 1 3 = true := inB_t (by omega)
  have i2 := inB_t ⟨c0, c1⟩
  obtain ⟨i0, hi, hz0, hz1, hz2⟩ := info_parts info38
  clear hkind
  go_enter Tryd.func22, Tryd.ntmps22
  go_wp2_with (first
    | (go_at_call 44; refine (l1In_eq _ _ _ _ _ (by assumption)).mono ?_; rintro e w' ⟨rfl, ew⟩; replace ew := ew.symm; subst ew)
    | (go_at_call 43; refine (l2Day_any _ _).mono ?_; rintro e w' ⟨rfl, ew⟩; replace ew := ew.symm; subst ew; rw [db]))
  go_loopw [1, 7, 8] (fun f v i wr => ∃ (k : Nat) (F : Int), k ≤ n ∧ f = .int .i64 F ∧ Hid (F = fst kind first k) ∧ i = .int .i64 (k : Int) ∧ Hid (wr.ownsRow w.heap.size 38 2 v k (flatP (fst kind first) (lst kind first) k)) ∧ Hid (∀ j, j < k → 0 ≤ lst kind first j) ∧ Below w.heap.size w wr) (fun _ _ i _ => n - (intOf i).toNat)
  case atStart => exact ⟨0, first, Nat.zero_le _, rfl, rfl, rfl, own_zero (CB.new _ _), fun j hj => by omega, (Below.refl _ _).alloc (Nat.le_refl _) _⟩
  case round =>
    obtain ⟨k, F, hk, rfl, hF, rfl, HO, hL, hB⟩ := hrel
    have HB : Hid (Below w.heap.size w wr) := hB
    clear hB
    have hFb : 0 ≤ F ∧ F ≤ 40001 := by rw [hF.out]; exact fst_bd kind first ⟨f0, f1⟩ k
    obtain ⟨F0, F1⟩ := hFb
    have HF : Hid (fst kind first k = F) := hF.out.symm
    by_cases hlt : k < n
    · have hpe : lst kind first k = dn (F + 28 - 1) := by unfold lst; rw [hF.out.symm, HK.out]; exact p3
      by_cases hd : 0 ≤ F + 27 ∧ F + 27 ≤ 40000
      · have dl := dayB_t hd
        have HL2 : Hid (lst kind first k = F + 27) := by unfold Hid; rw [hpe]; unfold dn; rw [if_pos (by omega)]; omega
        clear hpe
        go_wp2_with (first
          | (go_at_call 43; refine (l2Day_any _ _).mono ?_; rintro e w' ⟨rfl, ew⟩; replace ew := ew.symm; subst ew; rw [dl])
          | (at_builtin; refine wpList_append_own _ rfl _ _ 35 rfl w.heap.size 38 i0 (.agg #[.int .i64 0, .int .i64 0]) 2 16 Tryd.underlying35 hi hz0 hz1 hz2 rfl (by decide) _ _ _ rfl (HO.out.alloc _) ⟨wr.heap.size, 0, none⟩ 1 1 [.int .i64 F, .int .i64 (F + 27)] rfl rfl (cell_two_new _ _ _ _) (fun x hx => by simp at hx; rcases hx with rfl | rfl <;> rfl) (by unfold maxLen; omega) (by omega) (by have := HB.out.size; simp; omega) ?_; intro v' w3 hown' hgrow3 hnil3; have HO3 : Hid (w3.ownsRow w.heap.size 38 2 v' (k + 1) (flatP (fst kind first) (lst kind first) (k + 1))) := own_next hown' HF.out HL2.out; have HB3 : Hid (Below w.heap.size w w3) := Below.grown (HB.out.alloc HB.out.size _) hgrow3 (by have := HB.out.size; simp; omega) (fun j hj => (HO.out.lt _ hj).1); clear hown' hgrow3 hnil3))
        go_roundw
        case rel => exact ⟨k + 1, _, by omega, rfl, by unfold Hid; rw [fst_succ, HL2.out], by go_num, HO3, fun j hj => by
            by_cases g : j = k
            · subst g; rw [HL2.out]; omega
            · exact hL.out j (by omega), HB3.out⟩
        case measure => simp [intOf]; omega
      · have dl := dayB_f hd
        have HN : Hid (¬ perOk kind first (n : Int)) := fun g => by have := g.2.2 k (by omega); rw [hpe] at this; unfold dn at this; rw [if_neg (by omega)] at this; omega
        clear hpe hd
        go_wp2_with (first
          | (go_at_call 43; refine (l2Day_any _ _).mono ?_; rintro e w' ⟨rfl, ew⟩; replace ew := ew.symm; subst ew; rw [dl]))
        go_returns
        exact ⟨_, rfl, .inr ⟨HN.out, _, _, rfl⟩, HB.out.alloc HB.out.size _⟩
    · obtain rfl : k = n := by omega
      have HP := pers_own HO.out (show perOk kind first (k : Int) from ⟨⟨f0, f1⟩, ⟨c0, c1⟩, fun j hj => hL.out j (by omega)⟩)
      have HP2 : Hid (Pers kind first (k : Int) _ w wr) := HP
      clear HP
      go_wp2
      go_returns
      exact ⟨_, rfl, HP2.out, HB.out⟩

set_option maxHeartbeats 4000000 in
theorem specPeriods_k2 (first : Int) (n : Nat) (w : World) (f0 : 0 ≤ first) (f1 : first ≤ 40000) (c0 : 1 ≤ (n : Int)) (c1 : (n : Int) ≤ 60) :
    Calls Tryd.prog 22 #[.int .i64 2, .int .i64 first, .int .i64 (n : Int)] w fun e w' => ∃ v, e = .returned v ∧ Pers 2 first (n : Int) v w w' ∧ Below w.heap.size w w' := by
  obtain ⟨kind, hkind⟩ : ∃ kind : Int, kind = 2 := ⟨_, rfl⟩
  have HK : Hid (kind = 2) := hkind
  rw [← hkind]
  have b1 : (kind == 1) = false := by simp [hkind]
  have b2 : (kind == 2) = true := by simp [hkind]
  have db := dayB_t ⟨f0, f1⟩
  have i1 : inB kind 1 3 = true := inB_t (by omega)
  have i2 := inB_t ⟨c0, c1⟩
  obtain ⟨i0, hi, hz0, hz1, hz2⟩ := info_parts info38
  clear hkind
  go_enter Tryd.func22, Tryd.ntmps22
  go_wp2_with (first
    | (go_at_call 44; refine (l1In_eq _ _ _ _ _ (by assumption)).mono ?_; rintro e w' ⟨rfl, ew⟩; replace ew := ew.symm; subst ew)
    | (go_at_call 43; refine (l2Day_any _ _).mono ?_; rintro e w' ⟨rfl, ew⟩; replace ew := ew.symm; subst ew; rw [db]))
  go_loopw [1, 7, 8] (fun f v i wr => ∃ (k : Nat) (F : Int), k ≤ n ∧ f = .int .i64 F ∧ Hid (F = fst kind first k) ∧ i = .int .i64 (k : Int) ∧ Hid (wr.ownsRow w.heap.size 38 2 v k (flatP (fst kind first) (lst kind first) k)) ∧ Hid (∀ j, j < k → 0 ≤ lst kind first j) ∧ Below w.heap.size w wr) (fun _ _ i _ => n - (intOf i).toNat)
  case atStart => exact ⟨0, first, Nat.zero_le _, rfl, rfl, rfl, own_zero (CB.new _ _), fun j hj => by omega, (Below.refl _ _).alloc (Nat.le_refl _) _⟩
  case round =>
    obtain ⟨k, F, hk, rfl, hF, rfl, HO, hL, hB⟩ := hrel
    have HB : Hid (Below w.heap.size w wr) := hB
    clear hB
    have hFb : 0 ≤ F ∧ F ≤ 40001 := by rw [hF.out]; exact fst_bd kind first ⟨f0, f1⟩ k
    obtain ⟨F0, F1⟩ := hFb
    have HF : Hid (fst kind first k = F) := hF.out.symm
    by_cases hlt : k < n
    · by_cases h3 : k % 3 = 2
      · have m3 : ((k : Int) % 3 == 2) = true := by simp; omega
        have hpe : lst kind first k = dn (F + 35 - 1) := by unfold lst; rw [hF.out.symm, HK.out]; exact p2 h3
        by_cases hd : 0 ≤ F + 34 ∧ F + 34 ≤ 40000
        · have dl := dayB_t hd
          have HL2 : Hid (lst kind first k = F + 34) := by unfold Hid; rw [hpe]; unfold dn; rw [if_pos (by omega)]; omega
          clear hpe
          go_wp2_with (first
            | (go_at_call 43; refine (l2Day_any _ _).mono ?_; rintro e w' ⟨rfl, ew⟩; replace ew := ew.symm; subst ew; rw [dl])
            | (at_builtin; refine wpList_append_own _ rfl _ _ 35 rfl w.heap.size 38 i0 (.agg #[.int .i64 0, .int .i64 0]) 2 16 Tryd.underlying35 hi hz0 hz1 hz2 rfl (by decide) _ _ _ rfl (HO.out.alloc _) ⟨wr.heap.size, 0, none⟩ 1 1 [.int .i64 F, .int .i64 (F + 34)] rfl rfl (cell_two_new _ _ _ _) (fun x hx => by simp at hx; rcases hx with rfl | rfl <;> rfl) (by unfold maxLen; omega) (by omega) (by have := HB.out.size; simp; omega) ?_; intro v' w3 hown' hgrow3 hnil3; have HO3 : Hid (w3.ownsRow w.heap.size 38 2 v' (k + 1) (flatP (fst kind first) (lst kind first) (k + 1))) := own_next hown' HF.out HL2.out; have HB3 : Hid (Below w.heap.size w w3) := Below.grown (HB.out.alloc HB.out.size _) hgrow3 (by have := HB.out.size; simp; omega) (fun j hj => (HO.out.lt _ hj).1); clear hown' hgrow3 hnil3))
          go_roundw
          case rel => exact ⟨k + 1, _, by omega, rfl, by unfold Hid; rw [fst_succ, HL2.out], by go_num, HO3, fun j hj => by
              by_cases g : j = k
              · subst g; rw [HL2.out]; omega
              · exact hL.out j (by omega), HB3.out⟩
          case measure => simp [intOf]; omega
        · have dl := dayB_f hd
          have HN : Hid (¬ perOk kind first (n : Int)) := fun g => by have := g.2.2 k (by omega); rw [hpe] at this; unfold dn at this; rw [if_neg (by omega)] at this; omega
          clear hpe hd
          go_wp2_with (first
            | (go_at_call 43; refine (l2Day_any _ _).mono ?_; rintro e w' ⟨rfl, ew⟩; replace ew := ew.symm; subst ew; rw [dl]))
          go_returns
          exact ⟨_, rfl, .inr ⟨HN.out, _, _, rfl⟩, HB.out.alloc HB.out.size _⟩
      · have m3 : ((k : Int) % 3 == 2) = false := by simp; omega
        have hpe : lst kind first k = dn (F + 28 - 1) := by unfold lst; rw [hF.out.symm, HK.out]; exact p2n h3
        by_cases hd : 0 ≤ F + 27 ∧ F + 27 ≤ 40000
        · have dl := dayB_t hd
          have HL2 : Hid (lst kind first k = F + 27) := by unfold Hid; rw [hpe]; unfold dn; rw [if_pos (by omega)]; omega
          clear hpe
          go_wp2_with (first
            | (go_at_call 43; refine (l2Day_any _ _).mono ?_; rintro e w' ⟨rfl, ew⟩; replace ew := ew.symm; subst ew; rw [dl])
            | (at_builtin; refine wpList_append_own _ rfl _ _ 35 rfl w.heap.size 38 i0 (.agg #[.int .i64 0, .int .i64 0]) 2 16 Tryd.underlying35 hi hz0 hz1 hz2 rfl (by decide) _ _ _ rfl (HO.out.alloc _) ⟨wr.heap.size, 0, none⟩ 1 1 [.int .i64 F, .int .i64 (F + 27)] rfl rfl (cell_two_new _ _ _ _) (fun x hx => by simp at hx; rcases hx with rfl | rfl <;> rfl) (by unfold maxLen; omega) (by omega) (by have := HB.out.size; simp; omega) ?_; intro v' w3 hown' hgrow3 hnil3; have HO3 : Hid (w3.ownsRow w.heap.size 38 2 v' (k + 1) (flatP (fst kind first) (lst kind first) (k + 1))) := own_next hown' HF.out HL2.out; have HB3 : Hid (Below w.heap.size w w3) := Below.grown (HB.out.alloc HB.out.size _) hgrow3 (by have := HB.out.size; simp; omega) (fun j hj => (HO.out.lt _ hj).1); clear hown' hgrow3 hnil3))
          go_roundw
          case rel => exact ⟨k + 1, _, by omega, rfl, by unfold Hid; rw [fst_succ, HL2.out], by go_num, HO3, fun j hj => by
              by_cases g : j = k
              · subst g; rw [HL2.out]; omega
              · exact hL.out j (by omega), HB3.out⟩
          case measure => simp [intOf]; omega
        · have dl := dayB_f hd
          have HN : Hid (¬ perOk kind first (n : Int)) := fun g => by have := g.2.2 k (by omega); rw [hpe] at this; unfold dn at this; rw [if_neg (by omega)] at this; omega
          clear hpe hd
          go_wp2_with (first
            | (go_at_call 43; refine (l2Day_any _ _).mono ?_; rintro e w' ⟨rfl, ew⟩; replace ew := ew.symm; subst ew; rw [dl]))
          go_returns
          exact ⟨_, rfl, .inr ⟨HN.out, _, _, rfl⟩, HB.out.alloc HB.out.size _⟩
    · obtain rfl : k = n := by omega
      have HP := pers_own HO.out (show perOk kind first (k : Int) from ⟨⟨f0, f1⟩, ⟨c0, c1⟩, fun j hj => hL.out j (by omega)⟩)
      have HP2 : Hid (Pers kind first (k : Int) _ w wr) := HP
      clear HP
      go_wp2
      go_returns
      exact ⟨_, rfl, HP2.out, HB.out⟩

set_option maxHeartbeats 4000000 in
theorem specPeriods_k1 (first : Int) (n : Nat) (w : World) (f0 : 0 ≤ first) (f1 : first ≤ 40000) (c0 : 1 ≤ (n : Int)) (c1 : (n : Int) ≤ 60) (hm : (dat first).2.2 = 1) :
    Calls Tryd.prog 22 #[.int .i64 1, .int .i64 first, .int .i64 (n : Int)] w fun e w' => ∃ v, e = .returned v ∧ Pers 1 first (n : Int) v w w' ∧ Below w.heap.size w w' := by
  obtain ⟨kind, hkind⟩ : ∃ kind : Int, kind = 1 := ⟨_, rfl⟩
  have HK : Hid (kind = 1) := hkind
  rw [← hkind]
  have b1 : (kind == 1) = true := by simp [hkind]
  have b2 : (kind == 2) = false := by simp [hkind]
  have db := dayB_t ⟨f0, f1⟩
  have i1 : inB kind 1 3 = true := inB_t (by omega)
  have i2 := inB_t ⟨c0, c1⟩
  have hf2 := fld2
  obtain ⟨i0, hi, hz0, hz1, hz2⟩ := info_parts info38
  obtain ⟨t, hT⟩ : ∃ t, t = dat first := ⟨_, rfl⟩
  obtain ⟨ta, tb, tc⟩ := t
  have k1 : dateA (dat first) = .agg #[.int .i64 ta, .int .i64 tb, .int .i64 tc] := by rw [← hT]; rfl
  have htc : tc = 1 := by rw [← hT] at hm; exact hm
  have HM : Hid ((dat first).2.2 = 1) := hm
  clear hkind hT hm
  subst htc
  go_enter Tryd.func22, Tryd.ntmps22
  go_wp2_with (first
    | (go_at_call 44; refine (l1In_eq _ _ _ _ _ (by assumption)).mono ?_; rintro e w' ⟨rfl, ew⟩; replace ew := ew.symm; subst ew)
    | (go_at_call 43; refine (l2Day_any _ _).mono ?_; rintro e w' ⟨rfl, ew⟩; replace ew := ew.symm; subst ew; rw [db])
    | (go_at_call 26; refine (specDateOf_any _ _).mono ?_; rintro e w1 ⟨rfl, b1⟩; rw [k1]; have C1 : CB w1 w.heap.size #[] 38 := (CB.new _ _).below b1 (by simp); have B1 : Below w.heap.size w w1 := bel_on ((Below.refl _ _).alloc (Nat.le_refl _) _) b1; have HC1 : Hid (CB w1 w.heap.size #[] 38) := C1; have HB1 : Hid (Below w.heap.size w w1) := B1; clear C1 B1))
  go_loopw [1, 7, 8] (fun f v i wr => ∃ (k : Nat) (F : Int), k ≤ n ∧ f = .int .i64 F ∧ Hid (F = fst kind first k) ∧ i = .int .i64 (k : Int) ∧ Hid (wr.ownsRow w.heap.size 38 2 v k (flatP (fst kind first) (lst kind first) k)) ∧ Hid (∀ j, j < k → 0 ≤ lst kind first j) ∧ Below w.heap.size w wr) (fun _ _ i _ => n - (intOf i).toNat)
  case atStart => exact ⟨0, first, Nat.zero_le _, rfl, rfl, rfl, own_zero HC1.out, fun j hj => by omega, HB1.out⟩
  case round =>
    obtain ⟨k, F, hk, rfl, hF, rfl, HO, hL, hB⟩ := hrel
    have HB : Hid (Below w.heap.size w wr) := hB
    clear hB
    have hFb : 0 ≤ F ∧ F ≤ 40001 := by rw [hF.out]; exact fst_bd kind first ⟨f0, f1⟩ k
    obtain ⟨F0, F1⟩ := hFb
    have HF : Hid (fst kind first k = F) := hF.out.symm
    by_cases hlt : k < n
    · by_cases hd : F ≤ 40000
      · have dF := dayB_t ⟨F0, hd⟩
        obtain ⟨E, hE⟩ : ∃ E, mendV F = E := ⟨_, rfl⟩
        have hEb := mendV_bd F
        rw [hE] at hEb
        have HL2 : Hid (lst kind first k = E) := by
          unfold Hid lst
          have h1 : (dat (fst kind first k)).2.2 = 1 := by
            have := HK.out
            subst this
            exact month_first ⟨f0, f1⟩ HM.out k hL.out (by rw [HF.out]; exact hd)
          rw [HK.out] at h1 ⊢
          rw [p1 h1, ← HK.out, HF.out]; exact hE
        have tok1 : True := trivial
        by_cases hneg : 0 ≤ E
        · have dl := dayB_t ⟨hneg, hEb.2⟩
          go_wp2_with (first
            | (go_at_call 43; clear tok1; refine (l2Day_any _ _).mono ?_; rintro e w' ⟨rfl, ew⟩; replace ew := ew.symm; subst ew; rw [dF])
            | (go_at_call 28; refine (specMonthEnd_any _ _).mono ?_; rintro e w2 ⟨rfl, b2⟩; rw [hE]; replace HO := HO.out.of_below b2; replace HB : Hid (Below w.heap.size w w2) := bel_on HB.out b2; clear b2)
            | (go_at_call 43; refine (l2Day_any _ _).mono ?_; rintro e w' ⟨rfl, ew⟩; replace ew := ew.symm; subst ew; rw [dl])
            | (at_builtin; refine wpList_append_own _ rfl _ _ 35 rfl w.heap.size 38 i0 (.agg #[.int .i64 0, .int .i64 0]) 2 16 Tryd.underlying35 hi hz0 hz1 hz2 rfl (by decide) _ _ _ rfl (HO.out.alloc _) ⟨w2.heap.size, 0, none⟩ 1 1 [.int .i64 F, .int .i64 E] rfl rfl (cell_two_new _ _ _ _) (fun x hx => by simp at hx; rcases hx with rfl | rfl <;> rfl) (by unfold maxLen; omega) (by omega) (by have := HB.out.size; simp; omega) ?_; intro v' w3 hown' hgrow3 hnil3; have HO3 : Hid (w3.ownsRow w.heap.size 38 2 v' (k + 1) (flatP (fst kind first) (lst kind first) (k + 1))) := own_next hown' HF.out HL2.out; have HB3 : Hid (Below w.heap.size w w3) := Below.grown (HB.out.alloc HB.out.size _) hgrow3 (by have := HB.out.size; simp; omega) (fun j hj => (HO.out.lt _ hj).1); clear hown' hgrow3 hnil3))
          go_roundw
          case rel => exact ⟨k + 1, _, by omega, rfl, by unfold Hid; rw [fst_succ, HL2.out], by go_num, HO3, fun j hj => by
              by_cases g : j = k
              · subst g; rw [HL2.out]; omega
              · exact hL.out j (by omega), HB3.out⟩
          case measure => simp [intOf]; omega
        · have dl := dayB_f (d := E) (by omega)
          have HN : Hid (¬ perOk kind first (n : Int)) := fun g => by have := g.2.2 k (by omega); rw [HL2.out] at this; omega
          go_wp2_with (first
            | (go_at_call 43; clear tok1; refine (l2Day_any _ _).mono ?_; rintro e w' ⟨rfl, ew⟩; replace ew := ew.symm; subst ew; rw [dF])
            | (go_at_call 28; refine (specMonthEnd_any _ _).mono ?_; rintro e w2 ⟨rfl, b2⟩; rw [hE]; replace HO := HO.out.of_below b2; replace HB : Hid (Below w.heap.size w w2) := bel_on HB.out b2; clear b2)
            | (go_at_call 43; refine (l2Day_any _ _).mono ?_; rintro e w' ⟨rfl, ew⟩; replace ew := ew.symm; subst ew; rw [dl]))
          go_returns
          exact ⟨_, rfl, .inr ⟨HN.out, _, _, rfl⟩, HB.out.alloc HB.out.size _⟩
      · have dF := dayB_f (d := F) (by omega)
        have HN : Hid (¬ perOk kind first (n : Int)) := fun g => by
          have h5 := g.2.2 k (by omega)
          have h6 : lst kind first k = -1 := by
            have e := HF.out
            have e1 := HK.out
            subst e1
            exact p1n (by rw [e, dat_none (by omega)]; simp)
          omega
        go_wp2_with (go_at_call 43; refine (l2Day_any _ _).mono ?_; rintro e w' ⟨rfl, ew⟩; replace ew := ew.symm; subst ew; rw [dF])
        go_returns
        exact ⟨_, rfl, .inr ⟨HN.out, _, _, rfl⟩, HB.out.alloc HB.out.size _⟩
    · obtain rfl : k = n := by omega
      have HP := pers_own HO.out (show perOk kind first (k : Int) from ⟨⟨f0, f1⟩, ⟨c0, c1⟩, fun j hj => hL.out j (by omega)⟩)
      have HP2 : Hid (Pers kind first (k : Int) _ w wr) := HP
      clear HP
      go_wp2
      go_returns
      exact ⟨_, rfl, HP2.out, HB.out⟩

theorem specPeriods_any (kind first count : Int) (w : World) :
    Calls Tryd.prog 22 #[.int .i64 kind, .int .i64 first, .int .i64 count] w fun e w' => ∃ v, e = .returned v ∧ Pers kind first count v w w' ∧ Below w.heap.size w w' := by
  by_cases hk : 1 ≤ kind ∧ kind ≤ 3
  · have i1 := inB_t hk
    by_cases hc : 1 ≤ count ∧ count ≤ 60
    · have i2 := inB_t hc
      by_cases hf : 0 ≤ first ∧ first ≤ 40000
      · obtain ⟨n, rfl⟩ : ∃ n : Nat, count = (n : Int) := ⟨count.toNat, by omega⟩
        by_cases e2 : kind = 2
        · subst e2; exact specPeriods_k2 first n w hf.1 hf.2 hc.1 hc.2
        · by_cases e3 : kind = 3
          · subst e3; exact specPeriods_k3 first n w hf.1 hf.2 hc.1 hc.2
          · obtain rfl : kind = 1 := by omega
            by_cases hm : (dat first).2.2 = 1
            · exact specPeriods_k1 first n w hf.1 hf.2 hc.1 hc.2 hm
            · have HN : Hid (¬ perOk 1 first (n : Int)) := fun g => by
                have := g.2.2 0 (by have := hc.1; simp; omega)
                have e : lst 1 first 0 = -1 := p1n hm
                omega
              have db := dayB_t hf
              have hf2 := fld2
              obtain ⟨t, hT⟩ : ∃ t, t = dat first := ⟨_, rfl⟩
              obtain ⟨ta, tb, tc⟩ := t
              have k1 : dateA (dat first) = .agg #[.int .i64 ta, .int .i64 tb, .int .i64 tc] := by rw [← hT]; rfl
              have hc2 : (tc != 1) = true := by rw [← hT] at hm; simpa using hm
              clear hT hm
              go_enter Tryd.func22, Tryd.ntmps22
              go_wp2_with (first
                | (go_at_call 44; refine (l1In_eq _ _ _ _ _ (by assumption)).mono ?_; rintro e w' ⟨rfl, ew⟩; replace ew := ew.symm; subst ew)
                | (go_at_call 43; refine (l2Day_any _ _).mono ?_; rintro e w' ⟨rfl, ew⟩; replace ew := ew.symm; subst ew; rw [db])
                | (go_at_call 26; refine (specDateOf_any _ _).mono ?_; rintro e w1 ⟨rfl, b1⟩; rw [k1]))
              go_returns
              exact ⟨_, rfl, .inr ⟨HN.out, _, _, rfl⟩, bel_on ((Below.refl _ _).alloc (Nat.le_refl _) _) b1⟩
      · have HN : Hid (¬ perOk kind first count) := fun g => hf g.1
        have db := dayB_f hf
        clear hf
        go_enter Tryd.func22, Tryd.ntmps22
        go_wp2_with (first
          | (go_at_call 44; refine (l1In_eq _ _ _ _ _ (by assumption)).mono ?_; rintro e w' ⟨rfl, ew⟩; replace ew := ew.symm; subst ew)
          | (go_at_call 43; refine (l2Day_any _ _).mono ?_; rintro e w' ⟨rfl, ew⟩; replace ew := ew.symm; subst ew; rw [db]))
        go_returns
        exact ⟨_, rfl, .inr ⟨HN.out, _, _, rfl⟩, (Below.refl _ _).alloc (Nat.le_refl _) _⟩
    · have HN : Hid (¬ perOk kind first count) := fun g => hc g.2.1
      have i2 := inB_f hc
      clear hc
      go_enter Tryd.func22, Tryd.ntmps22
      go_wp2_with (first
          | (go_at_call 44; refine (l1In_eq _ _ _ _ _ (by assumption)).mono ?_; rintro e w' ⟨rfl, ew⟩; replace ew := ew.symm; subst ew))
      go_returns
      exact ⟨_, rfl, .inr ⟨HN.out, _, _, rfl⟩, (Below.refl _ _).alloc (Nat.le_refl _) _⟩
  · have i1 := inB_f hk
    have HN : Hid (¬ perOk kind first count) := fun g => by
      have h1 := g.2.2 0 (by have := g.2.1.1; simp; omega)
      have e : lst kind first 0 = -1 := pn hk
      omega
    clear hk
    go_enter Tryd.func22, Tryd.ntmps22
    go_wp2_with (first
          | (go_at_call 44; refine (l1In_eq _ _ _ _ _ (by assumption)).mono ?_; rintro e w' ⟨rfl, ew⟩; replace ew := ew.symm; subst ew))
    go_returns
    exact ⟨_, rfl, .inr ⟨HN.out, _, _, rfl⟩, (Below.refl _ _).alloc (Nat.le_refl _) _⟩

end Go.Proofs.YtadjdpoplaknkaaDoor
