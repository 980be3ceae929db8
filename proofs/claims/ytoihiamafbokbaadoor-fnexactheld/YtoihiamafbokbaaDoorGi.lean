/- The program's tests of a group. -/
import Derived.Test.YtoihiamafbokbaaDoorGs
namespace Go.Proofs.YtoihiamafbokbaaDoor
open Go.ChangeShapes Go.WideShapes Go.ChangeAt Go.RowKit
set_option linter.unusedVariables false
set_option linter.unusedSimpArgs false

theorem isAmount_any (x : Int) (w : World) : Calls Tryd.prog 55 #[.int .i64 x] w fun e w' => e = .returned (.bool (amI x)) ∧ w' = w := by
  go_enter Tryd.func55, Tryd.ntmps55
  go_wp2
  all_goals go_returns
  all_goals exact ⟨ret_bool (by unfold amI inB; rw [Bool.eq_iff_iff]; simp; try omega), rfl⟩
def plB (p n : Int) : Bool := decide (0 ≤ p ∧ p < n)
theorem plB_iff {p n : Int} : plB p n = true ↔ 0 ≤ p ∧ p < n := by unfold plB; simp
theorem isPlaceOf_any (p n : Int) (w : World) : Calls Tryd.prog 66 #[.int .i64 p, .int .i64 n] w fun e w' => e = .returned (.bool (plB p n)) ∧ w' = w := by
  go_enter Tryd.func66, Tryd.ntmps66
  go_wp2
  all_goals go_returns
  all_goals exact ⟨ret_bool (by unfold plB; rw [Bool.eq_iff_iff]; simp; try omega), rfl⟩
def hdB (k : Nat) (p s : Int) : Bool := decide ((k = 0 ∧ p = -1 ∧ s = 10000) ∨ (0 < k ∧ 0 ≤ p ∧ p < (k : Int) ∧ 1 ≤ s ∧ s ≤ 10000))
theorem hdB_iff {k : Nat} {p s : Int} : hdB k p s = true ↔ ((k = 0 ∧ p = -1 ∧ s = 10000) ∨ (0 < k ∧ 0 ≤ p ∧ p < (k : Int) ∧ 1 ≤ s ∧ s ≤ 10000)) := by unfold hdB; simp
set_option maxRecDepth 20000 in
set_option maxHeartbeats 1000000 in
theorem isHeldAt_any (p s cu : Int) (ta : Option Addr) (tn tc k : Nat) (w : World) (hk : (k : Int) ≤ 1048576) :
    Calls Tryd.prog 65 #[.agg #[.int .i64 p, .int .i64 s, .int .i64 cu, .slice ta tn tc], .int .i64 (k : Int)] w fun e w' => e = .returned (.bool (hdB k p s)) ∧ Below w.heap.size w w' := by
  by_cases hk0 : k = 0
  · subst hk0
    go_enter Tryd.func65, Tryd.ntmps65
    go_wp2
    all_goals go_returns
    all_goals exact ⟨ret_bool (by unfold hdB; rw [Bool.eq_iff_iff]; simp; try omega), (Below.refl _ _).alloc (Nat.le_refl _) _⟩
  · have z0 : ((k : Int) == 0) = false := by simpa using (by omega : ¬ (k : Int) = 0)
    have hk1 : 0 < k := by omega
    have HK1 : Hid (0 < k) := hk1
    clear hk0 hk1
    cases hp : plB p (k : Int) with
    | false =>
      have HF : Hid (hdB k p s = false) := by
        show hdB k p s = false
        cases h : hdB k p s with
        | false => rfl
        | true => have q := hdB_iff.1 h; have q2 := HK1.out; have : plB p (k : Int) = true := plB_iff.2 (by omega); rw [hp] at this; cases this
      go_enter Tryd.func65, Tryd.ntmps65
      go_wp2_with (go_at_call 66; refine (isPlaceOf_any _ _ _).mono ?_; rintro e w3 ⟨rfl, ew⟩; replace ew := ew.symm; subst ew; rw [hp])
      go_returns
      exact ⟨ret_bool HF.out.symm, (Below.refl _ _).alloc (Nat.le_refl _) _⟩
    | true =>
      have HF : Hid (hdB k p s = inB s 1 10000) := by
        show hdB k p s = inB s 1 10000
        have q1 := plB_iff.1 hp
        have q2 := HK1.out
        rw [Bool.eq_iff_iff, hdB_iff, inB_iff]
        omega
      have d1 : decide (1 ≤ s) = true ∨ decide (1 ≤ s) = false := by cases decide (1 ≤ s) <;> simp
      rcases d1 with d1 | d1
      all_goals
        go_enter Tryd.func65, Tryd.ntmps65
        go_wp2_with (go_at_call 66; refine (isPlaceOf_any _ _ _).mono ?_; rintro e w3 ⟨rfl, ew⟩; replace ew := ew.symm; subst ew; rw [hp])
        go_returns
        exact ⟨ret_bool (by rw [HF.out]; unfold inB; rw [Bool.eq_iff_iff]; simp at d1 ⊢; try omega), (Below.refl _ _).alloc (Nat.le_refl _) _⟩

set_option maxRecDepth 20000 in
set_option maxHeartbeats 1000000 in
theorem sum_any (ta : Option Addr) (n tc : Nat) (z : Nat → Int) (w : World) (hn : (n : Int) ≤ 1048576) (ht : IR w ta n z) (ha : ∀ j, j < n → amI (z j) = true) :
    Calls Tryd.prog 78 #[.slice ta n tc] w fun e w' => e = .returned (.int .i64 (smI z n)) ∧ w' = w := by
  have HT : Hid (IR w ta n z) := ht
  have HA : Hid (∀ j, j < n → amI (z j) = true) := ha
  clear ht ha
  go_enter Tryd.func78, Tryd.ntmps78
  go_wp2
  go_loop [3, 8] (fun s i => ∃ (k : Nat), k ≤ n ∧ i = .int .i64 (k : Int) ∧ s = .int .i64 (smI z k)) (fun _ i => n - (intOf i).toNat)
  case atStart => exact ⟨0, Nat.zero_le _, rfl, rfl⟩
  case round =>
    obtain ⟨k, hk, rfl, rfl⟩ := hrel
    by_cases hlt : k < n
    · have hlt2 : (k : Int) < (n : Int) := by omega
      obtain ⟨kb, off, rfl, hkb⟩ := HT.out.addr (by omega)
      have c1 := HT.out.cell hlt
      have hsb := smI_bound (z := z) (n := k) (fun j hj => HA.out j (by omega))
      have hxb := amI_iff.1 (HA.out k hlt)
      have HN : Hid (smI z (k + 1) = smI z k + z k) := rfl
      obtain ⟨x, hx⟩ : ∃ x, z k = x := ⟨_, rfl⟩
      obtain ⟨s, hs⟩ : ∃ s, smI z k = s := ⟨_, rfl⟩
      rw [hx] at c1 hxb HN
      rw [hs] at hsb HN ⊢
      clear hx hs
      go_wp2
      go_round
      case rel => exact ⟨k + 1, by omega, by go_num, by rw [HN.out]⟩
      case measure => simp [intOf]; omega
    · obtain rfl : k = n := by omega
      have lkk : ¬ (k : Int) < (k : Int) := by omega
      go_wp2
      go_returns
      exact ⟨rfl, rfl⟩

set_option maxRecDepth 20000 in
set_option maxHeartbeats 2000000 in
theorem takesTrial_eq (fa : Option Addr) (len cap : Nat) (c : Nat → C3) (d u : Int) (T : Nat) (ta : Option Addr) (n tc : Nat) (z : Nat → Int) {v : Bool} (w : World) (hT : Tree w T len c) (hl : (len : Int) ≤ 1048576) (hn : (n : Int) ≤ 1048576) (ht : IR w ta n z) (hv : trB len c n z = v) :
    Calls Tryd.prog 67 #[.agg #[.slice fa len cap, .int .i64 d, .int .i64 u, .pointer (some ⟨T, 0, none⟩)], .slice ta n tc] w fun e w' => e = .returned (.bool v) ∧ Below w.heap.size w w' := by
  subst hv
  have HTr : Hid (Tree (w.alloc (.cells #[.slice fa len cap, .int .i64 d, .int .i64 u, .pointer (some ⟨T, 0, none⟩)] 54 (0, 0))) T len c) := hT.alloc _
  have HT : Hid (IR (w.alloc (.cells #[.slice fa len cap, .int .i64 d, .int .i64 u, .pointer (some ⟨T, 0, none⟩)] 54 (0, 0))) ta n z) := ht.alloc _
  have HB : Hid (Below w.heap.size w (w.alloc (.cells #[.slice fa len cap, .int .i64 d, .int .i64 u, .pointer (some ⟨T, 0, none⟩)] 54 (0, 0)))) := (Below.refl _ _).alloc (Nat.le_refl _) _
  have X0 := CB.new (w := w) #[.slice fa len cap, .int .i64 d, .int .i64 u, .pointer (some ⟨T, 0, none⟩)] 54
  have x3 := (X0.cell 3).trans rfl
  clear hT ht X0
  by_cases hne : n = len
  · subst hne
    go_enter Tryd.func67, Tryd.ntmps67
    go_wp2
    generalize w.alloc (.cells #[.slice fa n cap, .int .i64 d, .int .i64 u, .pointer (some ⟨T, 0, none⟩)] 54 (0, 0)) = W at HTr HT HB x3 ⊢
    go_loop [5, 6, 16] (fun _ _ i => ∃ (k : Nat), k ≤ n ∧ i = .int .i64 (k : Int) ∧ Hid (∀ j, j < k → TlOk n c z j)) (fun _ _ i => n - (intOf i).toNat)
    case atStart => exact ⟨0, Nat.zero_le _, rfl, fun j hj => by omega⟩
    case round =>
      obtain ⟨k, hk, rfl, HK⟩ := hrel
      by_cases hlt : k < n
      · have hlt2 : (k : Int) < (n : Int) := by omega
        obtain ⟨kb, off, rfl, hkb⟩ := HT.out.addr (by omega)
        have c1 := HT.out.cell hlt
        obtain ⟨x, hx⟩ : ∃ x, z k = x := ⟨_, rfl⟩
        have HX : Hid (z k = x) := hx
        rw [hx] at c1
        clear hx
        cases ha : amI x with
        | false =>
          have HF : Hid (trB n c n z = false) := trB_f (fun q => by have := (q.2.1 k hlt).1; rw [HX.out, ha] at this; cases this)
          go_wp2_with (go_at_call 55; refine (isAmount_any _ _).mono ?_; rintro e w3 ⟨rfl, ew⟩; replace ew := ew.symm; subst ew; rw [ha])
          go_returns
          exact ⟨ret_bool HF.out.symm, HB.out⟩
        | true =>
          by_cases h0 : x = 0
          · subst h0
            have HN : Hid (∀ j, j < k + 1 → TlOk n c z j) := fun j hj => by
              by_cases e : j = k
              · subst e; exact ⟨by rw [HX.out]; exact ha, .inl HX.out⟩
              · exact HK.out j (by omega)
            go_wp2_with (go_at_call 55; refine (isAmount_any _ _).mono ?_; rintro e w3 ⟨rfl, ew⟩; replace ew := ew.symm; subst ew; rw [ha])
            go_round
            case rel => exact ⟨k + 1, by omega, by go_num, HN⟩
            case measure => simp [intOf]; omega
          · have hx0 : (x == 0) = false := by simpa using h0
            cases hleaf : leafB n c (k : Int) with
            | false =>
              have HF : Hid (trB n c n z = false) := trB_f (fun q => by
                rcases (q.2.1 k hlt).2 with e | e
                · rw [HX.out] at e; exact h0 e
                · rw [hleaf] at e; cases e)
              go_wp2_with (first
                | (go_at_call 55; refine (isAmount_any _ _).mono ?_; rintro e w3 ⟨rfl, ew⟩; replace ew := ew.symm; subst ew; rw [ha])
                | (go_at_call 68; refine (HTr.out.leaf _).mono ?_; rintro e w3 ⟨rfl, ew⟩; replace ew := ew.symm; subst ew; rw [hleaf]))
              go_returns
              exact ⟨ret_bool HF.out.symm, HB.out⟩
            | true =>
              have HN : Hid (∀ j, j < k + 1 → TlOk n c z j) := fun j hj => by
                by_cases e : j = k
                · subst e; exact ⟨by rw [HX.out]; exact ha, .inr hleaf⟩
                · exact HK.out j (by omega)
              go_wp2_with (first
                | (go_at_call 55; refine (isAmount_any _ _).mono ?_; rintro e w3 ⟨rfl, ew⟩; replace ew := ew.symm; subst ew; rw [ha])
                | (go_at_call 68; refine (HTr.out.leaf _).mono ?_; rintro e w3 ⟨rfl, ew⟩; replace ew := ew.symm; subst ew; rw [hleaf]))
              go_round
              case rel => exact ⟨k + 1, by omega, by go_num, HN⟩
              case measure => simp [intOf]; omega
      · obtain rfl : k = n := by omega
        have lkk : ¬ (k : Int) < (k : Int) := by omega
        by_cases h0 : smI z k = 0
        · have HF : Hid (trB k c k z = true) := trB_t ⟨rfl, HK.out, h0⟩
          go_wp2_with (go_at_call 78; refine (sum_any _ _ _ z _ hn HT.out (fun j hj => (HK.out j hj).1)).mono ?_; rintro e w3 ⟨rfl, ew⟩; replace ew := ew.symm; subst ew; rw [h0])
          go_returns
          exact ⟨ret_bool HF.out.symm, HB.out⟩
        · have HF : Hid (trB k c k z = false) := trB_f (fun q => h0 q.2.2)
          obtain ⟨s, hs⟩ : ∃ s, smI z k = s := ⟨_, rfl⟩
          have hx0 : (s == 0) = false := by simpa [hs] using h0
          have HS : Hid (smI z k = s) := hs
          clear hs h0
          go_wp2_with (go_at_call 78; refine (sum_any _ _ _ z _ hn HT.out (fun j hj => (HK.out j hj).1)).mono ?_; rintro e w3 ⟨rfl, ew⟩; replace ew := ew.symm; subst ew; rw [HS.out])
          go_returns
          exact ⟨ret_bool HF.out.symm, HB.out⟩
  · have HF : Hid (trB len c n z = false) := trB_f (fun q => hne q.1)
    have hne2 : ((n : Int) == (len : Int)) = false := by simpa using (by omega : ¬ (n : Int) = (len : Int))
    go_enter Tryd.func67, Tryd.ntmps67
    go_wp2
    go_returns
    exact ⟨ret_bool HF.out.symm, HB.out⟩

theorem index_one (b : Nat) (x y : Int) (w : World) (hc : w.cell? ⟨b, 0, none⟩ = some (.int .i64 x)) :
    Calls Tryd.prog 88 #[.slice (some ⟨b, 0, none⟩) 1 1, .int .i64 y] w fun e w' => e = .returned (.int .i64 (if y = x then 0 else -1)) ∧ w' = w := by
  by_cases h : y = x
  · subst h
    rw [if_pos rfl]
    go_enter Tryd.func88, Tryd.ntmps88
    go_wp2
    refine wp_loop_rounds 1 ?_
    rw [rounds_succ]
    go_wp2
    go_returns
    exact ⟨rfl, rfl⟩
  · have h0 : (y == x) = false := by simpa using h
    rw [if_neg h]
    go_enter Tryd.func88, Tryd.ntmps88
    go_wp2
    refine wp_loop_rounds 2 ?_
    rw [rounds_succ]
    go_wp2
    rw [rounds_succ]
    go_wp2
    go_returns
    exact ⟨rfl, rfl⟩
theorem contains_one (b : Nat) (x y : Int) (w : World) (hc : w.cell? ⟨b, 0, none⟩ = some (.int .i64 x)) :
    Calls Tryd.prog 80 #[.slice (some ⟨b, 0, none⟩) 1 1, .int .i64 y] w fun e w' => e = .returned (.bool (decide (y = x))) ∧ w' = w := by
  by_cases h : y = x
  · subst h
    go_enter Tryd.func80, Tryd.ntmps80
    go_wp2_with (go_at_call 88; refine (index_one _ y y _ hc).mono ?_; rintro e w3 ⟨rfl, ew⟩; replace ew := ew.symm; subst ew; rw [if_pos rfl])
    go_returns
    exact ⟨ret_bool (by simp), rfl⟩
  · have HH : Hid (¬ y = x) := h
    clear h
    go_enter Tryd.func80, Tryd.ntmps80
    go_wp2_with (go_at_call 88; refine (index_one _ x y _ hc).mono ?_; rintro e w3 ⟨rfl, ew⟩; replace ew := ew.symm; subst ew; rw [if_neg HH.out])
    go_returns
    exact ⟨ret_bool (by rw [decide_eq_false HH.out]; try rfl), rfl⟩
end Go.Proofs.YtoihiamafbokbaaDoor
