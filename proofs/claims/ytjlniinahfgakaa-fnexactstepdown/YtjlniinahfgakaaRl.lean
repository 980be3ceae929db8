/- The laws over rules: sizes, one rule's copy. -/
import Derived.Test.YtjlniinahfgakaaHx
import Derived.Deep.Cut
namespace Go.Proofs.Ytjlniinahfgakaa
open Go.ChangeShapes Go.WideShapes Go.ChangeAt Go.RowKit
set_option linter.unusedVariables false
set_option linter.unusedSimpArgs false

theorem szIntS_no {ad : Option Addr} {len cap : Nat} {r : Int} (w : World) (h : len ≤ maxLen) (h0 : 0 ≤ r) (h1 : r ≤ 1048576) (h2 : r < (len : Int)) :
    Calls Try.prog 68 #[.slice ad len cap, .int .i64 r] w fun e w' => e = .returned (.int .i64 (-1)) ∧ w' = w := by
  have hl : (len : Int) ≤ 9223372036854775807 := by unfold maxLen at h; omega
  clear h
  have hd : r - (len : Int) < 0 := by omega
  go_enter Try.func68, Try.ntmps68
  go_wp2
  go_returns
  exact ⟨rfl, rfl⟩
theorem szIntS_ok {ad : Option Addr} {len cap : Nat} {r : Int} (w : World) (h0 : 0 ≤ r) (h1 : r ≤ 1048576) (h2 : (len : Int) ≤ r) :
    Calls Try.prog 68 #[.slice ad len cap, .int .i64 r] w fun e w' => e = .returned (.int .i64 (r - (len : Int))) ∧ w' = w := by
  have hd : ¬ r - (len : Int) < 0 := by omega
  go_enter Try.func68, Try.ntmps68
  go_wp2
  go_returns
  exact ⟨rfl, rfl⟩

/-- Both lists of a rule find room. -/
def Fits (r : Int) (tn wn : Nat) : Prop := (tn : Int) ≤ r ∧ (wn : Int) ≤ r - (tn : Int)
set_option maxRecDepth 20000 in
set_option maxHeartbeats 1000000 in
theorem szRule_ok {f : Int} {ta wa : Option Addr} {tn tc wn wc : Nat} {r : Int} (w : World) (h0 : 0 ≤ r) (h1 : r ≤ 1048576) (h2 : Fits r tn wn) :
    Calls Try.prog 65 #[.agg #[.int .i64 f, .slice ta tn tc, .slice wa wn wc], .int .i64 r] w fun e w' => e = .returned (.int .i64 (r - (tn : Int) - (wn : Int))) ∧ Below w.heap.size w w' := by
  obtain ⟨h2, h3⟩ := h2
  have d1 : ¬ r - (tn : Int) < 0 := by omega
  have d2 : ¬ r - (tn : Int) - (wn : Int) < 0 := by omega
  have tok1 : True := trivial
  go_enter Try.func65, Try.ntmps65
  go_wp2_with (first
    | (go_at_call 68; clear tok1; refine (szIntS_ok (ad := ta) (len := tn) (cap := tc) (r := r) _ h0 h1 h2).mono ?_; rintro e w' ⟨rfl, ew⟩; replace ew := ew.symm; subst ew)
    | (go_at_call 68; refine (szIntS_ok (ad := wa) (len := wn) (cap := wc) (r := r - (tn : Int)) _ (by omega) (by omega) h3).mono ?_; rintro e w' ⟨rfl, ew⟩; replace ew := ew.symm; subst ew))
  go_returns
  exact ⟨rfl, (Below.refl _ _).alloc (Nat.le_refl _) _⟩
set_option maxRecDepth 20000 in
set_option maxHeartbeats 1000000 in
theorem szRule_no {f : Int} {ta wa : Option Addr} {tn tc wn wc : Nat} {r : Int} (w : World) (hl1 : tn ≤ maxLen) (hl2 : wn ≤ maxLen) (h0 : 0 ≤ r) (h1 : r ≤ 1048576) (h2 : ¬ Fits r tn wn) :
    Calls Try.prog 65 #[.agg #[.int .i64 f, .slice ta tn tc, .slice wa wn wc], .int .i64 r] w fun e w' => e = .returned (.int .i64 (-1)) ∧ Below w.heap.size w w' := by
  by_cases h3 : (tn : Int) ≤ r
  · have h4 : r - (tn : Int) < (wn : Int) := by
      by_cases q : (wn : Int) ≤ r - (tn : Int)
      · exact absurd ⟨h3, q⟩ h2
      · omega
    have d1 : ¬ r - (tn : Int) < 0 := by omega
    have tok1 : True := trivial
    clear h2
    go_enter Try.func65, Try.ntmps65
    go_wp2_with (first
      | (go_at_call 68; clear tok1; refine (szIntS_ok (ad := ta) (len := tn) (cap := tc) (r := r) _ h0 h1 h3).mono ?_; rintro e w' ⟨rfl, ew⟩; replace ew := ew.symm; subst ew)
      | (go_at_call 68; refine (szIntS_no (ad := wa) (len := wn) (cap := wc) (r := r - (tn : Int)) _ hl2 (by omega) (by omega) h4).mono ?_; rintro e w' ⟨rfl, ew⟩; replace ew := ew.symm; subst ew))
    go_returns
    exact ⟨rfl, (Below.refl _ _).alloc (Nat.le_refl _) _⟩
  · have h4 : r < (tn : Int) := by omega
    clear h2
    go_enter Try.func65, Try.ntmps65
    go_wp2_with (go_at_call 68; refine (szIntS_no (ad := ta) (len := tn) (cap := tc) (r := r) _ hl1 h0 h1 h4).mono ?_; rintro e w' ⟨rfl, ew⟩; replace ew := ew.symm; subst ew)
    go_returns
    exact ⟨rfl, (Below.refl _ _).alloc (Nat.le_refl _) _⟩

set_option maxRecDepth 20000 in
set_option maxHeartbeats 2000000 in
theorem szRuleS_any (ra : Option Addr) (m rcap : Nat) (rs : Nat → R3) (w : World) (hm : m ≤ maxLen) (hl : ∀ j, j < m → (rs j).tn ≤ maxLen ∧ (rs j).wn ≤ maxLen) (HR : RU w ra m rs) :
    Calls Try.prog 27 #[.slice ra m rcap, .int .i64 1048576] w fun e w' => ∃ v : Int, e = .returned (.int .i64 v) ∧ (v = -1 ∨ (0 ≤ v ∧ v ≤ 1048576 ∧ (m : Int) ≤ 1048576 ∧ ∀ j, j < m → ((rs j).tn : Int) ≤ 1048576 ∧ ((rs j).wn : Int) ≤ 1048576)) ∧ Below w.heap.size w w' := by
  have HRu : Hid (RU w ra m rs) := HR
  have HL : Hid (∀ j, j < m → (rs j).tn ≤ maxLen ∧ (rs j).wn ≤ maxLen) := hl
  have hml : (m : Int) ≤ 9223372036854775807 := by unfold maxLen at hm; omega
  clear HR hl hm
  by_cases hbig : 1048576 < (m : Int)
  · have d0 : 1048576 - (m : Int) < 0 := by omega
    go_enter Try.func27, Try.ntmps27
    go_wp2
    go_returns
    exact ⟨-1, rfl, .inl rfl, Below.refl _ _⟩
  have d0 : ¬ 1048576 - (m : Int) < 0 := by omega
  go_enter Try.func27, Try.ntmps27
  go_wp2
  go_loopw [1, 5] (fun u v wr => ∃ (k : Nat) (r : Int), k ≤ m ∧ v = .int .i64 (k : Int) ∧ u = .int .i64 r ∧ 0 ≤ r ∧ r ≤ 1048576 ∧ Hid (Below w.heap.size w wr ∧ ∀ j, j < k → ((rs j).tn : Int) ≤ 1048576 ∧ ((rs j).wn : Int) ≤ 1048576)) (fun _ v _ => m - (intOf v).toNat)
  case atStart => exact ⟨0, _, Nat.zero_le _, rfl, rfl, by omega, by omega, Below.refl _ _, fun j hj => by omega⟩
  case round =>
    obtain ⟨k, r, hk, rfl, rfl, hr0, hr1, HB⟩ := hrel
    by_cases hlt : k < m
    · have hlt2 : (k : Int) < (m : Int) := by omega
      obtain ⟨kb, off, rfl, hkb, hru⟩ : ∃ kb off, ra = some ⟨kb, off, none⟩ ∧ kb < w.heap.size ∧ RuAt w kb (off + k * 3) (rs k) := by
        rcases HRu.out with h | ⟨kb, off, e, hkb, hc⟩
        · omega
        · exact ⟨kb, off, e, hkb, hc k hlt⟩
      obtain ⟨ta, tc, wa, wc', r1, r2, r3, r4, r5, r6⟩ := hru
      have e1 : wr.cell? ⟨kb, off + k * 3, none⟩ = some (.int .i64 (rs k).frm) := by rw [World.cell?_of_block (w := w) (HB.out.1.block kb hkb)]; exact r1
      have e2 : wr.cell? ⟨kb, off + k * 3 + 1, none⟩ = some (.slice ta (rs k).tn tc) := by rw [World.cell?_of_block (w := w) (HB.out.1.block kb hkb)]; exact r2
      have e3 : wr.cell? ⟨kb, off + k * 3 + 2, none⟩ = some (.slice wa (rs k).wn wc') := by rw [World.cell?_of_block (w := w) (HB.out.1.block kb hkb)]; exact r3
      have hll := HL.out k hlt
      obtain ⟨tn, ht⟩ : ∃ t, (rs k).tn = t := ⟨_, rfl⟩
      obtain ⟨wn, hw⟩ : ∃ t, (rs k).wn = t := ⟨_, rfl⟩
      have Ht : Hid ((rs k).tn = tn ∧ (rs k).wn = wn) := ⟨ht, hw⟩
      rw [ht] at e2 hll
      rw [hw] at e3 hll
      clear r1 r2 r3 r4 r5 r6 ht hw
      by_cases hf : Fits r tn wn
      · have HF : Hid (Fits r tn wn) := hf
        obtain ⟨hf1, hf2⟩ := hf
        have d1 : ¬ r - (tn : Int) - (wn : Int) < 0 := by omega
        have HB2 : Hid (∀ j, j < k + 1 → ((rs j).tn : Int) ≤ 1048576 ∧ ((rs j).wn : Int) ≤ 1048576) := fun j hj => by
          by_cases e : j = k
          · subst e; rw [Ht.out.1, Ht.out.2]; omega
          · exact HB.out.2 j (by omega)
        go_wp2_with (go_at_call 65; refine (szRule_ok _ hr0 hr1 HF.out).mono ?_; rintro e w2 ⟨rfl, b2⟩; have HB3 : Hid (Below w.heap.size w w2) := bel_on HB.out.1 b2; clear b2)
        go_roundw
        case rel => exact ⟨k + 1, _, by omega, by go_num, rfl, by omega, by omega, HB3.out, HB2.out⟩
        case measure => simp [intOf]; omega
      · have HF : Hid (¬ Fits r tn wn) := hf
        clear hf
        go_wp2_with (go_at_call 65; refine (szRule_no _ hll.1 hll.2 hr0 hr1 HF.out).mono ?_; rintro e w2 ⟨rfl, b2⟩; have HB3 : Hid (Below w.heap.size w w2) := bel_on HB.out.1 b2; clear b2)
        go_returns
        exact ⟨-1, rfl, .inl rfl, HB3.out⟩
    · obtain rfl : k = m := by omega
      have lkk : ¬ (k : Int) < (k : Int) := by omega
      go_wp2
      go_returns
      exact ⟨r, rfl, by first | exact .inr ⟨hr0, hr1, by omega, HB.out.2⟩ | exact .inr ⟨hr0, hr1, HB.out.2⟩, HB.out.1⟩
end Go.Proofs.Ytjlniinahfgakaa
