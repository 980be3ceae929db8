/- The program's GroupOk. -/
import Derived.Test.YtoihiamafbokbaaDoorGi
namespace Go.Proofs.YtoihiamafbokbaaDoor
open Go.ChangeShapes Go.WideShapes Go.ChangeAt Go.RowKit
set_option linter.unusedVariables false
set_option linter.unusedSimpArgs false

set_option maxRecDepth 20000 in
set_option maxHeartbeats 1000000 in
theorem isOf_in (fa : Option Addr) (len cap : Nat) (c : Nat → C3) (d u : Int) (T i b : Nat) (x : Int) (w : World) (hT : Tree w T len c) (hi : i < tn len c) (hc : w.cell? ⟨b, 0, none⟩ = some (.int .i64 x)) (hb : b < w.heap.size) :
    Calls Tryd.prog 69 #[.agg #[.slice fa len cap, .int .i64 d, .int .i64 u, .pointer (some ⟨T, 0, none⟩)], .int .i64 (i : Int), .slice (some ⟨b, 0, none⟩) 1 1] w fun e w' => e = .returned (.bool (decide ((c i).step = x))) ∧ Below w.heap.size w w' := by
  obtain ⟨base, mp, N, S, ns, h⟩ := hT.alloc (.cells #[.slice fa len cap, .int .i64 d, .int .i64 u, .pointer (some ⟨T, 0, none⟩)] 54 (0, 0))
  have nd := h.node (i + 1) (by omega)
  have n2 : _ = some (Value.int .i64 (c i).step) := (nd.cell 2).trans rfl
  have HT : Hid (TR Tryd.prog (w.alloc (.cells #[.slice fa len cap, .int .i64 d, .int .i64 u, .pointer (some ⟨T, 0, none⟩)] 54 (0, 0))) base T mp (tn len c) c N S ns) := h
  have hc2 : (w.alloc (.cells #[.slice fa len cap, .int .i64 d, .int .i64 u, .pointer (some ⟨T, 0, none⟩)] 54 (0, 0))).cell? ⟨b, 0, none⟩ = some (.int .i64 x) := by
    rw [World.cell?_of_block (w := w) (heap_alloc_old _ _ hb)]; exact hc
  obtain ⟨s, hs⟩ : ∃ s, (c i).step = s := ⟨_, rfl⟩
  rw [hs] at n2 ⊢
  have HCN : Hid (Calls Tryd.prog 80 #[.slice (some ⟨b, 0, none⟩) 1 1, .int .i64 s] (w.alloc (.cells #[.slice fa len cap, .int .i64 d, .int .i64 u, .pointer (some ⟨T, 0, none⟩)] 54 (0, 0))) fun e w' => e = .returned (.bool (decide (s = x))) ∧ w' = (w.alloc (.cells #[.slice fa len cap, .int .i64 d, .int .i64 u, .pointer (some ⟨T, 0, none⟩)] 54 (0, 0)))) := contains_one b x s _ hc2
  clear h nd hs hc hc2
  go_enter Tryd.func69, Tryd.ntmps69
  go_wp2_with (first
    | (go_at_call 79; refine (at_in i _ HT.out (tn_le len c).2 hi).mono ?_; rintro e w3 ⟨rfl, ew⟩; replace ew := ew.symm; subst ew)
    | (go_at_call 80; refine HCN.out.mono ?_; rintro e w3 ⟨rfl, ew⟩; replace ew := ew.symm; subst ew))
  go_returns
  exact ⟨rfl, (Below.refl _ _).alloc (Nat.le_refl _) _⟩

set_option maxRecDepth 20000 in
set_option maxHeartbeats 1000000 in
theorem isLeafOf_eq (fa : Option Addr) (len cap : Nat) (c : Nat → C3) (d u : Int) (T : Nat) (x : Int) {v : Bool} (w : World) (hT : Tree w T len c) (hv : eqtB len c x = v) :
    Calls Tryd.prog 52 #[.agg #[.slice fa len cap, .int .i64 d, .int .i64 u, .pointer (some ⟨T, 0, none⟩)], .int .i64 x, .int .i64 3] w fun e w' => e = .returned (.bool v) ∧ Below w.heap.size w w' := by
  subst hv
  have HT : Hid (Tree (w.alloc (.cells #[.slice fa len cap, .int .i64 d, .int .i64 u, .pointer (some ⟨T, 0, none⟩)] 54 (0, 0))) T len c) := hT.alloc _
  clear hT
  unfold eqtB
  cases hv : leafB len c x with
  | false =>
    go_enter Tryd.func52, Tryd.ntmps52
    go_wp2_with (go_at_call 68; refine (HT.out.leaf _).mono ?_; rintro e w3 ⟨rfl, ew⟩; replace ew := ew.symm; subst ew; rw [hv])
    go_returns
    exact ⟨rfl, (Below.refl _ _).alloc (Nat.le_refl _) _⟩
  | true =>
    have hin := leaf_in hv
    obtain ⟨i, rfl⟩ : ∃ i : Nat, x = (i : Int) := ⟨x.toNat, by omega⟩
    have hi : i < tn len c := by omega
    simp only [Int.toNat_natCast]
    have HIO : Hid (Calls Tryd.prog 69 #[.agg #[.slice fa len cap, .int .i64 d, .int .i64 u, .pointer (some ⟨T, 0, none⟩)], .int .i64 (i : Int), .slice (some ⟨w.heap.size + 1, 0, none⟩) 1 1] ((w.alloc (.cells #[.slice fa len cap, .int .i64 d, .int .i64 u, .pointer (some ⟨T, 0, none⟩)] 54 (0, 0))).alloc (.cells #[.int .i64 3] 3 (0, 0))) fun e w' => e = .returned (.bool (decide ((c i).step = 3))) ∧ Below ((w.alloc (.cells #[.slice fa len cap, .int .i64 d, .int .i64 u, .pointer (some ⟨T, 0, none⟩)] 54 (0, 0))).alloc (.cells #[.int .i64 3] 3 (0, 0))).heap.size ((w.alloc (.cells #[.slice fa len cap, .int .i64 d, .int .i64 u, .pointer (some ⟨T, 0, none⟩)] 54 (0, 0))).alloc (.cells #[.int .i64 3] 3 (0, 0))) w') := isOf_in fa len cap c d u T i (w.heap.size + 1) 3 _ (HT.out.alloc _) hi (((CB.newAt (by simp) _ _).cell 0).trans rfl) (by simp)
    have HB2 : Hid (Below w.heap.size w ((w.alloc (.cells #[.slice fa len cap, .int .i64 d, .int .i64 u, .pointer (some ⟨T, 0, none⟩)] 54 (0, 0))).alloc (.cells #[.int .i64 3] 3 (0, 0)))) := ((Below.refl _ _).alloc (Nat.le_refl _) _).alloc (by simp) _
    clear hin hi
    go_enter Tryd.func52, Tryd.ntmps52
    go_wp2_with (first
      | (go_at_call 68; refine (HT.out.leaf _).mono ?_; rintro e w3 ⟨rfl, ew⟩; replace ew := ew.symm; subst ew; rw [hv])
      | (go_at_call 69; go_loud (refine HIO.out.mono ?_; rintro e w4 ⟨rfl, b4⟩; have HB4 : Hid (Below w.heap.size w w4) := bel_on HB2.out b4; clear b4)))
    go_returns
    exact ⟨by simp, HB4.out⟩

/-- The value of a group that is laid out. -/
def oAgg (fa : Option Addr) (len cap : Nat) (u : Int) (T : Nat) (ra : Option Addr) (m rcap : Nat) (mi sf : Int) : Array Value := #[.slice fa len cap, .int .i64 1, .int .i64 u, .pointer (some ⟨T, 0, none⟩), .slice ra m rcap, .int .i64 mi, .int .i64 sf]
def MeOk (len : Nat) (c : Nat → C3) (u : Int) (m : Nat) (ms : Nat → M4) : Prop := inB (m : Int) 1 12 = true ∧ ∀ i, i < m → MOk u len c i (ms i)
open Classical in
noncomputable def meB (len : Nat) (c : Nat → C3) (u : Int) (m : Nat) (ms : Nat → M4) : Bool := decide (MeOk len c u m ms)
open Classical in
theorem meB_t {len : Nat} {c : Nat → C3} {u : Int} {m : Nat} {ms : Nat → M4} (h : MeOk len c u m ms) : meB len c u m ms = true := decide_eq_true h
open Classical in
theorem meB_f {len : Nat} {c : Nat → C3} {u : Int} {m : Nat} {ms : Nat → M4} (h : ¬ MeOk len c u m ms) : meB len c u m ms = false := decide_eq_false h
open Classical in
theorem meB_iff {len : Nat} {c : Nat → C3} {u : Int} {m : Nat} {ms : Nat → M4} : meB len c u m ms = true ↔ MeOk len c u m ms := by unfold meB; simp

set_option maxRecDepth 20000 in
set_option maxHeartbeats 4000000 in
theorem areMembers_eq (fa : Option Addr) (len cap : Nat) (c : Nat → C3) (u : Int) (T : Nat) (ra : Option Addr) (m rcap : Nat) (ms : Nat → M4) (mi sf : Int) {v : Bool} (w : World) (hl : (len : Int) ≤ 1048576) (hT : Tree w T len c) (hm : (m : Int) ≤ 1048576) (htn : ∀ j, j < m → ((ms j).tn : Int) ≤ 1048576) (HM : MR w ra m ms) (hv : meB len c u m ms = v) :
    Calls Tryd.prog 51 #[.agg (oAgg fa len cap u T ra m rcap mi sf)] w fun e w' => e = .returned (.bool v) ∧ Below w.heap.size w w' := by
  subst hv
  unfold oAgg
  have HT : Hid (Tree w T len c) := hT
  have HME : Hid (MR w ra m ms) := HM
  have HN : Hid (∀ j, j < m → ((ms j).tn : Int) ≤ 1048576) := htn
  clear HM htn hT
  by_cases hm1 : (m : Int) < 1
  · have HF : Hid (meB len c u m ms = false) := meB_f (fun q => by have := inB_iff.1 q.1; omega)
    have d1 : decide ((m : Int) < 1) = true := decide_eq_true hm1
    go_enter Tryd.func51, Tryd.ntmps51
    go_wp2
    go_returns
    exact ⟨ret_bool HF.out.symm, (Below.refl _ _).alloc (Nat.le_refl _) _⟩
  have d1 : decide ((m : Int) < 1) = false := decide_eq_false hm1
  by_cases hm2 : 12 < (m : Int)
  · have HF : Hid (meB len c u m ms = false) := meB_f (fun q => by have := inB_iff.1 q.1; omega)
    have d2 : decide (12 < (m : Int)) = true := decide_eq_true hm2
    go_enter Tryd.func51, Tryd.ntmps51
    go_wp2
    go_returns
    exact ⟨ret_bool HF.out.symm, (Below.refl _ _).alloc (Nat.le_refl _) _⟩
  have d2 : decide (12 < (m : Int)) = false := decide_eq_false hm2
  go_enter Tryd.func51, Tryd.ntmps51
  go_wp2
  clear d1 d2
  have hm3 : 1 ≤ (m : Int) := by omega
  have hm4 : (m : Int) ≤ 12 := by omega
  clear hm1 hm2
  go_loopw [3, 4, 18] (fun _ _ i wr => ∃ (k : Nat), k ≤ m ∧ i = .int .i64 (k : Int) ∧ Hid (CB wr w.heap.size #[.slice fa len cap, .int .i64 1, .int .i64 u, .pointer (some ⟨T, 0, none⟩), .slice ra m rcap, .int .i64 mi, .int .i64 sf] 56 ∧ (∀ j, j < k → MOk u len c j (ms j)) ∧ Below w.heap.size w wr)) (fun _ _ i _ => m - (intOf i).toNat)
  case atStart => exact ⟨0, Nat.zero_le _, rfl, CB.new _ _, fun j hj => by omega, (Below.refl _ _).alloc (Nat.le_refl _) _⟩
  case round =>
    obtain ⟨k, hk, rfl, HK⟩ := hrel
    by_cases hlt : k < m
    · have hlt2 : (k : Int) < (m : Int) := by omega
      obtain ⟨kb, off, rfl, hkb, hru⟩ := HME.out.get hlt
      obtain ⟨ta, tc, c1, c2, c3, c4, r5⟩ := hru.below hkb HK.out.2.2
      have hnk := HN.out k hlt
      obtain ⟨p, hp⟩ : ∃ f, (ms k).par = f := ⟨_, rfl⟩
      obtain ⟨s, hs⟩ : ∃ f, (ms k).sh = f := ⟨_, rfl⟩
      obtain ⟨cu, hcu⟩ : ∃ f, (ms k).cur = f := ⟨_, rfl⟩
      obtain ⟨tl, ht⟩ : ∃ t, (ms k).tn = t := ⟨_, rfl⟩
      rw [ht] at c4 r5 hnk
      rw [hp] at c1
      rw [hs] at c2
      rw [hcu] at c3
      have hmo : (MOk u len c k (ms k) ↔ ((k = 0 ∧ p = -1 ∧ s = 10000) ∨ (0 < k ∧ 0 ≤ p ∧ p < (k : Int) ∧ 1 ≤ s ∧ s ≤ 10000)) ∧ (0 ≤ cu ∧ cu < u) ∧ TrOk len c tl (ms k).tr) := by unfold MOk MHeld; rw [hp, hs, hcu, ht]
      have HMO : Hid (MOk u len c k (ms k) ↔ ((k = 0 ∧ p = -1 ∧ s = 10000) ∨ (0 < k ∧ 0 ≤ p ∧ p < (k : Int) ∧ 1 ≤ s ∧ s ≤ 10000)) ∧ (0 ≤ cu ∧ cu < u) ∧ TrOk len c tl (ms k).tr) := hmo
      have HT5 : Hid (IR w ta tl (ms k).tr) := by
        obtain ⟨ta', tc', _, _, _, g4, g5⟩ := hru
        have : w.cell? ⟨kb, off + k * 4 + 3, none⟩ = some (.slice ta tl tc) := by rw [← World.cell?_of_block (w := w) (HK.out.2.2.block kb hkb)]; exact c4
        rw [g4] at this
        simp only [Option.some.injEq, Value.slice.injEq] at this
        obtain ⟨rfl, rfl, rfl⟩ := this
        exact g5
      have hal : Below wr.heap.size wr (wr.alloc (.cells #[.int .i64 p, .int .i64 s, .int .i64 cu, .slice ta tl tc] 46 (0, 0))) := (Below.refl _ _).alloc (Nat.le_refl _) _
      have HAL : Hid (Below w.heap.size w (wr.alloc (.cells #[.int .i64 p, .int .i64 s, .int .i64 cu, .slice ta tl tc] 46 (0, 0)))) := bel_on HK.out.2.2 hal
      have HNO2 : Hid (¬ MOk u len c k (ms k) → meB len c u m ms = false) := fun q => meB_f (fun g => q (g.2 k hlt))
      have hltw : w.heap.size < wr.heap.size := HK.out.1.lt
      clear hal hru r5 hp hs hcu ht hmo
      cases e1 : hdB k p s with
      | false =>
        have HF : Hid (meB len c u m ms = false) := HNO2.out (fun q => by have := hdB_iff.2 (HMO.out.1 q).1; rw [e1] at this; cases this)
        go_wp2_with (go_at_call 65; refine (isHeldAt_any _ _ _ _ _ _ k _ (by omega)).mono ?_; rintro e w4 ⟨rfl, b4⟩; rw [e1]; have HB4 : Hid (Below w.heap.size w w4) := bel_on HAL.out b4; clear b4)
        go_returns
        exact ⟨ret_bool HF.out.symm, HB4.out⟩
      | true =>
        cases e2 : plB cu u with
        | false =>
          have HF : Hid (meB len c u m ms = false) := HNO2.out (fun q => by have := plB_iff.2 (HMO.out.1 q).2.1; rw [e2] at this; cases this)
          go_wp2_with (first
            | (go_at_call 65; go_loud (refine (isHeldAt_any _ _ _ _ _ _ k _ (by omega)).mono ?_; rintro e w4 ⟨rfl, b4⟩; rw [e1]; have X4 := (HK.out.1.alloc _).below b4 (HK.out.1.alloc _).lt; have Y4 := (CB.new (w := wr) #[.int .i64 p, .int .i64 s, .int .i64 cu, .slice ta tl tc] 46).below b4 (by simp); have x2 := (X4.cell 2).trans rfl; have y2 := (Y4.cell 2).trans rfl; have HB4 : Hid (Below w.heap.size w w4) := bel_on HAL.out b4; clear b4 X4 Y4))
            | (go_at_call 66; refine (isPlaceOf_any _ _ _).mono ?_; rintro e w5 ⟨rfl, ew⟩; replace ew := ew.symm; subst ew; rw [e2]))
          go_returns
          exact ⟨ret_bool HF.out.symm, HB4.out⟩
        | true =>
          cases e3 : trB len c tl (ms k).tr with
          | false =>
            have HF : Hid (meB len c u m ms = false) := HNO2.out (fun q => by have := trB_t (HMO.out.1 q).2.2; rw [e3] at this; cases this)
            go_wp2_with (first
              | (go_at_call 65; go_loud (refine (isHeldAt_any _ _ _ _ _ _ k _ (by omega)).mono ?_; rintro e w4 ⟨rfl, b4⟩; rw [e1]; have X4 := (HK.out.1.alloc _).below b4 (HK.out.1.alloc _).lt; have Y4 := (CB.new (w := wr) #[.int .i64 p, .int .i64 s, .int .i64 cu, .slice ta tl tc] 46).below b4 (by simp); have x0 := (X4.cell 0).trans rfl; have x1 := (X4.cell 1).trans rfl; have x2 := (X4.cell 2).trans rfl; have x3 := (X4.cell 3).trans rfl; have y2 := (Y4.cell 2).trans rfl; have y3 := (Y4.cell 3).trans rfl; have HB4 : Hid (Below w.heap.size w w4) := bel_on HAL.out b4; clear b4 X4 Y4))
              | (go_at_call 66; refine (isPlaceOf_any _ _ _).mono ?_; rintro e w5 ⟨rfl, ew⟩; replace ew := ew.symm; subst ew; rw [e2])
              | (go_at_call 67; go_loud (refine (takesTrial_eq _ _ _ c _ _ T _ _ _ (ms k).tr _ (HT.out.below HB4.out) hl hnk (HT5.out.below HB4.out) e3).mono ?_; rintro e w6 ⟨rfl, b6⟩; have HB6 : Hid (Below w.heap.size w w6) := bel_on HB4.out b6; clear b6)))
            go_returns
            exact ⟨ret_bool HF.out.symm, HB6.out⟩
          | true =>
            have HMN : Hid (∀ j, j < k + 1 → MOk u len c j (ms j)) := fun j hj => by
              by_cases e : j = k
              · subst e; exact HMO.out.2 ⟨hdB_iff.1 e1, plB_iff.1 e2, trB_iff.1 e3⟩
              · exact HK.out.2.1 j (by omega)
            go_wp2_with (first
              | (go_at_call 65; go_loud (refine (isHeldAt_any _ _ _ _ _ _ k _ (by omega)).mono ?_; rintro e w4 ⟨rfl, b4⟩; rw [e1]; have X4 := (HK.out.1.alloc _).below b4 (HK.out.1.alloc _).lt; have Y4 := (CB.new (w := wr) #[.int .i64 p, .int .i64 s, .int .i64 cu, .slice ta tl tc] 46).below b4 (by simp); have x0 := (X4.cell 0).trans rfl; have x1 := (X4.cell 1).trans rfl; have x2 := (X4.cell 2).trans rfl; have x3 := (X4.cell 3).trans rfl; have y2 := (Y4.cell 2).trans rfl; have y3 := (Y4.cell 3).trans rfl; have HB4 : Hid (Below w.heap.size w w4) := bel_on HAL.out b4; have HX4 : Hid (CB w4 w.heap.size #[.slice fa len cap, .int .i64 1, .int .i64 u, .pointer (some ⟨T, 0, none⟩), .slice (some ⟨kb, off, none⟩) m rcap, .int .i64 mi, .int .i64 sf] 56) := X4; clear b4 X4 Y4))
              | (go_at_call 66; refine (isPlaceOf_any _ _ _).mono ?_; rintro e w5 ⟨rfl, ew⟩; replace ew := ew.symm; subst ew; rw [e2])
              | (go_at_call 67; go_loud (refine (takesTrial_eq _ _ _ c _ _ T _ _ _ (ms k).tr _ (HT.out.below HB4.out) hl hnk (HT5.out.below HB4.out) e3).mono ?_; rintro e w6 ⟨rfl, b6⟩; have HX6 : Hid (CB w6 w.heap.size #[.slice fa len cap, .int .i64 1, .int .i64 u, .pointer (some ⟨T, 0, none⟩), .slice (some ⟨kb, off, none⟩) m rcap, .int .i64 mi, .int .i64 sf] 56) := HX4.out.below b6 HX4.out.lt; have HB6 : Hid (Below w.heap.size w w6) := bel_on HB4.out b6; clear b6)))
            go_roundw
            case rel => exact ⟨k + 1, by omega, by go_num, HX6.out, HMN.out, HB6.out⟩
            case measure => simp [intOf]; omega
    · obtain rfl : k = m := by omega
      have lkk : ¬ (k : Int) < (k : Int) := by omega
      have HF : Hid (meB len c u k ms = true) := meB_t ⟨inB_t hm3 hm4, HK.out.2.1⟩
      go_wp2
      go_returns
      exact ⟨ret_bool HF.out.symm, HK.out.2.2⟩
end Go.Proofs.YtoihiamafbokbaaDoor
