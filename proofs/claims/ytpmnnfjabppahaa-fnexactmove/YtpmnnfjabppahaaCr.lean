/- StockOk of both sides answers 'stB'. -/
import Derived.Test.YtpmnnfjabppahaaCq
namespace Go.Proofs.Ytpmnnfjabppahaa
open Go.ChangeShapes Go.WideShapes Go.ChangeAt Go.RowKit
set_option linter.unusedVariables false
set_option linter.unusedSimpArgs false

def StP (n : Nat) (c : Nat → CE6) : Prop := CsP n c ∧ DisP n c
open Classical in
noncomputable def stB (n : Nat) (c : Nat → CE6) : Bool := decide (StP n c)
open Classical in
theorem stB_t {n : Nat} {c : Nat → CE6} (h : StP n c) : stB n c = true := by unfold stB; exact decide_eq_true h
open Classical in
theorem stB_f {n : Nat} {c : Nat → CE6} (h : ¬ StP n c) : stB n c = false := by unfold stB; exact decide_eq_false h
open Classical in
theorem stB_p {n : Nat} {c : Nat → CE6} (h : stB n c = true) : StP n c := by unfold stB at h; exact of_decide_eq_true h
theorem fnd_at {n k : Nat} {c : Nat → CE6} (h : DisP n c) (hk : k < n) : fnd n c (c k).key = (k : Int) := by
  rcases fstF_spec (isK c (c k).key) n 0 with ⟨e, g⟩ | ⟨j, e, _, hj, hp, hm⟩
  · exact absurd (g k (by omega) (by omega)) (by rw [isK_t rfl]; decide)
  · have hp := isK_p hp
    by_cases q : j = k
    · subst q; exact e
    · by_cases q2 : j < k
      · exact absurd hp (h j k q2 hk)
      · exact absurd hp.symm (h k j (by omega) (by omega))
theorem fnd_first {n k : Nat} {c : Nat → CE6} (hk : k < n) (h : fnd n c (c k).key = (k : Int)) : ∀ j, j < k → (c j).key ≠ (c k).key := by
  intro j hj q
  rcases fstF_spec (isK c (c k).key) n 0 with ⟨e, g⟩ | ⟨i, e, _, hi, hp, hm⟩
  · unfold fnd at h; rw [e] at h; omega
  · unfold fnd at h; rw [e] at h
    obtain rfl : i = k := by omega
    exact absurd (hm j (by omega) hj) (by rw [isK_t q]; decide)

theorem areRCell_eq (ad : Option Addr) (len cap : Nat) (c : Nat → CE6) (v : Bool) (w : World) (h : (len : Int) ≤ 1048576) (hr : CEr w ad len c) (hz : CZ c) (hv : csB len c = v) :
    Calls Try.prog 70 #[.slice ad len cap, .int .i64 100] w fun e w' => e = .returned (.bool v) ∧ Below w.heap.size w w' := by
  subst hv; exact areRCell_any ad len cap c w h hr hz

set_option maxRecDepth 20000 in
set_option maxHeartbeats 4000000 in
theorem implStock_any (ad : Option Addr) (len cap : Nat) (c : Nat → CE6) (w : World) (h : (len : Int) ≤ 1048576) (hr : CEr w ad len c) (hz : CZ c) :
    Calls Try.prog 18 #[.slice ad len cap] w fun e w' => e = .returned (.bool (stB len c)) ∧ Below w.heap.size w w' := by
  have HR : Hid (CEr w ad len c) := hr
  have HZ : Hid (CZ c) := hz
  clear hr hz
  cases hc : csB len c
  · have HV : Hid (stB len c = false) := stB_f fun H => by rw [csB_t H.1] at hc; cases hc
    have HC : Hid (csB len c = false) := hc
    clear hc
    go_enter Try.func18, Try.ntmps18
    go_wp2_with (go_at_call 70; refine (areRCell_eq ad len cap c false w h HR.out HZ.out HC.out).mono ?_; rintro e w1 ⟨rfl, b1⟩)
    go_returns
    exact ⟨ret_bool HV.out.symm, b1⟩
  have HV : Hid (stB len c = decide ((plS c len : Int) = (len : Int))) := hid (by
    by_cases q : plS c len = len
    · rw [stB_t ⟨csB_p hc, (plS_all len).1 q⟩]; simp [q]
    · rw [stB_f fun H => q ((plS_all len).2 H.2)]; exact (decide_eq_false (by omega)).symm)
  have HC : Hid (csB len c = true) := hc
  clear hc
  obtain ⟨s, hs⟩ : ∃ s, plS c len = s := ⟨_, rfl⟩
  rw [hs] at HV
  have HS : Hid (plS c len = s) := hs
  clear hs
  go_enter Try.func18, Try.ntmps18
  go_wp2_with (first
    | (go_at_call 70; refine (areRCell_eq ad len cap c true w h HR.out HZ.out HC.out).mono ?_; rintro e w1 ⟨rfl, b1⟩; have HB1 : Hid (Below w.heap.size w w1) := b1; clear b1)
    | (go_at_call 71; refine (places_any ad len cap c _ h (HR.out.below HB1.out) HZ.out).mono ?_; rintro e w2 ⟨b, rfl, hm, b2⟩; have HB2 : Hid (Below w.heap.size w w2) := bel_on HB1.out b2; have HM : Hid (MK w2 b s (plF c len)) := hid (by have := hm.out.1; rw [HS.out] at this; exact this); have hln : ∀ ty, (Builtin.len_ #[99] ty #[.map (some b)]).run Try.prog w2 = .ok (.int .i64 (s : Int)) w2 := fun ty => HM.out.len ty; clear hm b2))
  all_goals go_returns
  all_goals exact ⟨ret_bool (by rw [HV.out]; simp [Bool.beq_eq_decide_eq]), HB2.out⟩
theorem implStock_eq (ad : Option Addr) (len cap : Nat) (c : Nat → CE6) (v : Bool) (w : World) (h : (len : Int) ≤ 1048576) (hr : CEr w ad len c) (hz : CZ c) (hv : stB len c = v) :
    Calls Try.prog 18 #[.slice ad len cap] w fun e w' => e = .returned (.bool v) ∧ Below w.heap.size w w' := by
  subst hv; exact implStock_any ad len cap c w h hr hz

set_option maxRecDepth 20000 in
set_option maxHeartbeats 4000000 in
theorem specStock_any (ad : Option Addr) (len cap : Nat) (c : Nat → CE6) (w : World) (h : (len : Int) ≤ 1048576) (hr : CEr w ad len c) (hz : CZ c) :
    Calls Try.prog 35 #[.slice ad len cap] w fun e w' => e = .returned (.bool (stB len c)) ∧ Below w.heap.size w w' := by
  have HR : Hid (CEr w ad len c) := hr
  have HZ : Hid (CZ c) := hz
  clear hr hz
  by_cases h6 : (100 : Int) < (len : Int)
  · have HV : Hid (stB len c = false) := stB_f fun H => by have := H.1.1; omega
    go_enter Try.func35, Try.ntmps35
    go_wp2
    go_returns
    exact ⟨ret_bool HV.out.symm, Below.refl _ _⟩
  go_enter Try.func35, Try.ntmps35
  go_wp2
  go_loopw [3] (fun i wr => ∃ (k : Nat), k ≤ len ∧ i = .int .i64 (k : Int) ∧ Hid (∀ j, j < k → ceB (c j) = true ∧ fnd len c (c j).key = (j : Int)) ∧ Hid (Below w.heap.size w wr)) (fun i _ => len - (intOf i).toNat)
  case atStart => exact ⟨0, Nat.zero_le _, rfl, fun j hj => by omega, Below.refl _ _⟩
  case round =>
    obtain ⟨k, hk, rfl, hP, HB⟩ := hrel
    by_cases hlt : k < len
    · have hlt2 : (k : Int) < (len : Int) := by omega
      obtain ⟨kb, off, rfl, hkb⟩ := HR.out.addr (by omega)
      have A1 := (HR.out.below HB.out).cell hlt
      have hsz := HZ.out k
      have HSZ : Hid ((c k).item.size ≤ maxLen ∧ (c k).place.size ≤ maxLen ∧ (c k).lot.size ≤ maxLen) := hsz
      clear hsz
      obtain ⟨c0, c1, c2, c3, c4, c5⟩ := A1
      cases g : ceB (c k)
      · have HV : Hid (stB len c = false) := stB_f fun H => by have := H.1.2 k hlt; rw [g] at this; cases this
        have HG : Hid (ceB (c k) = false) := g
        clear g
        go_wp2_with (go_at_call 97; refine (l15Cell_eq (c k) _ _ HSZ.out.1 HSZ.out.2.1 HSZ.out.2.2 HG.out).mono ?_; rintro e w1 ⟨rfl, b1⟩; have HB1 : Hid (Below w.heap.size w w1) := bel_on HB.out b1; clear b1)
        go_returns
        exact ⟨ret_bool HV.out.symm, HB1.out⟩
      have HG : Hid (ceB (c k) = true) := g
      clear g
      obtain ⟨f, hf⟩ : ∃ f, fnd len c (c k).key = f := ⟨_, rfl⟩
      have HF : Hid (fnd len c (c k).key = f) := hf
      clear hf
      by_cases g : f = (k : Int)
      · have g1 : (f != (k : Int)) = false := by simp [g]
        have HN : Hid (∀ j, j < k + 1 → ceB (c j) = true ∧ fnd len c (c j).key = (j : Int)) := fun j hj => by
          by_cases q : j = k
          · subst q; exact ⟨HG.out, HF.out.trans g⟩
          · exact hP.out j (by omega)
        clear g
        go_wp2_with (first
          | (go_at_call 97; refine (l15Cell_eq (c k) _ _ HSZ.out.1 HSZ.out.2.1 HSZ.out.2.2 HG.out).mono ?_; rintro e w1 ⟨rfl, b1⟩; have HB1 : Hid (Below w.heap.size w w1) := bel_on HB.out b1; have d0 := keep_cell b1 c0; have d1 := keep_cell b1 c1; have d2 := keep_cell b1 c2; have d3 := keep_cell b1 c3; have d4 := keep_cell b1 c4; have d5 := keep_cell b1 c5; clear b1)
          | (go_at_call 98; refine (find_eq _ len cap c (c k) _ _ h (HR.out.below HB1.out) HF.out).mono ?_; rintro e w2 ⟨rfl, b2⟩; have HB2 : Hid (Below w.heap.size w w2) := bel_on HB1.out b2; clear b2))
        go_roundw
        case rel => exact ⟨k + 1, by omega, by go_num, HN, HB2⟩
        case measure => simp [intOf]; omega
      · have g1 : (f != (k : Int)) = true := by simp [g]
        have HV : Hid (stB len c = false) := stB_f fun H => g (by rw [← HF.out]; exact fnd_at H.2 hlt)
        clear g
        go_wp2_with (first
          | (go_at_call 97; refine (l15Cell_eq (c k) _ _ HSZ.out.1 HSZ.out.2.1 HSZ.out.2.2 HG.out).mono ?_; rintro e w1 ⟨rfl, b1⟩; have HB1 : Hid (Below w.heap.size w w1) := bel_on HB.out b1; have d0 := keep_cell b1 c0; have d1 := keep_cell b1 c1; have d2 := keep_cell b1 c2; have d3 := keep_cell b1 c3; have d4 := keep_cell b1 c4; have d5 := keep_cell b1 c5; clear b1)
          | (go_at_call 98; refine (find_eq _ len cap c (c k) _ _ h (HR.out.below HB1.out) HF.out).mono ?_; rintro e w2 ⟨rfl, b2⟩; have HB2 : Hid (Below w.heap.size w w2) := bel_on HB1.out b2; clear b2))
        go_returns
        exact ⟨ret_bool HV.out.symm, HB2.out⟩
    · obtain rfl : k = len := by omega
      have lkk : ¬ (k : Int) < (k : Int) := by omega
      have HV : Hid (stB k c = true) := stB_t ⟨⟨by omega, fun j hj => (hP.out j hj).1⟩, fun i j hij hj => fnd_first hj (hP.out j hj).2 i hij⟩
      go_wp2
      go_returns
      exact ⟨ret_bool HV.out.symm, HB.out⟩
theorem specStock_eq (ad : Option Addr) (len cap : Nat) (c : Nat → CE6) (v : Bool) (w : World) (h : (len : Int) ≤ 1048576) (hr : CEr w ad len c) (hz : CZ c) (hv : stB len c = v) :
    Calls Try.prog 35 #[.slice ad len cap] w fun e w' => e = .returned (.bool v) ∧ Below w.heap.size w w' := by
  subst hv; exact specStock_any ad len cap c w h hr hz
end Go.Proofs.Ytpmnnfjabppahaa
