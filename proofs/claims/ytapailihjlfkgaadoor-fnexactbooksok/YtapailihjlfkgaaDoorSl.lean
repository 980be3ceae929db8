/- A code's place and whether an account is a leaf, in the model; both sides by one plain answer. -/
import Derived.Test.YtapailihjlfkgaaDoorSc
namespace Go.Proofs.YtapailihjlfkgaaDoor
open Go.ChangeShapes Go.WideShapes Go.ChangeAt Go.RowKit
set_option linter.unusedVariables false
set_option linter.unusedSimpArgs false

theorem codeAt_hit {c : Nat → C3} {n i : Nat} (R : RightTo c n) (hi : i < n) {x : ByteArray} (hx : (c i).code = x) : codeAt c n x = some i := by
  cases e : codeAt c n x with
  | none => exact absurd hx (codeAt_none e i hi)
  | some j =>
    obtain ⟨h1, h2⟩ := codeAt_some e
    rcases Nat.lt_trichotomy i j with q | q | q
    · exact absurd (hx.trans h2.symm) ((R j h1).once i q)
    · rw [q]
    · exact absurd (h2.trans hx.symm) ((R i hi).once j q)
theorem findI_hit {c : Nat → C3} {n i : Nat} (R : RightTo c n) (hi : i < n) {x : ByteArray} (hx : (c i).code = x) : findI c n x = (i : Int) := by unfold findI; rw [codeAt_hit R hi hx]
theorem findI_none {c : Nat → C3} {n : Nat} {x : ByteArray} (h : ∀ k, k < n → (c k).code ≠ x) : findI c n x = -1 := by unfold findI; rw [codeAt_no h]

theorem specChartOk_eq (ad : Option Addr) (len cap : Nat) (c : Nat → C3) {v : Bool} (w : World) (hl : (len : Int) ≤ 1048576) (hc : ∀ j, (c j).code.size ≤ maxLen) (hr : CR w ad len c) (hv : chartB len c = v) :
    Calls Tryd.prog 63 #[.slice ad len cap] w fun e w' => e = .returned (.bool v) ∧ Below w.heap.size w w' := hv ▸ specChartOk_any ad len cap c w hl hc hr

open Classical in
noncomputable def leafB (len : Nat) (c : Nat → C3) (x : Int) : Bool := decide (0 ≤ x ∧ x < (tn len c : Int) ∧ ∀ j, j < tn len c → par c j ≠ x)
theorem leafB_out {len : Nat} {c : Nat → C3} {x : Int} (h : ¬ (0 ≤ x ∧ x < (tn len c : Int))) : leafB len c x = false := by
  unfold leafB
  exact decide_eq_false (fun q => h ⟨q.1, q.2.1⟩)
theorem leafB_no {len : Nat} {c : Nat → C3} {x : Int} {j : Nat} (hj : j < tn len c) (h : par c j = x) : leafB len c x = false := by
  unfold leafB
  exact decide_eq_false (fun q => q.2.2 j hj h)
theorem leafB_yes {len : Nat} {c : Nat → C3} {x : Int} (h1 : 0 ≤ x) (h2 : x < (tn len c : Int)) (h : ∀ j, j < tn len c → par c j ≠ x) : leafB len c x = true := by
  unfold leafB
  exact decide_eq_true ⟨h1, h2, h⟩

set_option maxRecDepth 20000 in
set_option maxHeartbeats 2000000 in
theorem specLeaf_any (ad : Option Addr) (len cap : Nat) (c : Nat → C3) (x : Int) (w : World) (hl : (len : Int) ≤ 1048576) (hc : ∀ j, (c j).code.size ≤ maxLen) (hr : CR w ad len c) :
    Calls Tryd.prog 28 #[.slice ad len cap, .int .i64 x] w fun e w' => e = .returned (.bool (leafB len c x)) ∧ Below w.heap.size w w' := by
  have HR : Hid (CR w ad len c) := hr
  have HL : Hid (∀ j, (c j).code.size ≤ maxLen) := hc
  clear hr hc
  cases hv : chartB len c with
  | false =>
    have HF : Hid (leafB len c x = false) := leafB_out (by
      have : tn len c = 0 := by unfold tn; rw [hv]; rfl
      rw [this]; omega)
    go_enter Tryd.func28, Tryd.ntmps28
    go_wp2_with (go_at_call 63; refine (specChartOk_eq _ _ _ c _ hl HL.out HR.out hv).mono ?_; rintro e w' ⟨rfl, hb⟩; have HB : Hid (Below w.heap.size w w') := hb; clear hb)
    go_returns
    rw [HF.out]
    exact ⟨rfl, HB.out⟩
  | true =>
    have hq := chartB_iff.1 hv
    have htn : Hid (tn len c = len) := by show tn len c = len; unfold tn; rw [if_pos hv]
    have h120 : len ≤ 120 := hq.2.1
    clear hq
    cases hin : inB x 0 ((len : Int) - 1) with
    | false =>
      have HF : Hid (leafB len c x = false) := leafB_out (by
        rw [htn.out]
        intro q
        rw [inB_t q.1 (by omega)] at hin; cases hin)
      go_enter Tryd.func28, Tryd.ntmps28
      go_wp2_with (first
        | (go_at_call 63; refine (specChartOk_eq _ _ _ c _ hl HL.out HR.out hv).mono ?_; rintro e w' ⟨rfl, hb⟩; have HB : Hid (Below w.heap.size w w') := hb; clear hb)
        | (go_at_call 43; refine (l1In_any _ _ _ _).mono ?_; rintro e w2 ⟨rfl, ew⟩; replace ew := ew.symm; subst ew))
      go_returns
      rw [HF.out]
      exact ⟨rfl, HB.out⟩
    | true =>
      have hx := inB_iff.1 hin
      go_enter Tryd.func28, Tryd.ntmps28
      go_wp2_with (first
        | (go_at_call 63; refine (specChartOk_eq _ _ _ c _ hl HL.out HR.out hv).mono ?_; rintro e w' ⟨rfl, hb⟩; have HB : Hid (Below w.heap.size w w') := hb; have HR2 : Hid (CR w' ad len c) := HR.out.below hb; clear hb)
        | (go_at_call 43; refine (l1In_any _ _ _ _).mono ?_; rintro e w2 ⟨rfl, ew⟩; replace ew := ew.symm; subst ew))
      go_loop [5] (fun i => ∃ (k : Nat), k ≤ len ∧ i = .int .i64 (k : Int) ∧ (∀ j, j < k → par c j ≠ x)) (fun i => len - (intOf i).toNat)
      case atStart => exact ⟨0, Nat.zero_le _, rfl, fun i hi => by omega⟩
      case round =>
        obtain ⟨k, hk, rfl, hN⟩ := hrel
        have HN : Hid (∀ j, j < k → par c j ≠ x) := hN
        clear hN
        by_cases hlt : k < len
        · obtain ⟨kb, off, rfl, hkb⟩ := HR2.out.addr (by omega)
          have hlt2 : (k : Int) < (len : Int) := by omega
          obtain ⟨_, c2, _⟩ := HR2.out.cell hlt
          have hp : (c k).places = par c k := rfl
          rw [hp] at c2
          by_cases g : par c k = x
          · have HF : Hid (leafB len c x = false) := leafB_no (by rw [htn.out]; exact hlt) g
            have e1 := eq_t g
            generalize par c k = y at c2 e1
            clear g hp
            go_wp2
            go_returns
            rw [HF.out]
            exact ⟨rfl, HB.out⟩
          · have HN2 : Hid (∀ j, j < k + 1 → par c j ≠ x) := fun j hj => by
              by_cases e : j = k
              · subst e; exact g
              · exact HN.out j (by omega)
            have e1 := eq_f g
            generalize par c k = y at c2 e1
            clear g hp
            go_wp2
            go_round
            case rel => exact ⟨k + 1, by omega, by go_num, HN2.out⟩
            case measure => simp [intOf]; omega
        · obtain rfl : k = len := by omega
          have HF : Hid (leafB k c x = true) := leafB_yes hx.1 (by rw [htn.out]; omega) (by rw [htn.out]; exact HN.out)
          go_wp2
          go_returns
          rw [HF.out]
          exact ⟨rfl, HB.out⟩

end Go.Proofs.YtapailihjlfkgaaDoor
