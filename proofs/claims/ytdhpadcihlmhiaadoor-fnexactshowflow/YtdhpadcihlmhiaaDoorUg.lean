/- Flows that are right: the tests on both sides. -/
import Derived.Test.YtdhpadcihlmhiaaDoorUf
namespace Go.Proofs.YtdhpadcihlmhiaaDoor
open Go.ChangeShapes Go.WideShapes Go.ChangeAt Go.RowKit
set_option linter.unusedVariables false
set_option linter.unusedSimpArgs false

def STz (c : Nat → ST) : Prop := ∀ j, (c j).rn ≤ maxLen ∧ ∀ i, ((c j).rz i).size ≤ maxLen
/-- A step is right, and stands after the one ahead. -/
def fOne (c : Nat → ST) (i : Nat) : Prop := StpP (c i) ∧ (i = 0 ∨ (c (i - 1)).over < (c i).over)
def FloP (n : Nat) (c : Nat → ST) : Prop := n ≤ 20 ∧ ∀ i, i < n → fOne c i
open Classical in
noncomputable def floB (n : Nat) (c : Nat → ST) : Bool := decide (FloP n c)
open Classical in
theorem floB_t {n : Nat} {c : Nat → ST} (h : FloP n c) : floB n c = true := by unfold floB; exact decide_eq_true h
open Classical in
theorem floB_f {n : Nat} {c : Nat → ST} (h : ¬ FloP n c) : floB n c = false := by unfold floB; exact decide_eq_false h
open Classical in
theorem floB_of {n : Nat} {c : Nat → ST} (h : floB n c = true) : FloP n c := by unfold floB at h; exact of_decide_eq_true h
theorem floB_one {n i : Nat} {c : Nat → ST} (hi : i < n) (h : ¬ fOne c i) : floB n c = false := floB_f fun q => h (q.2 i hi)
theorem stpB_of {p : ST} (h : stpB p = true) : StpP p := by
  by_cases g : StpP p
  · exact g
  · rw [stpB_f g] at h; cases h
/-- A step may follow those ahead. -/
def FolP (c : Nat → ST) (i : Nat) : Prop := fOne c i ∧ i < 20
open Classical in
noncomputable def folB (c : Nat → ST) (i : Nat) : Bool := decide (FolP c i)
open Classical in
theorem folB_t {c : Nat → ST} {i : Nat} (h : FolP c i) : folB c i = true := by unfold folB; exact decide_eq_true h
open Classical in
theorem folB_f {c : Nat → ST} {i : Nat} (h : ¬ FolP c i) : folB c i = false := by unfold folB; exact decide_eq_false h

set_option maxRecDepth 20000 in
set_option maxHeartbeats 4000000 in
theorem follow_any (ad : Option Addr) (i cap : Nat) (c : Nat → ST) (over : Int) (ra : Option Addr) (rn rc : Nat) (rz : Nat → ByteArray) (w : World) (hi6 : (i : Int) ≤ 1048576) (hX : c i = ⟨over, rn, rz⟩) (hcap : rn ≤ rc) (hrn : rn ≤ maxLen) (hs : ∀ j, (rz j).size ≤ maxLen) (hr : STR w ra rn rz) (hf : STr w ad i c) :
    Calls Tryd.prog 65 #[.agg #[.int .i64 over, .slice ra rn rc], .slice ad i cap] w fun e w' => e = .returned (.bool (folB c i)) ∧ Below w.heap.size w w' := by
  have HBA : Hid (Below w.heap.size w (w.alloc (.cells #[.int .i64 over, .slice ra rn rc] 46 (0, 0)))) := (Below.refl _ _).alloc (Nat.le_refl _) _
  have HC := hid (stepRight_any over ra rn rc rz _ hcap hrn hs (hr.below HBA.out))
  have HF := hid hf
  have HX := hid hX
  clear hr hf hs hX
  cases hst : stpB ⟨over, rn, rz⟩
  · rw [hst] at HC
    have HV : Hid (folB c i = false) := folB_f fun q => by have := q.1.1; rw [HX.out] at this; rw [stpB_t this] at hst; cases hst
    clear hst
    go_enter Tryd.func65, Tryd.ntmps65
    go_wp2_with (go_at_call 107; go_loud (refine HC.out.mono ?_; rintro e w1 ⟨rfl, b1⟩; have HB1 : Hid (Below w.heap.size w w1) := bel_on HBA.out b1; clear b1 HC))
    go_returns
    exact ⟨ret_bool HV.out.symm, HB1.out⟩
  have HST : Hid (StpP (c i)) := by rw [HX.out]; exact stpB_of hst
  rw [hst] at HC
  clear hst
  by_cases h20 : (20 : Int) ≤ (i : Int)
  · have HV : Hid (folB c i = false) := folB_f fun q => by have := q.2; omega
    go_enter Tryd.func65, Tryd.ntmps65
    go_wp2_with (go_at_call 107; go_loud (refine HC.out.mono ?_; rintro e w1 ⟨rfl, b1⟩; have HB1 : Hid (Below w.heap.size w w1) := bel_on HBA.out b1; clear b1 HC))
    go_returns
    exact ⟨ret_bool HV.out.symm, HB1.out⟩
  have hi20 : i < 20 := by omega
  by_cases hz0 : i = 0
  · subst hz0
    have HV : Hid (folB c 0 = true) := folB_t ⟨⟨HST.out, .inl rfl⟩, by omega⟩
    go_enter Tryd.func65, Tryd.ntmps65
    go_wp2_with (go_at_call 107; go_loud (refine HC.out.mono ?_; rintro e w1 ⟨rfl, b1⟩; have HB1 : Hid (Below w.heap.size w w1) := bel_on HBA.out b1; clear b1 HC))
    go_quiet (fail)
    go_wp2
    go_returns
    exact ⟨ret_bool HV.out.symm, bd_N HB1.out _⟩
  obtain ⟨m, hm⟩ : ∃ m, i = m + 1 := ⟨i - 1, by omega⟩
  have hwr : IntKind.i64.wrap ((i : Int) - 1) = (m : Int) := by rw [show (i : Int) - 1 = (m : Int) by omega]; exact IntWalk.i64_in _ ⟨by omega, by omega⟩
  have e0 : ((i : Int) == 0) = false := by simp; omega
  have hm2 : (m : Int) < (i : Int) := by omega
  obtain ⟨kb, off, ea, hkb⟩ := HF.out.addr (by omega)
  subst ea
  obtain ⟨po, hpo⟩ : ∃ x, (c m).over = x := ⟨_, rfl⟩
  have HPO := hid hpo
  have HM : Hid (∀ w' : World, Below w.heap.size w w' → w'.cell? ⟨kb, off + m * 2, none⟩ = some (.int .i64 po)) := fun w' b => by
    obtain ⟨_, _, _, c0, _⟩ := (HF.out.below b).cell (j := m) (by omega); rw [hpo] at c0; exact c0
  have HK : Hid (∀ w' : World, Below (w.alloc (.cells #[.int .i64 over, .slice ra rn rc] 46 (0, 0))).heap.size (w.alloc (.cells #[.int .i64 over, .slice ra rn rc] 46 (0, 0))) w' → w'.cell? ⟨w.heap.size, 0, none⟩ = some (.int .i64 over)) := fun w' b => by
    have X : CB w' w.heap.size #[.int .i64 over, .slice ra rn rc] 46 := (CB.new _ _).below b (by simp)
    exact (X.cell 0).trans rfl
  have hm1 : i - 1 = m := by omega
  have HM1 := hid hm1
  clear hpo hm1 hm hz0 h20
  by_cases hlt : po < over
  · have HV : Hid (folB c i = true) := folB_t ⟨⟨HST.out, .inr (by rw [HX.out, HM1.out, HPO.out]; exact hlt)⟩, hi20⟩
    go_enter Tryd.func65, Tryd.ntmps65
    go_wp2_with (go_at_call 107; go_loud (refine HC.out.mono ?_; rintro e w1 ⟨rfl, b1⟩; have HB1 : Hid (Below w.heap.size w w1) := bel_on HBA.out b1; have k0 := HK.out _ b1; have k1 := HM.out _ HB1.out; clear b1 HC))
    go_quiet (fail)
    go_wp2
    go_returns
    exact ⟨ret_bool HV.out.symm, bd_N HB1.out _⟩
  · have HV : Hid (folB c i = false) := folB_f fun q => by
      rcases q.1.2 with z | z
      · have := hm2; omega
      · rw [HX.out, HM1.out, HPO.out] at z; exact hlt z
    go_enter Tryd.func65, Tryd.ntmps65
    go_wp2_with (go_at_call 107; go_loud (refine HC.out.mono ?_; rintro e w1 ⟨rfl, b1⟩; have HB1 : Hid (Below w.heap.size w w1) := bel_on HBA.out b1; have k0 := HK.out _ b1; have k1 := HM.out _ HB1.out; clear b1 HC))
    go_quiet (fail)
    go_wp2
    go_returns
    exact ⟨ret_bool (by rw [HV.out]; exact decide_eq_false (by omega)), bd_N HB1.out _⟩
end Go.Proofs.YtdhpadcihlmhiaaDoor
