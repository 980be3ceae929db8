/- Steps and flows that are right: the plain facts; the tests of roles on both sides. -/
import Derived.Test.YtdhpadcihlmhiaaDoorUd
import Derived.Test.YtdhpadcihlmhiaaDoorUe
namespace Go.Proofs.YtdhpadcihlmhiaaDoor
open Go.ChangeShapes Go.WideShapes Go.ChangeAt Go.RowKit
set_option linter.unusedVariables false
set_option linter.unusedSimpArgs false

/-- A role is a name, and stands once. -/
def rOne (z : Nat → ByteArray) (i : Nat) : Prop := nameB (z i) = true ∧ hasS i z (z i) = false
def RolP (n : Nat) (z : Nat → ByteArray) : Prop := n ≤ 8 ∧ ∀ i, i < n → rOne z i
open Classical in
noncomputable def rolB (n : Nat) (z : Nat → ByteArray) : Bool := decide (RolP n z)
open Classical in
theorem rolB_t {n : Nat} {z : Nat → ByteArray} (h : RolP n z) : rolB n z = true := by unfold rolB; exact decide_eq_true h
open Classical in
theorem rolB_f {n : Nat} {z : Nat → ByteArray} (h : ¬ RolP n z) : rolB n z = false := by unfold rolB; exact decide_eq_false h
open Classical in
theorem rolB_of {n : Nat} {z : Nat → ByteArray} (h : rolB n z = true) : RolP n z := by unfold rolB at h; exact of_decide_eq_true h
theorem rolB_one {n i : Nat} {z : Nat → ByteArray} (hi : i < n) (h : ¬ rOne z i) : rolB n z = false := rolB_f fun q => h (q.2 i hi)

set_option maxRecDepth 20000 in
set_option maxHeartbeats 4000000 in
theorem roles_any (ad : Option Addr) (len cap : Nat) (z : Nat → ByteArray) (w : World) (h : (len : Int) ≤ 9223372036854775807) (hcap : len ≤ cap) (hs : ∀ j, (z j).size ≤ maxLen) (hr : STR w ad len z) :
    Calls Tryd.prog 111 #[.slice ad len cap] w fun e w' => e = .returned (.bool (rolB len z)) ∧ ∃ q, w' = w.drewN q := by
  have HR : Hid (STR w ad len z) := hr
  have HS : Hid (∀ j, (z j).size ≤ maxLen) := hs
  clear hr hs
  by_cases h8 : (8 : Int) < (len : Int)
  · have HV : Hid (rolB len z = false) := rolB_f fun q => by have := q.1; omega
    go_enter Tryd.func111, Tryd.ntmps111
    go_wp2
    go_returns
    exact ⟨ret_bool HV.out.symm, 0, rfl⟩
  have h82 : (len : Int) ≤ 8 := by omega
  clear h8
  go_enter Tryd.func111, Tryd.ntmps111
  go_wp2
  go_loopw [3] (fun i wr => ∃ (k q : Nat), k ≤ len ∧ i = .int .i64 (k : Int) ∧ wr = w.drewN q ∧ Hid (∀ j, j < k → rOne z j)) (fun i _ => len - (intOf i).toNat)
  case atStart => exact ⟨0, 0, Nat.zero_le _, rfl, rfl, fun j hj => by omega⟩
  case round =>
    obtain ⟨k, q, hk, rfl, hwq, HH⟩ := hrel
    have HW : Hid (wr = w.drewN q) := hwq
    have HRw : Hid (STR wr ad len z) := by have := HR.out.below (bd_N (Below.refl _ _) q); rw [hwq]; exact this
    clear hwq
    obtain ⟨wo, rfl⟩ : ∃ x, x = wr := ⟨wr, rfl⟩
    by_cases hlt : k < len
    · have hlt2 : (k : Int) < (len : Int) := by omega
      have hcapk : (k : Int) ≤ (cap : Int) := by omega
      obtain ⟨kb, off, ea, hkb⟩ := HRw.out.addr (by omega)
      subst ea
      have d0 := HRw.out.cell hlt
      have HZ := hid (HS.out k)
      have HT : Hid (∀ w' : World, Below wo.heap.size wo w' → STR w' (some ⟨kb, off, none⟩) k z) := fun w' b => (HRw.out.below b).mono (by omega)
      have hk6 : (k : Int) ≤ 1048576 := by omega
      cases hn : nameB (z k)
      · have HN := hid hn
        have HV : Hid (rolB len z = false) := rolB_one hlt fun g => by rw [g.1] at hn; cases hn
        clear hn
        go_wp2
        go_quiet (first | (go_at_call 50; exact Calls.quiet_of_same (specName_eq HZ.out HN.out)))
        go_wp2
        go_returns
        exact ⟨ret_bool HV.out.symm, q + nq, by rw [HW.out]; simp⟩
      have HN := hid hn
      cases hh : hasS k z (z k)
      rotate_left
      · have HHS := hid hh
        have HV : Hid (rolB len z = false) := rolB_one hlt fun g => by rw [g.2] at hh; cases hh
        clear hn hh
        go_wp2
        go_quiet (first | (go_at_call 50; exact Calls.quiet_of_same (specName_eq HZ.out HN.out)) | (go_at_call 90; exact Calls.quiet_of_same (l10Has_eq _ _ _ z _ _ _ hk6 (HT.out _ (by first | exact Below.refl _ _ | exact bd_N (Below.refl _ _) _ | exact bd_N (bd_N (Below.refl _ _) _) _)) HHS.out)))
        go_wp2
        go_returns
        exact ⟨ret_bool HV.out.symm, q + nq, by rw [HW.out]; simp⟩
      have HHS := hid hh
      have HF : Hid (∀ j, j < k + 1 → rOne z j) := up_step HH.out ⟨hn, hh⟩
      clear hn hh
      go_wp2
      go_quiet (first | (go_at_call 50; exact Calls.quiet_of_same (specName_eq HZ.out HN.out)) | (go_at_call 90; exact Calls.quiet_of_same (l10Has_eq _ _ _ z _ _ _ hk6 (HT.out _ (by first | exact Below.refl _ _ | exact bd_N (Below.refl _ _) _ | exact bd_N (bd_N (Below.refl _ _) _) _)) HHS.out)))
      go_wp2
      go_roundw
      case rel => exact ⟨k + 1, q + nq, by omega, by go_num, by rw [HW.out]; simp, HF.out⟩
      case measure => simp [intOf]; omega
    · obtain rfl : k = len := by omega
      have lkk : ¬ (k : Int) < (k : Int) := by omega
      have HV : Hid (rolB k z = true) := rolB_t ⟨by omega, HH.out⟩
      go_wp2
      go_returns
      exact ⟨ret_bool HV.out.symm, q, HW.out⟩

/-- A step is right. -/
def StpP (p : ST) : Prop := 0 ≤ p.over ∧ p.over ≤ 100000000000 ∧ 1 ≤ p.rn ∧ RolP p.rn p.rz
open Classical in
noncomputable def stpB (p : ST) : Bool := decide (StpP p)
open Classical in
theorem stpB_t {p : ST} (h : StpP p) : stpB p = true := by unfold stpB; exact decide_eq_true h
open Classical in
theorem stpB_f {p : ST} (h : ¬ StpP p) : stpB p = false := by unfold stpB; exact decide_eq_false h
theorem nms_rol {n : Nat} {z : Nat → ByteArray} (h : RolP n z) : nmsB n z = true := by
  cases g : nmsB n z
  · exact absurd (fun k hk => (h.2 k hk).1) (nmsB_f g)
  · rfl
set_option maxRecDepth 20000 in
set_option maxHeartbeats 4000000 in
theorem stepRight_any (over : Int) (ra : Option Addr) (rn rc : Nat) (rz : Nat → ByteArray) (w : World) (hcap : rn ≤ rc) (hrn : rn ≤ maxLen) (hs : ∀ j, (rz j).size ≤ maxLen) (hr : STR w ra rn rz) :
    Calls Tryd.prog 107 #[.agg #[.int .i64 over, .slice ra rn rc]] w fun e w' => e = .returned (.bool (stpB ⟨over, rn, rz⟩)) ∧ Below w.heap.size w w' := by
  have HBA : Hid (Below w.heap.size w (w.alloc (.cells #[.int .i64 over, .slice ra rn rc] 46 (0, 0)))) := (Below.refl _ _).alloc (Nat.le_refl _) _
  have HR : Hid (STR (w.alloc (.cells #[.int .i64 over, .slice ra rn rc] 46 (0, 0))) ra rn rz) := hr.below HBA.out
  have HS : Hid (∀ j, (rz j).size ≤ maxLen) := hs
  clear hr hs
  have hrn2 : (rn : Int) ≤ 9223372036854775807 := by unfold maxLen at hrn; omega
  cases hin : inB over 0 100000000000
  · have HIN := hid hin
    have HV : Hid (stpB ⟨over, rn, rz⟩ = false) := stpB_f fun q => inB_f hin ⟨q.1, q.2.1⟩
    clear hin
    go_enter Tryd.func107, Tryd.ntmps107
    go_wp2_with (go_at_call 129; refine (from0_eq HIN.out).mono ?_; rintro e w1 ⟨rfl, ew⟩; replace ew := ew.symm; subst ew)
    go_returns
    exact ⟨ret_bool HV.out.symm, HBA.out⟩
  have HIN := hid hin
  by_cases h1 : (rn : Int) < 1
  · have HV : Hid (stpB ⟨over, rn, rz⟩ = false) := stpB_f fun q => by have := q.2.2.1; dsimp only at this; omega
    clear hin
    go_enter Tryd.func107, Tryd.ntmps107
    go_wp2_with (go_at_call 129; refine (from0_eq HIN.out).mono ?_; rintro e w1 ⟨rfl, ew⟩; replace ew := ew.symm; subst ew)
    go_returns
    exact ⟨ret_bool HV.out.symm, HBA.out⟩
  by_cases h8 : (8 : Int) < (rn : Int)
  · have HV : Hid (stpB ⟨over, rn, rz⟩ = false) := stpB_f fun q => by have := q.2.2.2.1; dsimp only at this; omega
    clear hin
    go_enter Tryd.func107, Tryd.ntmps107
    go_wp2_with (go_at_call 129; refine (from0_eq HIN.out).mono ?_; rintro e w1 ⟨rfl, ew⟩; replace ew := ew.symm; subst ew)
    go_returns
    exact ⟨ret_bool HV.out.symm, HBA.out⟩
  have h82 : (rn : Int) ≤ 8 := by omega
  have h6 : (rn : Int) ≤ 1048576 := by omega
  clear h8
  cases hnm : nmsB rn rz
  · have HNM := hid hnm
    have HV : Hid (stpB ⟨over, rn, rz⟩ = false) := stpB_f fun q => by rw [nms_rol q.2.2.2] at hnm; cases hnm
    clear hin hnm
    go_enter Tryd.func107, Tryd.ntmps107
    go_wp2_with (first
      | (go_at_call 129; refine (from0_eq HIN.out).mono ?_; rintro e w1 ⟨rfl, ew⟩; replace ew := ew.symm; subst ew)
      | (go_at_call 130; refine (areNames_eq _ _ _ rz _ _ h6 HS.out HR.out HNM.out).mono ?_; rintro e w1 ⟨rfl, ew⟩; replace ew := ew.symm; subst ew))
    go_returns
    exact ⟨ret_bool HV.out.symm, HBA.out⟩
  have HNM := hid hnm
  have HAB := hid (inB_t hin)
  clear hin hnm
  go_enter Tryd.func107, Tryd.ntmps107
  go_wp2_with (first
    | (go_at_call 129; refine (from0_eq HIN.out).mono ?_; rintro e w1 ⟨rfl, ew⟩; replace ew := ew.symm; subst ew)
    | (go_at_call 130; refine (areNames_eq _ _ _ rz _ _ h6 HS.out HR.out HNM.out).mono ?_; rintro e w1 ⟨rfl, ew⟩; replace ew := ew.symm; subst ew))
  have X : CB (w.alloc (.cells #[.int .i64 over, .slice ra rn rc] 46 (0, 0))) w.heap.size #[.int .i64 over, .slice ra rn rc] 46 := CB.new _ _
  generalize (w.alloc (.cells #[.int .i64 over, .slice ra rn rc] 46 (0, 0))) = wp at X HR HBA ⊢
  have k1 : wp.cell? ⟨w.heap.size, 1, none⟩ = some (.slice ra rn rc) := (X.cell 1).trans rfl
  clear X
  go_loopw [30] (fun i wr => ∃ (k : Nat), k ≤ rn ∧ i = .int .i64 (k : Int) ∧ wr = wp ∧ Hid (∀ j, j < k → rOne rz j)) (fun i _ => rn - (intOf i).toNat)
  case atStart => exact ⟨0, Nat.zero_le _, rfl, rfl, fun j hj => by omega⟩
  case round =>
    obtain ⟨k, hk, rfl, rfl, HH⟩ := hrel
    obtain ⟨wp, rfl⟩ : ∃ x, x = wr := ⟨wr, rfl⟩
    by_cases hlt : k < rn
    · have hlt2 : (k : Int) < (rn : Int) := by omega
      have hcapk : (k : Int) ≤ (rc : Int) := by omega
      obtain ⟨kb, off, ea, hkb⟩ := HR.out.addr (by omega)
      subst ea
      have d0 := HR.out.cell hlt
      have HT := hid (HR.out.mono (n := k) (by omega))
      have hk6 : (k : Int) ≤ 1048576 := by omega
      cases hh : hasS k rz (rz k)
      rotate_left
      · have HHS := hid hh
        have HV : Hid (stpB ⟨over, rn, rz⟩ = false) := stpB_f fun q => by have := (q.2.2.2.2 k hlt).2; dsimp only at this; rw [this] at hh; cases hh
        clear hh
        go_wp2_with (go_at_call 121; refine (containsS_eq _ _ _ rz _ _ _ hk6 HT.out HHS.out).mono ?_; rintro e w1 ⟨rfl, ew⟩; replace ew := ew.symm; subst ew)
        go_returns
        exact ⟨ret_bool HV.out.symm, HBA.out⟩
      have HHS := hid hh
      have HF : Hid (∀ j, j < k + 1 → rOne rz j) := up_step HH.out ⟨nmsB_t HNM.out k hlt, hh⟩
      clear hh
      go_wp2_with (go_at_call 121; refine (containsS_eq _ _ _ rz _ _ _ hk6 HT.out HHS.out).mono ?_; rintro e w1 ⟨rfl, ew⟩; replace ew := ew.symm; subst ew)
      go_roundw
      case rel => exact ⟨k + 1, by omega, by go_num, by first | rfl | trivial, HF.out⟩
      case measure => simp [intOf]; omega
    · obtain rfl : k = rn := by omega
      have lkk : ¬ (k : Int) < (k : Int) := by omega
      have HV : Hid (stpB ⟨over, k, rz⟩ = true) := stpB_t ⟨HAB.out.1, HAB.out.2, by dsimp only; omega, by dsimp only; omega, HH.out⟩
      go_wp2
      go_returns
      exact ⟨ret_bool HV.out.symm, HBA.out⟩
end Go.Proofs.YtdhpadcihlmhiaaDoor
