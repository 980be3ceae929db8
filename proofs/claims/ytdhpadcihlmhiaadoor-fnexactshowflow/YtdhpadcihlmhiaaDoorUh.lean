/- Flows that are right: the model's test. -/
import Derived.Test.YtdhpadcihlmhiaaDoorUg
namespace Go.Proofs.YtdhpadcihlmhiaaDoor
open Go.ChangeShapes Go.WideShapes Go.ChangeAt Go.RowKit
set_option linter.unusedVariables false
set_option linter.unusedSimpArgs false

set_option maxRecDepth 20000 in
set_option maxHeartbeats 8000000 in
theorem flowOk_any (ad : Option Addr) (len cap : Nat) (c : Nat → ST) (w : World) (h : (len : Int) ≤ 1048576) (hs : STz c) (hr : STr w ad len c) :
    Calls Tryd.prog 70 #[.slice ad len cap] w fun e w' => e = .returned (.bool (floB len c)) ∧ ∃ q, w' = w.drewN q := by
  have HR : Hid (STr w ad len c) := hr
  have HS : Hid (STz c) := hs
  clear hr hs
  by_cases h20 : (20 : Int) < (len : Int)
  · have HV : Hid (floB len c = false) := floB_f fun q => by have := q.1; omega
    go_enter Tryd.func70, Tryd.ntmps70
    go_wp2
    go_returns
    exact ⟨ret_bool HV.out.symm, 0, rfl⟩
  have h202 : (len : Int) ≤ 20 := by omega
  clear h20
  go_enter Tryd.func70, Tryd.ntmps70
  go_wp2
  go_loopw [3] (fun i wr => ∃ (k q : Nat), k ≤ len ∧ i = .int .i64 (k : Int) ∧ wr = w.drewN q ∧ Hid (∀ j, j < k → fOne c j)) (fun i _ => len - (intOf i).toNat)
  case atStart => exact ⟨0, 0, Nat.zero_le _, rfl, rfl, fun j hj => by omega⟩
  case round =>
    obtain ⟨k, q, hk, rfl, hwq, HH⟩ := hrel
    have HW : Hid (wr = w.drewN q) := hwq
    have HRw : Hid (STr wr ad len c) := by have := HR.out.below (bd_N (Below.refl _ _) q); rw [hwq]; exact this
    clear hwq
    obtain ⟨wo, rfl⟩ : ∃ x, x = wr := ⟨wr, rfl⟩
    by_cases hlt : k < len
    · have hlt2 : (k : Int) < (len : Int) := by omega
      obtain ⟨kb, off, ea, hkb⟩ := HRw.out.addr (by omega)
      subst ea
      obtain ⟨ra, rc, hrc, c0, c1, r5⟩ := HRw.out.cell hlt
      obtain ⟨r, hr⟩ : ∃ r, c k = r := ⟨_, rfl⟩
      have HX : Hid (c k = r) := hr
      have HT : Hid (STR wo ra r.rn r.rz) := by rw [hr] at r5; exact r5
      have HSZ := hid (HS.out k)
      replace HSZ : Hid (r.rn ≤ maxLen ∧ ∀ i, (r.rz i).size ≤ maxLen) := by have := HSZ.out; rw [hr] at this; exact this
      rw [hr] at c0 c1 hrc
      obtain ⟨over, rn, rz⟩ := r
      simp only at c0 c1 hrc
      have hrnM : rn ≤ maxLen := HSZ.out.1
      unfold maxLen at hrnM
      clear hr r5
      cases hin : inB over 0 100000000000
      · have HIN := hid hin
        have HRO : Hid (∀ a : Nat, True) := fun _ => trivial
        have HV : Hid (floB len c = false) := floB_one hlt fun g => by have := g.1; rw [HX.out] at this; exact inB_f hin ⟨this.1, this.2.1⟩
        clear hin
        go_wp2
        go_quiet (first | (go_at_call 51; exact Calls.quiet_of_same (l1In_eq HIN.out)))
        go_wp2
        go_returns
        exact ⟨ret_bool HV.out.symm, q + nq, by rw [HW.out]; simp⟩
      have HIN := hid hin
      have HAB := hid (inB_t hin)
      by_cases hn0 : rn = 0
      · have e0 : ((rn : Int) == 0) = true := by simp [hn0]
        have HRO : Hid (∀ a : Nat, True) := fun _ => trivial
        have HV : Hid (floB len c = false) := floB_one hlt fun g => by have := g.1.2.2.1; rw [HX.out] at this; dsimp only at this; omega
        clear hin hn0
        go_wp2
        go_quiet (first | (go_at_call 51; exact Calls.quiet_of_same (l1In_eq HIN.out)))
        go_wp2
        go_returns
        exact ⟨ret_bool HV.out.symm, q + nq, by rw [HW.out]; simp⟩
      have e0 : ((rn : Int) == 0) = false := by simp [hn0]
      have hn1 : 1 ≤ rn := by omega
      have HR0 : Hid (∀ a : Nat, Calls Tryd.prog 111 #[.slice ra rn rc] (wo.drewN a) fun e w' => e = .returned (.bool (rolB rn rz)) ∧ ∃ m, w' = (wo.drewN a).drewN m) := fun a => roles_any ra rn rc rz _ (by omega) hrc HSZ.out.2 (HT.out.below (bd_N (Below.refl _ _) a))
      cases hro : rolB rn rz
      · have HRO := HR0
        rw [hro] at HRO
        clear HR0
        have HV : Hid (floB len c = false) := floB_one hlt fun g => by have := g.1.2.2.2; rw [HX.out] at this; rw [rolB_t this] at hro; cases hro
        clear hro hin hn0
        go_wp2
        go_quiet (first | (go_at_call 51; exact Calls.quiet_of_same (l1In_eq HIN.out)) | (go_at_call 111; exact Calls.quiet_of (HRO.out _)))
        go_wp2
        go_returns
        exact ⟨ret_bool HV.out.symm, q + nq, by rw [HW.out]; simp⟩
      have HRO := HR0
      rw [hro] at HRO
      have HRP : Hid (RolP rn rz) := rolB_of hro
      have HSP : Hid (StpP (c k)) := by rw [HX.out]; exact ⟨HAB.out.1, HAB.out.2, hn1, HRP.out⟩
      clear HR0 hro hin hn0
      by_cases hk0 : k = 0
      · have g0 : ¬ (0 : Int) < (k : Int) := by omega
        have g0d : decide ((0 : Int) < (k : Int)) = false := decide_eq_false g0
        have g0n : ¬ 0 < k := by omega
        have g0m : decide (0 < k) = false := decide_eq_false g0n
        have HG : Hid (∀ j, j < k + 1 → fOne c j) := up_step HH.out ⟨HSP.out, .inl hk0⟩
        clear hk0
        go_wp2
        go_quiet (first | (go_at_call 51; exact Calls.quiet_of_same (l1In_eq HIN.out)) | (go_at_call 111; exact Calls.quiet_of (HRO.out _)))
        go_wp2
        go_roundw
        case rel => exact ⟨k + 1, q + nq, by omega, by go_num, by rw [HW.out]; simp, HG.out⟩
        case measure => simp [intOf]; omega
      have g0 : (0 : Int) < (k : Int) := by omega
      have g0d : decide ((0 : Int) < (k : Int)) = true := decide_eq_true g0
      have g0n : 0 < k := by omega
      have g0m : decide (0 < k) = true := decide_eq_true g0n
      obtain ⟨m, hm⟩ : ∃ m, k = m + 1 := ⟨k - 1, by omega⟩
      have hwr : IntKind.i64.wrap ((k : Int) - 1) = (m : Int) := by rw [show (k : Int) - 1 = (m : Int) by omega]; exact IntWalk.i64_in _ ⟨by omega, by omega⟩
      have hm2 : (m : Int) < (len : Int) := by omega
      obtain ⟨_, _, _, p0, _⟩ := HRw.out.cell (j := m) (by omega)
      obtain ⟨po, hpo⟩ : ∃ x, (c m).over = x := ⟨_, rfl⟩
      have HPO := hid hpo
      rw [hpo] at p0
      have hm1 : k - 1 = m := by omega
      have HM1 := hid hm1
      clear hpo hm1 hm
      by_cases hle : over ≤ po
      · have HV : Hid (floB len c = false) := floB_one hlt fun g => by rcases g.2 with z | z; (exact hk0 z); (rw [HX.out, HM1.out, HPO.out] at z; dsimp only at z; omega)
        clear hk0
        go_wp2
        go_quiet (first | (go_at_call 51; exact Calls.quiet_of_same (l1In_eq HIN.out)) | (go_at_call 111; exact Calls.quiet_of (HRO.out _)))
        go_wp2
        go_returns
        exact ⟨ret_bool HV.out.symm, q + nq, by rw [HW.out]; simp⟩
      have hle2 : ¬ over ≤ po := hle
      have hle3 : (decide (over ≤ po)) = false := decide_eq_false hle
      have HG : Hid (∀ j, j < k + 1 → fOne c j) := up_step HH.out ⟨HSP.out, .inr (by rw [HX.out, HM1.out, HPO.out]; dsimp only; omega)⟩
      clear hk0
      go_wp2
      go_quiet (first | (go_at_call 51; exact Calls.quiet_of_same (l1In_eq HIN.out)) | (go_at_call 111; exact Calls.quiet_of (HRO.out _)))
      go_wp2
      go_roundw
      case rel => exact ⟨k + 1, q + nq, by omega, by go_num, by rw [HW.out]; simp, HG.out⟩
      case measure => simp [intOf]; omega
    · obtain rfl : k = len := by omega
      have lkk : ¬ (k : Int) < (k : Int) := by omega
      have HV : Hid (floB k c = true) := floB_t ⟨by omega, HH.out⟩
      go_wp2
      go_returns
      exact ⟨ret_bool HV.out.symm, q, HW.out⟩
end Go.Proofs.YtdhpadcihlmhiaaDoor
