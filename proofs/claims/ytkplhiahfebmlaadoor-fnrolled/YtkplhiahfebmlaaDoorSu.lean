/- The laws' sum of a list; a short code is not big. -/
import Derived.Test.YtkplhiahfebmlaaDoorRt
import Derived.Test.YtkplhiahfebmlaaDoorBg
namespace Go.Proofs.YtkplhiahfebmlaaDoor
open Go.ChangeShapes Go.WideShapes Go.ChangeAt Go.RowKit
set_option linter.unusedVariables false
set_option linter.unusedSimpArgs false

set_option maxRecDepth 20000 in
theorem big_f (ad : Option Addr) (len cap : Nat) (w : World) (h : (len : Int) ≤ 1048576) :
    Calls Tryd.prog 11 #[.slice ad len cap] w fun e w' => e = .returned (.bool false) ∧ w' = w := by
  have hd : decide ((1048576 : Int) < (len : Int)) = false := decide_eq_false (by omega)
  go_enter Tryd.func11, Tryd.ntmps11
  go_wp2
  go_returns
  exact ⟨rfl, rfl⟩

set_option maxRecDepth 20000 in
theorem sum_any (ai : Option Addr) (m cap : Nat) (z : Nat → Int) (w : World) (hm : m ≤ 120) (hT : TotP m z) (hz : IR w ai m z) :
    Calls Tryd.prog 16 #[.slice ai m cap] w fun e w' => e = .returned (.int .i64 (sm z m)) ∧ w' = w := by
  have HZ : Hid (IR w ai m z) := hz
  have HT : Hid (TotP m z) := hT
  clear hz hT
  go_enter Tryd.func16, Tryd.ntmps16
  go_wp2
  go_loop [3, 4] (fun u v => ∃ k : Nat, k ≤ m ∧ v = .int .i64 (k : Int) ∧ u = .int .i64 (sm z k)) (fun u v => m - (intOf v).toNat)
  case atStart => exact ⟨0, Nat.zero_le _, rfl, rfl⟩
  case round =>
    obtain ⟨k, hk, rfl, rfl⟩ := hrel
    by_cases hlt : k < m
    · obtain ⟨kb, off, rfl, _⟩ := HZ.out.addr (by omega)
      have c1 := HZ.out.cell hlt
      have hlt2 : (k : Int) < (m : Int) := by omega
      have b1 := sm_small hm HT.out.bound (a := 0) (e := k) (by omega) (by omega)
      have b2 := HT.out.bound k hlt
      rw [show sm z 0 = 0 from rfl] at b1
      have HS : Hid (sm z (k + 1) = sm z k + z k) := sm_succ z k
      generalize sm z k = Y at b1 HS
      generalize z k = X at c1 b2 HS
      go_wp2
      go_round
      case rel => exact ⟨k + 1, by omega, by go_num, by rw [HS.out]⟩
      case measure => simp [intOf]; omega
    · obtain rfl : k = m := by omega
      go_wp2
      go_returns
      exact ⟨rfl, rfl⟩

end Go.Proofs.YtkplhiahfebmlaaDoor
