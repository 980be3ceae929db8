/- Numbers that may be told: the test, in the program; what Roll tells, plain. -/
import Derived.Test.YtkplhiahfebmlaaDoorWr
namespace Go.Proofs.YtkplhiahfebmlaaDoor
open Go.ChangeShapes Go.WideShapes Go.ChangeAt Go.RowKit
set_option linter.unusedVariables false
set_option linter.unusedSimpArgs false

def TotP (n : Nat) (z : Nat → Int) : Prop := ∀ j, j < n → inB (z j) (-1000000000000000) 1000000000000000 = true
open Classical in
noncomputable def totB (n : Nat) (z : Nat → Int) : Bool := decide (TotP n z)
theorem totB_iff {n : Nat} {z : Nat → Int} : totB n z = true ↔ TotP n z := by simp [totB]
theorem totB_t {n : Nat} {z : Nat → Int} (h : TotP n z) : totB n z = true := totB_iff.2 h
theorem totB_f {n j : Nat} {z : Nat → Int} (hj : j < n) (h : inB (z j) (-1000000000000000) 1000000000000000 = false) : totB n z = false := by
  cases e : totB n z with
  | false => rfl
  | true => have := totB_iff.1 e j hj; rw [h] at this; cases this
theorem TotP.bound {n : Nat} {z : Nat → Int} (h : TotP n z) (j : Nat) (hj : j < n) : -1000000000000000 ≤ z j ∧ z j ≤ 1000000000000000 := inB_iff.1 (h j hj)

noncomputable def rm (len : Nat) (c : Nat → C3) (leni : Nat) (z : Nat → Int) : Nat := if leni = tn len c ∧ totB leni z = true then tn len c else 0
noncomputable def rv (len : Nat) (c : Nat → C3) (z : Nat → Int) (i : Nat) : Int := sm z (i + um len c (i : Int)) - sm z i
noncomputable def rollL (len : Nat) (c : Nat → C3) (z : Nat → Int) (m : Nat) : List Value := (List.range m).map (fun i => .int .i64 (rv len c z i))
theorem rollL_get (len : Nat) (c : Nat → C3) (z : Nat → Int) (m j : Nat) (h : j < m) : (rollL len c z m)[j]? = some (.int .i64 (rv len c z j)) := by simp [rollL, h]
theorem rollL_succ (len : Nat) (c : Nat → C3) (z : Nat → Int) (m : Nat) : rollL len c z (m + 1) = rollL len c z m ++ [.int .i64 (rv len c z m)] := by simp [rollL, List.range_succ]
theorem rm_le (len : Nat) (c : Nat → C3) (leni : Nat) (z : Nat → Int) : rm len c leni z ≤ 120 := by
  unfold rm
  split
  · exact (tn_le len c).2
  · omega

set_option maxHeartbeats 1000000 in
theorem totalsOk_eq (ad : Option Addr) (len cap : Nat) (z : Nat → Int) {v : Bool} (w : World) (h : (len : Int) ≤ 1048576) (h1 : IR w ad len z) (hv : totB len z = v) :
    Calls Tryd.prog 43 #[.slice ad len cap] w fun e w' => e = .returned (.bool v) ∧ w' = w := by
  subst hv
  have H1 : Hid (IR w ad len z) := h1
  clear h1
  go_enter Tryd.func43, Tryd.ntmps43
  go_wp2
  go_loop [7] (fun i => ∃ (k : Nat), k ≤ len ∧ i = .int .i64 (k : Int) ∧ TotP k z) (fun i => len - (intOf i).toNat)
  case atStart => exact ⟨0, Nat.zero_le _, rfl, fun j hj => by omega⟩
  case round =>
    obtain ⟨k, hk, rfl, hT⟩ := hrel
    have HT : Hid (TotP k z) := hT
    clear hT
    by_cases hlt : k < len
    · obtain ⟨kb, off, rfl, _⟩ := H1.out.addr (by omega)
      have c1 := H1.out.cell hlt
      have hlt2 : (k : Int) < (len : Int) := by omega
      cases hb : inB (z k) (-1000000000000000) 1000000000000000
      · have HF : Hid (totB len z = false) := totB_f hlt hb
        generalize z k = y at c1 hb
        go_wp2_with (go_at_call 74; refine (isTotal_any _ _).mono ?_; rintro e w' ⟨rfl, ew⟩; replace ew := ew.symm; subst ew)
        go_returns
        exact ⟨ret_bool HF.out.symm, rfl⟩
      · have HT2 : Hid (TotP (k + 1) z) := fun j hj => by
          by_cases e : j = k
          · subst e; exact hb
          · exact HT.out j (by omega)
        generalize z k = y at c1 hb
        go_wp2_with (go_at_call 74; refine (isTotal_any _ _).mono ?_; rintro e w' ⟨rfl, ew⟩; replace ew := ew.symm; subst ew)
        go_round
        case rel => exact ⟨k + 1, by omega, by go_num, HT2.out⟩
        case measure => simp [intOf]; omega
    · obtain rfl : k = len := by omega
      have HF : Hid (totB k z = true) := totB_t HT.out
      go_wp2
      go_returns
      exact ⟨ret_bool HF.out.symm, rfl⟩

end Go.Proofs.YtkplhiahfebmlaaDoor
