/- Contracts of the program's small readers of digits: allDigits, wholeOk, readDigits. -/
import Derived.Test.YtipdcegbfhokfaaDoorTz
import Derived.Test.YtipdcegbfhokfaaDoorRd
import Derived.Test.YtipdcegbfhokfaaDoorSt
namespace Go.Proofs.YtipdcegbfhokfaaDoor
open Go.ChangeShapes Go.WideShapes Go.ChangeAt Go.RowKit
set_option linter.unusedVariables false
set_option linter.unusedSimpArgs false
open Go.Lib

theorem ret_bo {a b : Bool} (h : a = b) : Ending.returned (.bool a) = .returned (.bool b) := by rw [h]
theorem ret_pi {a b : Int} {c d : Bool} (h : a = b) (k : c = d) : Ending.returned (.tuple #[.int .i64 a, .bool c]) = .returned (.tuple #[.int .i64 b, .bool d]) := by rw [h, k]

theorem isDigit_t (c : Int) (w : World) (h0 : 48 ≤ c) (h1 : c ≤ 57) : Calls Tryd.prog 34 #[.int .u8 c] w fun e w' => e = .returned (.bool true) ∧ w' = w := by
  have d1 : decide (c ≤ 57) = true := decide_eq_true h1
  go_enter Tryd.func34, Tryd.ntmps34
  go_wp2
  go_returns
  exact ⟨rfl, rfl⟩

theorem isDigit_f (c : Int) (w : World) (h : c < 48 ∨ (48 ≤ c ∧ 57 < c)) : Calls Tryd.prog 34 #[.int .u8 c] w fun e w' => e = .returned (.bool false) ∧ w' = w := by
  rcases h with h | ⟨h, h1⟩
  · go_enter Tryd.func34, Tryd.ntmps34
    go_wp2
    go_returns
    exact ⟨rfl, rfl⟩
  · have d1 : decide (c ≤ 57) = false := decide_eq_false (by omega)
    go_enter Tryd.func34, Tryd.ntmps34
    go_wp2
    go_returns
    exact ⟨rfl, rfl⟩

theorem take_s (s : ByteArray) (k : Nat) (h : k < s.size) : s.data.toList.take (k + 1) = s.data.toList.take k ++ [s[k]] := by
  rw [List.take_succ_eq_append_getElem (by simpa using h)]; rfl

theorem all_bad (s : ByteArray) (k : Nat) (h : k < s.size) (hb : ¬ isD s[k] = true) : s.data.toList.all isD = false := by
  rw [← List.take_append_drop (k + 1) s.data.toList, List.all_append, take_s s k h, List.all_append]
  simp [hb]

theorem byte_ll (s : ByteArray) (k : Nat) (h : k < s.size) : (0 : Int) ≤ (s[k].toNat : Int) ∧ (s[k].toNat : Int) ≤ 255 := by
  have := s[k].toNat_lt; omega

def adB (l : List UInt8) : Bool := decide (0 < l.length) && l.all isD
theorem adB_f {l : List UInt8} (h : l.all isD = false) : adB l = false := by unfold adB; rw [h]; simp
theorem adB_t {s : ByteArray} (h : s.data.toList.all isD = true) : adB s.data.toList = decide (0 < s.size) := by
  unfold adB; rw [h, Bool.and_true]
  rw [← Lib.size_eq]

theorem allDigits_any (s : ByteArray) (w : World) (hs : s.size ≤ maxLen) :
    Calls Tryd.prog 20 #[.string s] w fun e w' => e = .returned (.bool (adB s.data.toList)) ∧ w' = w := by
  unfold maxLen at hs
  go_enter Tryd.func20, Tryd.ntmps20
  go_wp2
  go_loop [6] (fun i => ∃ k : Nat, k ≤ s.size ∧ i = .int .i64 k ∧ Hid ((s.data.toList.take k).all isD = true)) (fun i => s.size - (intOf i).toNat)
  case atStart => exact ⟨0, Nat.zero_le _, rfl, by unfold Hid; rfl⟩
  case round =>
    obtain ⟨k, hk, rfl, HA⟩ := hrel
    by_cases hlt : k < s.size
    · have bl := byte_ll s k hlt
      by_cases hd : (48 : Int) ≤ (s[k].toNat : Int) ∧ (s[k].toNat : Int) ≤ 57
      · obtain ⟨d0, d1⟩ := hd
        have HN : Hid ((s.data.toList.take (k + 1)).all isD = true) := by
          unfold Hid; rw [take_s s k hlt, List.all_append, HA.out]
          simp [(isD_byte (hk := hlt) d0 d1).1]
        go_wp2_with (go_at_call 34; refine (isDigit_t _ _ d0 d1).mono ?_; rintro e w' ⟨rfl, rfl⟩)
        go_round
        case rel => exact ⟨k + 1, by omega, by go_num, HN⟩
        case measure => simp [intOf]; omega
      · have HN : Hid (s.data.toList.all isD = false) := all_bad s k hlt (not_isD_byte (hk := hlt) (by omega))
        go_wp2_with (go_at_call 34; refine (isDigit_f _ _ (by omega)).mono ?_; rintro e w' ⟨rfl, rfl⟩)
        go_returns
        exact ⟨ret_bo (adB_f HN.out).symm, rfl⟩
    · have HN : Hid (s.data.toList.all isD = true) := by
        have := HA.out; rw [List.take_of_length_le (by simp; omega)] at this; exact this
      go_wp2
      go_returns
      exact ⟨ret_bo (by rw [adB_t HN.out]), rfl⟩

theorem wholeOk_any (s : ByteArray) (w : World) (hs : s.size ≤ maxLen) :
    Calls Tryd.prog 19 #[.string s] w fun e w' => e = .returned (.bool (canon s.data.toList)) ∧ w' = w := by
  cases h : adB s.data.toList
  · have hc : canon s.data.toList = false := by
      unfold canon
      cases e : s.data.toList with
      | nil => simp
      | cons x t =>
        rw [e] at h; unfold adB at h
        have : (x :: t).all isD = false := by simpa using h
        rw [this]; rfl
    rw [hc]
    have HS : Hid (s.size ≤ maxLen) := hs
    clear hs hc
    go_enter Tryd.func19, Tryd.ntmps19
    go_wp2_with (go_at_call 20; refine (allDigits_any _ _ HS.out).mono ?_; rintro e w' ⟨rfl, rfl⟩)
    go_returns
    exact ⟨rfl, rfl⟩
  · have h2 := h
    unfold adB at h2
    simp only [Bool.and_eq_true, decide_eq_true_eq] at h2
    have hlen : s.data.toList.length = s.size := (Lib.size_eq s).symm
    have hpos : 0 < s.size := by rw [← hlen]; exact h2.1
    have hposI : (0 : Int) < (s.size : Int) := by omega
    have HS : Hid (s.size ≤ maxLen) := hs
    have e0 := drop_byte s 0 hpos
    rw [List.drop_zero] at e0
    have HC : Hid (canon s.data.toList = (s.toList == [48] || ((s[0].toNat : Int) != 48))) := by
      unfold Hid canon
      rw [h2.2, ByteArray.toList_eq, Bool.true_and]
      have e1 : (match s.data.toList with | [] => false | c :: _ => c != 48) = ((s[0].toNat : Int) != 48) := by
        rw [e0]
        show (s[0] != 48) = _
        by_cases hc : s[0] = 48
        · rw [hc]; rfl
        · have : ¬ (s[0].toNat : Int) = 48 := fun h3 => hc (byte_eq (c := 48) (by simpa using h3))
          have a1 : (s[0] != 48) = true := by simpa using hc
          have a2 : ((s[0].toNat : Int) != 48) = true := by simpa using this
          rw [a1, a2]
      exact congrArg _ e1
    clear hs h2 e0 hlen
    go_enter Tryd.func19, Tryd.ntmps19
    go_wp2_with (go_at_call 20; refine (allDigits_any _ _ HS.out).mono ?_; rintro e w' ⟨rfl, rfl⟩)
    · have h48 : s.toList = [48] := by assumption
      go_returns
      exact ⟨ret_bo (by rw [HC.out, h48]; rfl), rfl⟩
    · have h48 : ¬ s.toList = [48] := by assumption
      go_returns
      exact ⟨ret_bo (by rw [HC.out, show (s.toList == [48]) = false from by simpa using h48]), rfl⟩

theorem val_take (s : ByteArray) (k : Nat) (h : k < s.size) (h0 : (48 : Int) ≤ (s[k].toNat : Int)) (A : Int) (hA : A = (val (s.data.toList.take k) : Int)) : 10 * A + ((s[k].toNat : Int) - 48) = (val (s.data.toList.take (k + 1)) : Int) := by
  rw [take_s s k h, val_snoc, hA]; unfold dg1; omega

theorem val_take_le (s : ByteArray) (k : Nat) : val (s.data.toList.take k) ≤ val s.data.toList := by
  have e := val_append (s.data.toList.take k) (s.data.toList.drop k)
  rw [List.take_append_drop] at e
  have h1 : 1 ≤ 10 ^ (s.data.toList.drop k).length := Nat.pos_of_ne_zero (by simp)
  have := Nat.mul_le_mul_left (val (s.data.toList.take k)) h1
  omega

def rdB (l : List UInt8) : Bool := decide (val l ≤ maxM)
def rdV (l : List UInt8) : Int := if val l ≤ maxM then (val l : Int) else 0

theorem byte_digit (s : ByteArray) (k : Nat) (h : k < s.size) (ha : s.data.toList.all isD = true) : (48 : Int) ≤ (s[k].toNat : Int) ∧ (s[k].toNat : Int) ≤ 57 := by
  have : isD s[k] = true := by
    have hm : s[k] ∈ s.data.toList := by
      have := List.getElem_mem (l := s.data.toList) (n := k) (by rw [← Lib.size_eq]; exact h)
      exact this
    exact List.all_eq_true.mp ha _ hm
  unfold isD at this; simp at this; omega

set_option maxRecDepth 20000 in
theorem readDigits_any (s : ByteArray) (w : World) (hs : s.size ≤ maxLen) (ha : s.data.toList.all isD = true) :
    Calls Tryd.prog 21 #[.string s] w fun e w' => e = .returned (.tuple #[.int .i64 (rdV s.data.toList), .bool (rdB s.data.toList)]) ∧ w' = w := by
  unfold maxLen at hs
  have HD : Hid (s.data.toList.all isD = true) := ha
  clear ha
  go_enter Tryd.func21, Tryd.ntmps21
  go_wp2
  go_loop [4, 8] (fun a i => ∃ (k : Nat) (A : Int), k ≤ s.size ∧ i = .int .i64 k ∧ a = .int .i64 A ∧ 0 ≤ A ∧ A ≤ 100000000000 ∧ Hid (A = (val (s.data.toList.take k) : Int))) (fun _ i => s.size - (intOf i).toNat)
  case atStart => exact ⟨0, 0, Nat.zero_le _, rfl, rfl, by omega, by omega, by unfold Hid; rfl⟩
  case round =>
    obtain ⟨k, A, hk, rfl, rfl, a0, a1, HA⟩ := hrel
    by_cases hlt : k < s.size
    · obtain ⟨d0, d1⟩ := byte_digit s k hlt HD.out
      have HN : Hid (10 * A + ((s[k].toNat : Int) - 48) = (val (s.data.toList.take (k + 1)) : Int)) := val_take s k hlt d0 A HA.out
      by_cases hm : 10 * A + ((s[k].toNat : Int) - 48) ≤ 100000000000
      · go_wp2
        go_round
        case rel => exact ⟨k + 1, _, by omega, by go_num, rfl, by omega, by omega, HN⟩
        case measure => simp [intOf]; omega
      · have HG : Hid (¬ val s.data.toList ≤ maxM) := by
          unfold Hid maxM
          have := val_take_le s (k + 1)
          have := HN.out
          omega
        have hdd : decide (10 * A + ((s[k].toNat : Int) - 48) ≤ 100000000000) = false := decide_eq_false hm
        go_wp2
        go_returns
        exact ⟨ret_pi (by unfold rdV; rw [if_neg HG.out]) (by unfold rdB; rw [decide_eq_false HG.out]), rfl⟩
    · have HG : Hid (A = (val s.data.toList : Int)) := by
        have := HA.out; rw [List.take_of_length_le (by rw [← Lib.size_eq]; omega)] at this; exact this
      have HM : Hid (val s.data.toList ≤ maxM) := by unfold Hid maxM; have := HG.out; omega
      go_wp2
      go_returns
      exact ⟨ret_pi (by unfold rdV; rw [if_pos HM.out]; exact HG.out) (by unfold rdB; rw [decide_eq_true HM.out]), rfl⟩

end Go.Proofs.YtipdcegbfhokfaaDoor
