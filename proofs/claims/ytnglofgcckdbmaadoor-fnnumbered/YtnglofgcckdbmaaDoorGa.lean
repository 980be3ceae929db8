/- Account numbers: the tests of bytes and texts, in the program and in the model. -/
import Derived.Test.YtnglofgcckdbmaaDoorIr
import Derived.Test.YtnglofgcckdbmaaDoorSm
import Derived.WalkKit
import Derived.Lib.Strings
import Derived.Deep.QuietTactic
namespace Go.Proofs.YtnglofgcckdbmaaDoor
open Go Go.ChangeShapes Go.WideShapes Go.ChangeAt Go.RowKit Go.Lib
set_option linter.unusedVariables false
set_option linter.unusedSimpArgs false

theorem isCap_any (c : Int) (w : World) : Calls Tryd.prog 52 #[.int .u8 c] w fun e w' => e = .returned (.bool (inB c 65 90)) ∧ w' = w := by
  by_cases h1 : 65 ≤ c
  · by_cases h2 : c ≤ 90
    · rw [inB_y h1 h2]
      have d2 : decide (c ≤ 90) = true := decide_eq_true h2
      go_enter Tryd.func52, Tryd.ntmps52
      go_wp2
      go_returns
      exact ⟨rfl, rfl⟩
    · rw [show inB c 65 90 = false from decide_eq_false (by omega)]
      have d2 : decide (c ≤ 90) = false := decide_eq_false h2
      go_enter Tryd.func52, Tryd.ntmps52
      go_wp2
      go_returns
      exact ⟨rfl, rfl⟩
  · rw [show inB c 65 90 = false from decide_eq_false (by omega)]
    go_enter Tryd.func52, Tryd.ntmps52
    go_wp2
    go_returns
    exact ⟨rfl, rfl⟩
theorem isCap_any_eq (c : Int) (v : Bool) (w : World) (h : Hid (inB c 65 90 = v)) : Calls Tryd.prog 52 #[.int .u8 c] w fun e w' => e = .returned (.bool v) ∧ w' = w := by
  rw [← h.out]; exact isCap_any c w
theorem isDig_any (c : Int) (w : World) : Calls Tryd.prog 57 #[.int .u8 c] w fun e w' => e = .returned (.bool (inB c 48 57)) ∧ w' = w := by
  by_cases h1 : 48 ≤ c
  · by_cases h2 : c ≤ 57
    · rw [inB_y h1 h2]
      have d2 : decide (c ≤ 57) = true := decide_eq_true h2
      go_enter Tryd.func57, Tryd.ntmps57
      go_wp2
      go_returns
      exact ⟨rfl, rfl⟩
    · rw [show inB c 48 57 = false from decide_eq_false (by omega)]
      have d2 : decide (c ≤ 57) = false := decide_eq_false h2
      go_enter Tryd.func57, Tryd.ntmps57
      go_wp2
      go_returns
      exact ⟨rfl, rfl⟩
  · rw [show inB c 48 57 = false from decide_eq_false (by omega)]
    go_enter Tryd.func57, Tryd.ntmps57
    go_wp2
    go_returns
    exact ⟨rfl, rfl⟩
theorem isDig_any_eq (c : Int) (v : Bool) (w : World) (h : Hid (inB c 48 57 = v)) : Calls Tryd.prog 57 #[.int .u8 c] w fun e w' => e = .returned (.bool v) ∧ w' = w := by
  rw [← h.out]; exact isDig_any c w
theorem l14Big_any (c : Int) (w : World) : Calls Tryd.prog 31 #[.int .u8 c] w fun e w' => e = .returned (.bool (inB c 65 90)) ∧ w' = w := by
  by_cases h1 : 65 ≤ c
  · by_cases h2 : c ≤ 90
    · rw [inB_y h1 h2]
      have d2 : decide (c ≤ 90) = true := decide_eq_true h2
      go_enter Tryd.func31, Tryd.ntmps31
      go_wp2
      go_returns
      exact ⟨rfl, rfl⟩
    · rw [show inB c 65 90 = false from decide_eq_false (by omega)]
      have d2 : decide (c ≤ 90) = false := decide_eq_false h2
      go_enter Tryd.func31, Tryd.ntmps31
      go_wp2
      go_returns
      exact ⟨rfl, rfl⟩
  · rw [show inB c 65 90 = false from decide_eq_false (by omega)]
    go_enter Tryd.func31, Tryd.ntmps31
    go_wp2
    go_returns
    exact ⟨rfl, rfl⟩
theorem l14Big_any_eq (c : Int) (v : Bool) (w : World) (h : Hid (inB c 65 90 = v)) : Calls Tryd.prog 31 #[.int .u8 c] w fun e w' => e = .returned (.bool v) ∧ w' = w := by
  rw [← h.out]; exact l14Big_any c w
theorem l9Dig_any (c : Int) (w : World) : Calls Tryd.prog 32 #[.int .u8 c] w fun e w' => e = .returned (.bool (inB c 48 57)) ∧ w' = w := by
  by_cases h1 : 48 ≤ c
  · by_cases h2 : c ≤ 57
    · rw [inB_y h1 h2]
      have d2 : decide (c ≤ 57) = true := decide_eq_true h2
      go_enter Tryd.func32, Tryd.ntmps32
      go_wp2
      go_returns
      exact ⟨rfl, rfl⟩
    · rw [show inB c 48 57 = false from decide_eq_false (by omega)]
      have d2 : decide (c ≤ 57) = false := decide_eq_false h2
      go_enter Tryd.func32, Tryd.ntmps32
      go_wp2
      go_returns
      exact ⟨rfl, rfl⟩
  · rw [show inB c 48 57 = false from decide_eq_false (by omega)]
    go_enter Tryd.func32, Tryd.ntmps32
    go_wp2
    go_returns
    exact ⟨rfl, rfl⟩
theorem l9Dig_any_eq (c : Int) (v : Bool) (w : World) (h : Hid (inB c 48 57 = v)) : Calls Tryd.prog 32 #[.int .u8 c] w fun e w' => e = .returned (.bool v) ∧ w' = w := by
  rw [← h.out]; exact l9Dig_any c w

def nbI (c : Int) : Bool := inB c 65 90 || inB c 48 57
theorem isNB_eq (c : Int) (v : Bool) (w : World) (h : Hid (nbI c = v)) : Calls Tryd.prog 53 #[.int .u8 c] w fun e w' => e = .returned (.bool v) ∧ w' = w := by
  have HV : Hid (v = nbI c) := h.out.symm
  clear h
  cases h1 : inB c 65 90
  · have H1 : Hid (inB c 65 90 = false) := h1
    have HW : Hid (inB c 48 57 = v) := hid (by rw [HV.out]; unfold nbI; rw [h1]; simp)
    clear h1 HV
    go_enter Tryd.func53, Tryd.ntmps53
    go_wp2_with (first | (go_at_call 52; refine (isCap_any_eq _ _ _ H1).mono ?_; rintro e wq ⟨rfl, ew⟩; replace ew := ew.symm; subst ew) | (go_at_call 57; refine (isDig_any_eq _ _ _ HW).mono ?_; rintro e wq ⟨rfl, ew⟩; replace ew := ew.symm; subst ew))
    go_returns
    exact ⟨rfl, rfl⟩
  · have H1 : Hid (inB c 65 90 = true) := h1
    obtain rfl : v = true := by rw [HV.out]; unfold nbI; rw [h1]; simp
    clear h1 HV
    go_enter Tryd.func53, Tryd.ntmps53
    go_wp2_with (go_at_call 52; refine (isCap_any_eq _ _ _ H1).mono ?_; rintro e wq ⟨rfl, ew⟩; replace ew := ew.symm; subst ew)
    go_returns
    exact ⟨rfl, rfl⟩
def capU (b : UInt8) : Bool := inB (b.toNat : Int) 65 90
def digU (b : UInt8) : Bool := inB (b.toNat : Int) 48 57
def nbU (b : UInt8) : Bool := nbI (b.toNat : Int)
def aL (p : UInt8 → Bool) (l : List UInt8) : Bool := l.all p
theorem byte_ll (s : ByteArray) (k : Nat) (h : k < s.size) : (0 : Int) ≤ (s[k].toNat : Int) ∧ (s[k].toNat : Int) ≤ 255 := by
  have := s[k].toNat_lt; omega
theorem take_s (s : ByteArray) (k : Nat) (h : k < s.size) : s.data.toList.take (k + 1) = s.data.toList.take k ++ [s[k]] := by
  rw [List.take_succ_eq_append_getElem (by simpa using h)]; rfl
theorem aL_bad {p : UInt8 → Bool} (s : ByteArray) (k : Nat) (h : k < s.size) (hb : p s[k] = false) : aL p s.data.toList = false := by
  unfold aL
  rw [← List.take_append_drop (k + 1) s.data.toList, List.all_append, take_s s k h, List.all_append]
  simp [hb]
theorem aL_snoc {p : UInt8 → Bool} (s : ByteArray) (k : Nat) (h : k < s.size) (ha : aL p (s.data.toList.take k) = true) (hb : p s[k] = true) : aL p (s.data.toList.take (k + 1)) = true := by
  unfold aL at ha ⊢
  rw [take_s s k h, List.all_append, ha]; simp [hb]
theorem aL_get {p : UInt8 → Bool} (s : ByteArray) (k : Nat) (h : k < s.size) (ha : aL p s.data.toList = true) : p s[k] = true := by
  cases hb : p s[k]
  · rw [aL_bad s k h hb] at ha; cases ha
  · rfl
set_option maxRecDepth 20000 in
theorem hasCap_any (s : ByteArray) (w : World) (hs : (s.size : Int) ≤ 9223372036854775807) :
    Calls Tryd.prog 51 #[.string s, .func (Fn.func 52) #[] #[]] w fun e w' => e = .returned (.bool (aL capU s.data.toList)) ∧ w' = w := by
  go_enter Tryd.func51, Tryd.ntmps51
  go_wp2
  go_loop [8, 5] (fun i _ => ∃ k : Nat, k ≤ s.size ∧ i = .int .i64 k ∧ Hid (aL capU (s.data.toList.take k) = true)) (fun i _ => s.size - (intOf i).toNat)
  case atStart => exact ⟨0, Nat.zero_le _, rfl, by unfold Hid; rfl⟩
  case round =>
    obtain ⟨k, hk, rfl, HA⟩ := hrel
    by_cases hlt : k < s.size
    · have bl := byte_ll s k hlt
      cases hd : capU s[k]
      · have HN : Hid (aL capU s.data.toList = false) := aL_bad s k hlt hd
        have HV : Hid (inB (s[k].toNat : Int) 65 90 = false) := hd
        clear hd
        go_wp2_with (go_at_call 52; refine (isCap_any_eq _ _ _ HV).mono ?_; rintro e wq ⟨rfl, ew⟩; replace ew := ew.symm; subst ew)
        go_returns
        exact ⟨ret_bool HN.out.symm, rfl⟩
      · have HN : Hid (aL capU (s.data.toList.take (k + 1)) = true) := aL_snoc s k hlt HA.out hd
        have HV : Hid (inB (s[k].toNat : Int) 65 90 = true) := hd
        clear hd
        go_wp2_with (go_at_call 52; refine (isCap_any_eq _ _ _ HV).mono ?_; rintro e wq ⟨rfl, ew⟩; replace ew := ew.symm; subst ew)
        go_round
        case rel => exact ⟨k + 1, by omega, by go_num, HN⟩
        case measure => simp [intOf]; omega
    · have HN : Hid (aL capU s.data.toList = true) := by
        have := HA.out; rw [List.take_of_length_le (by simp; omega)] at this; exact this
      go_wp2
      go_returns
      exact ⟨ret_bool HN.out.symm, rfl⟩
set_option maxRecDepth 20000 in
theorem hasNB_any (s : ByteArray) (w : World) (hs : (s.size : Int) ≤ 9223372036854775807) :
    Calls Tryd.prog 51 #[.string s, .func (Fn.func 53) #[] #[]] w fun e w' => e = .returned (.bool (aL nbU s.data.toList)) ∧ w' = w := by
  go_enter Tryd.func51, Tryd.ntmps51
  go_wp2
  go_loop [8, 5] (fun i _ => ∃ k : Nat, k ≤ s.size ∧ i = .int .i64 k ∧ Hid (aL nbU (s.data.toList.take k) = true)) (fun i _ => s.size - (intOf i).toNat)
  case atStart => exact ⟨0, Nat.zero_le _, rfl, by unfold Hid; rfl⟩
  case round =>
    obtain ⟨k, hk, rfl, HA⟩ := hrel
    by_cases hlt : k < s.size
    · have bl := byte_ll s k hlt
      cases hd : nbU s[k]
      · have HN : Hid (aL nbU s.data.toList = false) := aL_bad s k hlt hd
        have HV : Hid (nbI (s[k].toNat : Int) = false) := hd
        clear hd
        go_wp2_with (go_at_call 53; refine (isNB_eq _ _ _ HV).mono ?_; rintro e wq ⟨rfl, ew⟩; replace ew := ew.symm; subst ew)
        go_returns
        exact ⟨ret_bool HN.out.symm, rfl⟩
      · have HN : Hid (aL nbU (s.data.toList.take (k + 1)) = true) := aL_snoc s k hlt HA.out hd
        have HV : Hid (nbI (s[k].toNat : Int) = true) := hd
        clear hd
        go_wp2_with (go_at_call 53; refine (isNB_eq _ _ _ HV).mono ?_; rintro e wq ⟨rfl, ew⟩; replace ew := ew.symm; subst ew)
        go_round
        case rel => exact ⟨k + 1, by omega, by go_num, HN⟩
        case measure => simp [intOf]; omega
    · have HN : Hid (aL nbU s.data.toList = true) := by
        have := HA.out; rw [List.take_of_length_le (by simp; omega)] at this; exact this
      go_wp2
      go_returns
      exact ⟨ret_bool HN.out.symm, rfl⟩

set_option maxRecDepth 20000 in
theorem l14Rest_any (s : ByteArray) (w : World) (hs : (s.size : Int) ≤ 9223372036854775807) :
    Calls Tryd.prog 30 #[.string s] w fun e w' => e = .returned (.bool (aL nbU s.data.toList)) ∧ w' = w := by
  go_enter Tryd.func30, Tryd.ntmps30
  go_wp2
  go_loop [3] (fun i => ∃ k : Nat, k ≤ s.size ∧ i = .int .i64 k ∧ Hid (aL nbU (s.data.toList.take k) = true)) (fun i => s.size - (intOf i).toNat)
  case atStart => exact ⟨0, Nat.zero_le _, rfl, by unfold Hid; rfl⟩
  case round =>
    obtain ⟨k, hk, rfl, HA⟩ := hrel
    by_cases hlt : k < s.size
    · have bl := byte_ll s k hlt
      cases h1 : inB (s[k].toNat : Int) 65 90
      · have H1 : Hid (inB (s[k].toNat : Int) 65 90 = false) := h1
        cases h2 : inB (s[k].toNat : Int) 48 57
        · have H2 : Hid (inB (s[k].toNat : Int) 48 57 = false) := h2
          have HN : Hid (aL nbU s.data.toList = false) := aL_bad s k hlt (by unfold nbU nbI; rw [h1, h2]; rfl)
          clear h1 h2
          go_wp2_with (first | (go_at_call 31; refine (l14Big_any_eq _ _ _ H1).mono ?_; rintro e wq ⟨rfl, ew⟩; replace ew := ew.symm; subst ew) | (go_at_call 32; refine (l9Dig_any_eq _ _ _ H2).mono ?_; rintro e wq ⟨rfl, ew⟩; replace ew := ew.symm; subst ew))
          go_returns
          exact ⟨ret_bool HN.out.symm, rfl⟩
        · have H2 : Hid (inB (s[k].toNat : Int) 48 57 = true) := h2
          have HN : Hid (aL nbU (s.data.toList.take (k + 1)) = true) := aL_snoc s k hlt HA.out (by unfold nbU nbI; rw [h1, h2]; rfl)
          clear h1 h2
          go_wp2_with (first | (go_at_call 31; refine (l14Big_any_eq _ _ _ H1).mono ?_; rintro e wq ⟨rfl, ew⟩; replace ew := ew.symm; subst ew) | (go_at_call 32; refine (l9Dig_any_eq _ _ _ H2).mono ?_; rintro e wq ⟨rfl, ew⟩; replace ew := ew.symm; subst ew))
          go_round
          case rel => exact ⟨k + 1, by omega, by go_num, HN⟩
          case measure => simp [intOf]; omega
      · have H1 : Hid (inB (s[k].toNat : Int) 65 90 = true) := h1
        have HN : Hid (aL nbU (s.data.toList.take (k + 1)) = true) := aL_snoc s k hlt HA.out (by unfold nbU nbI; rw [h1]; rfl)
        clear h1
        go_wp2_with (go_at_call 31; refine (l14Big_any_eq _ _ _ H1).mono ?_; rintro e wq ⟨rfl, ew⟩; replace ew := ew.symm; subst ew)
        go_round
        case rel => exact ⟨k + 1, by omega, by go_num, HN⟩
        case measure => simp [intOf]; omega
    · have HN : Hid (aL nbU s.data.toList = true) := by
        have := HA.out; rw [List.take_of_length_le (by simp; omega)] at this; exact this
      go_wp2
      go_returns
      exact ⟨ret_bool HN.out.symm, rfl⟩
set_option maxRecDepth 20000 in
theorem allDig_any (s : ByteArray) (w : World) (hs : (s.size : Int) ≤ 9223372036854775807) (h0 : 0 < s.size) :
    Calls Tryd.prog 28 #[.string s] w fun e w' => e = .returned (.bool (aL digU s.data.toList)) ∧ w' = w := by
  go_enter Tryd.func28, Tryd.ntmps28
  go_wp2
  go_loop [6] (fun i => ∃ k : Nat, k ≤ s.size ∧ i = .int .i64 k ∧ Hid (aL digU (s.data.toList.take k) = true)) (fun i => s.size - (intOf i).toNat)
  case atStart => exact ⟨0, Nat.zero_le _, rfl, by unfold Hid; rfl⟩
  case round =>
    obtain ⟨k, hk, rfl, HA⟩ := hrel
    by_cases hlt : k < s.size
    · have bl := byte_ll s k hlt
      cases hd : digU s[k]
      · have HN : Hid (aL digU s.data.toList = false) := aL_bad s k hlt hd
        have HV : Hid (inB (s[k].toNat : Int) 48 57 = false) := hd
        clear hd
        go_wp2_with (go_at_call 57; refine (isDig_any_eq _ _ _ HV).mono ?_; rintro e wq ⟨rfl, ew⟩; replace ew := ew.symm; subst ew)
        go_returns
        exact ⟨ret_bool HN.out.symm, rfl⟩
      · have HN : Hid (aL digU (s.data.toList.take (k + 1)) = true) := aL_snoc s k hlt HA.out hd
        have HV : Hid (inB (s[k].toNat : Int) 48 57 = true) := hd
        clear hd
        go_wp2_with (go_at_call 57; refine (isDig_any_eq _ _ _ HV).mono ?_; rintro e wq ⟨rfl, ew⟩; replace ew := ew.symm; subst ew)
        go_round
        case rel => exact ⟨k + 1, by omega, by go_num, HN⟩
        case measure => simp [intOf]; omega
    · have HN : Hid (aL digU s.data.toList = true) := by
        have := HA.out; rw [List.take_of_length_le (by simp; omega)] at this; exact this
      have h00 : (0 : Int) < (s.size : Int) := by omega
      go_wp2
      go_returns
      exact ⟨ret_bool (by rw [HN.out]), rfl⟩

/-- One byte more, letters read as two digits, modulo 97. -/
def mdS (n : Int) (b : UInt8) : Int := if digU b = true then (n * 10 + ((b.toNat : Int) - 48)) % 97 else (n * 100 + ((b.toNat : Int) - 65) + 10) % 97
def mdL (l : List UInt8) : Int := l.foldl mdS 0
theorem mdS_bd (n : Int) (b : UInt8) : 0 ≤ mdS n b ∧ mdS n b ≤ 96 := by unfold mdS; split <;> omega
theorem foldl_bd : ∀ (l : List UInt8) (n : Int), 0 ≤ n ∧ n ≤ 96 → 0 ≤ l.foldl mdS n ∧ l.foldl mdS n ≤ 96
  | [], n, h => h
  | b :: l, n, h => foldl_bd l _ (mdS_bd n b)
theorem mdL_bd (l : List UInt8) : 0 ≤ mdL l ∧ mdL l ≤ 96 := foldl_bd l 0 (by omega)
theorem mdL_snoc (s : ByteArray) (k : Nat) (h : k < s.size) : mdL (s.data.toList.take (k + 1)) = mdS (mdL (s.data.toList.take k)) s[k] := by
  unfold mdL; rw [take_s s k h, List.foldl_append]; rfl
theorem nb_cap {b : UInt8} (h : nbU b = true) (hd : digU b = false) : (65 : Int) ≤ (b.toNat : Int) ∧ (b.toNat : Int) ≤ 90 := by
  unfold nbU nbI at h
  have hd2 : inB (b.toNat : Int) 48 57 = false := hd
  rw [hd2, Bool.or_false] at h
  exact inB_t h
theorem tmod97 {a : Int} (h : 0 ≤ a) : Int.tmod a 97 = a % 97 := Int.tmod_eq_emod_of_nonneg h
set_option maxRecDepth 20000 in
theorem l14Mod_any (s : ByteArray) (w : World) (hs : (s.size : Int) ≤ 9223372036854775807) (ha : aL nbU s.data.toList = true) :
    Calls Tryd.prog 33 #[.string s] w fun e w' => e = .returned (.int .i64 (mdL s.data.toList)) ∧ w' = w := by
  have HNB : Hid (aL nbU s.data.toList = true) := ha
  clear ha
  go_enter Tryd.func33, Tryd.ntmps33
  go_wp2
  go_loop [3, 4] (fun n i => ∃ (k : Nat) (A : Int), k ≤ s.size ∧ i = .int .i64 k ∧ n = .int .i64 A ∧ 0 ≤ A ∧ A ≤ 96 ∧ Hid (A = mdL (s.data.toList.take k))) (fun _ i => s.size - (intOf i).toNat)
  case atStart => exact ⟨0, 0, Nat.zero_le _, rfl, rfl, by omega, by omega, by unfold Hid; rfl⟩
  case round =>
    obtain ⟨k, A, hk, rfl, rfl, a0, a1, HA⟩ := hrel
    by_cases hlt : k < s.size
    · have bl := byte_ll s k hlt
      have hnb := aL_get s k hlt HNB.out
      have hsn := mdL_snoc s k hlt
      rw [← HA.out] at hsn
      have hbd := mdS_bd A s[k]
      cases hd : digU s[k]
      · have hcp := nb_cap hnb hd
        have HV : Hid (inB (s[k].toNat : Int) 48 57 = false) := hd
        have hm : mdS A s[k] = (A * 100 + ((s[k].toNat : Int) - 65) + 10) % 97 := by unfold mdS; rw [hd]; rfl
        rw [hm] at hsn hbd
        obtain ⟨x, hx⟩ : ∃ x : Int, (s[k].toNat : Int) = x := ⟨_, rfl⟩
        have hrm := tmod97 (a := A * 100 + (x - 65) + 10) (by omega)
        have HN : Hid ((A * 100 + (x - 65) + 10) % 97 = mdL (s.data.toList.take (k + 1))) := hid (by rw [← hx]; exact hsn.symm)
        rw [hx] at bl hcp HV hbd
        clear hd hsn hm hnb
        go_wp2_with (go_at_call 32; refine (l9Dig_any_eq _ _ _ HV).mono ?_; rintro e wq ⟨rfl, ew⟩; replace ew := ew.symm; subst ew)
        go_round
        case rel => exact ⟨k + 1, _, by omega, by go_num, rfl, hbd.1, hbd.2, HN⟩
        case measure => simp [intOf]; omega
      · have hcp := inB_t (show inB (s[k].toNat : Int) 48 57 = true from hd)
        have HV : Hid (inB (s[k].toNat : Int) 48 57 = true) := hd
        have hm : mdS A s[k] = (A * 10 + ((s[k].toNat : Int) - 48)) % 97 := by unfold mdS; rw [hd]; rfl
        rw [hm] at hsn hbd
        obtain ⟨x, hx⟩ : ∃ x : Int, (s[k].toNat : Int) = x := ⟨_, rfl⟩
        have hrm := tmod97 (a := A * 10 + (x - 48)) (by omega)
        have HN : Hid ((A * 10 + (x - 48)) % 97 = mdL (s.data.toList.take (k + 1))) := hid (by rw [← hx]; exact hsn.symm)
        rw [hx] at bl hcp HV hbd
        clear hd hsn hm hnb
        go_wp2_with (go_at_call 32; refine (l9Dig_any_eq _ _ _ HV).mono ?_; rintro e wq ⟨rfl, ew⟩; replace ew := ew.symm; subst ew)
        go_round
        case rel => exact ⟨k + 1, _, by omega, by go_num, rfl, hbd.1, hbd.2, HN⟩
        case measure => simp [intOf]; omega
    · have HN : Hid (A = mdL s.data.toList) := by
        have := HA.out; rw [List.take_of_length_le (by simp; omega)] at this; exact this
      go_wp2
      go_returns
      exact ⟨ret_i HN.out, rfl⟩
end Go.Proofs.YtnglofgcckdbmaaDoor
