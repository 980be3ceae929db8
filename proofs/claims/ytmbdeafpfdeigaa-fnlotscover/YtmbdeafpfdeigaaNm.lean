/- Contracts of the functions that tell whether a text is a name, in the program and in the model: both answer what 'nameB' says of the bytes. No conditions but the length that every text keeps. -/
import Derived.Test.YtmbdeafpfdeigaaProg
import Derived.WalkKit
import Derived.ProofKit
import Derived.WalkLawsBesides
namespace Go.Proofs.Ytmbdeafpfdeigaa
open Go.ChangeShapes Go.WideShapes Go.ChangeAt Go.RowKit
set_option linter.unusedVariables false

def nb (c : Int) : Bool := decide ((97 ≤ c ∧ c ≤ 122) ∨ (65 ≤ c ∧ c ≤ 90) ∨ (48 ≤ c ∧ c ≤ 57) ∨ c = 45 ∨ c = 95 ∨ c = 46)

def nbU (c : UInt8) : Bool := nb (c.toNat : Int)

def nmB (l : List UInt8) : Bool := l.all nbU

def nameB (s : ByteArray) : Bool := nmB s.data.toList && decide (1 ≤ s.size ∧ s.size ≤ 20)

theorem ret_bool {a b : Bool} (h : a = b) : Ending.returned (.bool a) = .returned (.bool b) := by rw [h]

theorem take_snoc (s : ByteArray) (k : Nat) (h : k < s.size) : s.data.toList.take (k + 1) = s.data.toList.take k ++ [s[k]] := by
  rw [List.take_succ_eq_append_getElem (by simpa using h)]; rfl

theorem nmB_snoc (s : ByteArray) (k : Nat) (h : k < s.size) : nmB (s.data.toList.take (k + 1)) = (nmB (s.data.toList.take k) && nb (s[k].toNat : Int)) := by
  rw [take_snoc s k h]; simp [nmB, nbU]

theorem nmB_bad (s : ByteArray) (k : Nat) (h : k < s.size) (hb : nb (s[k].toNat : Int) = false) : nmB s.data.toList = false := by
  have : s.data.toList = s.data.toList.take (k + 1) ++ s.data.toList.drop (k + 1) := (List.take_append_drop _ _).symm
  rw [this]; unfold nmB; rw [List.all_append]
  have h2 := nmB_snoc s k h
  unfold nmB at h2
  rw [h2, hb]; simp

theorem nmB_all (s : ByteArray) (k : Nat) (h : s.size ≤ k) : s.data.toList.take k = s.data.toList := by
  rw [List.take_of_length_le (by simpa using h)]

theorem nb_t {c : Int} (h : (97 ≤ c ∧ c ≤ 122) ∨ (65 ≤ c ∧ c ≤ 90) ∨ (48 ≤ c ∧ c ≤ 57) ∨ c = 45 ∨ c = 95 ∨ c = 46) : nb c = true := decide_eq_true h
theorem nb_f {c : Int} (h : ¬ ((97 ≤ c ∧ c ≤ 122) ∨ (65 ≤ c ∧ c ≤ 90) ∨ (48 ≤ c ∧ c ≤ 57) ∨ c = 45 ∨ c = 95 ∨ c = 46)) : nb c = false := decide_eq_false h

theorem isNameByte_any (c : Int) (w : World) (h0 : 0 ≤ c) (h1 : c ≤ 255) :
    Calls Try.prog 145 #[.int .u8 c] w fun e w' => e = .returned (.bool (nb c)) ∧ w' = w := by
  go_enter Try.func145, Try.ntmps145
  go_wp2
  all_goals go_ret
  all_goals
    refine ⟨ret_bool ?_, rfl⟩
    try simp only [beq_iff_eq, beq_eq_false_iff_ne, ne_eq] at *
    first | exact (nb_t (by omega)).symm | exact (nb_f (by omega)).symm

theorem byte_le (s : ByteArray) (k : Nat) (h : k < s.size) : (0 : Int) ≤ (s[k].toNat : Int) ∧ (s[k].toNat : Int) ≤ 255 := by
  have := s[k].toNat_lt; omega

theorem byte_ways (c : Int) (h : (0 : Int) ≤ c ∧ c ≤ 255) : (nb c = true ∧ ((97 ≤ c ∧ c ≤ 122) ∨ (65 ≤ c ∧ c ≤ 90) ∨ (48 ≤ c ∧ c ≤ 57) ∨ (45 ≤ c ∧ c ≤ 45) ∨ (95 ≤ c ∧ c ≤ 95) ∨ (46 ≤ c ∧ c ≤ 46))) ∨
    (nb c = false ∧ ((0 ≤ c ∧ c ≤ 44) ∨ (47 ≤ c ∧ c ≤ 47) ∨ (58 ≤ c ∧ c ≤ 64) ∨ (91 ≤ c ∧ c ≤ 94) ∨ (96 ≤ c ∧ c ≤ 96) ∨ (123 ≤ c ∧ c ≤ 255))) := by
  by_cases g : (97 ≤ c ∧ c ≤ 122) ∨ (65 ≤ c ∧ c ≤ 90) ∨ (48 ≤ c ∧ c ≤ 57) ∨ c = 45 ∨ c = 95 ∨ c = 46
  · exact .inl ⟨nb_t g, by omega⟩
  · exact .inr ⟨nb_f g, by omega⟩

theorem nameB_bad (s : ByteArray) (k : Nat) (h : k < s.size) (hb : nb (s[k].toNat : Int) = false) : false = nameB s := by
  simp [nameB, nmB_bad s k h hb]

theorem nmB_step (s : ByteArray) (k : Nat) (h : k < s.size) (ha : nmB (s.data.toList.take k) = true) (hb : nb (s[k].toNat : Int) = true) : nmB (s.data.toList.take (k + 1)) = true := by
  rw [nmB_snoc s k h, ha, hb]; rfl

theorem nameB_end (s : ByteArray) (k : Nat) (h : s.size ≤ k) (ha : nmB (s.data.toList.take k) = true) : nameB s = decide (1 ≤ s.size ∧ s.size ≤ 20) := by
  rw [nmB_all s k h] at ha; simp [nameB, ha]

theorem eq_t {a b : Int} (h : a = b) : (a == b) = true := by simpa using h
theorem eq_f {a b : Int} (h : ¬ a = b) : (a == b) = false := by simpa using h

set_option maxHeartbeats 1000000 in
theorem specName_any (s : ByteArray) (w : World) (hs : s.size ≤ maxLen) :
    Calls Try.prog 70 #[.string s] w fun e w' => e = .returned (.bool (nameB s)) ∧ w' = w := by
  unfold maxLen at hs
  go_enter Try.func70, Try.ntmps70
  go_wp2
  go_loop [3] (fun i => ∃ k : Nat, k ≤ s.size ∧ i = .int .i64 k ∧ nmB (s.data.toList.take k) = true) (fun i => s.size - (intOf i).toNat)
  case atStart => exact ⟨0, Nat.zero_le _, rfl, by simp [nmB]⟩
  case round =>
    obtain ⟨k, hk, rfl, hall⟩ := hrel
    by_cases hlt : k < s.size
    · rcases byte_ways (s[k].toNat : Int) (byte_le s k hlt) with ⟨hb, hr⟩ | ⟨hb, hr⟩
      · have HS : Hid (nmB (s.data.toList.take (k + 1)) = true) := nmB_step s k hlt hall hb
        clear hall hb
        rcases hr with ⟨g1, g2⟩ | ⟨g1, g2⟩ | ⟨g1, g2⟩ | ⟨g1, g2⟩ | ⟨g1, g2⟩ | ⟨g1, g2⟩
        all_goals
          first | have e45 : ((s[k].toNat : Int) == 45) = true := eq_t (by omega) | have e45 : ((s[k].toNat : Int) == 45) = false := eq_f (by omega)
          first | have e95 : ((s[k].toNat : Int) == 95) = true := eq_t (by omega) | have e95 : ((s[k].toNat : Int) == 95) = false := eq_f (by omega)
          first | have e46 : ((s[k].toNat : Int) == 46) = true := eq_t (by omega) | have e46 : ((s[k].toNat : Int) == 46) = false := eq_f (by omega)
          first | have d57 : decide ((s[k].toNat : Int) ≤ 57) = true := decide_eq_true (by omega) | have d57 : decide ((s[k].toNat : Int) ≤ 57) = false := decide_eq_false (by omega)
          first | have d90 : decide ((s[k].toNat : Int) ≤ 90) = true := decide_eq_true (by omega) | have d90 : decide ((s[k].toNat : Int) ≤ 90) = false := decide_eq_false (by omega)
          first | have d122 : decide ((s[k].toNat : Int) ≤ 122) = true := decide_eq_true (by omega) | have d122 : decide ((s[k].toNat : Int) ≤ 122) = false := decide_eq_false (by omega)
          go_wp2
          go_round
          case rel => exact ⟨k + 1, by omega, by go_num, HS.out⟩
          case measure => simp [intOf]; omega
      · have HS : Hid (false = nameB s) := nameB_bad s k hlt hb
        clear hall hb
        rcases hr with ⟨g1, g2⟩ | ⟨g1, g2⟩ | ⟨g1, g2⟩ | ⟨g1, g2⟩ | ⟨g1, g2⟩ | ⟨g1, g2⟩
        all_goals
          first | have e45 : ((s[k].toNat : Int) == 45) = true := eq_t (by omega) | have e45 : ((s[k].toNat : Int) == 45) = false := eq_f (by omega)
          first | have e95 : ((s[k].toNat : Int) == 95) = true := eq_t (by omega) | have e95 : ((s[k].toNat : Int) == 95) = false := eq_f (by omega)
          first | have e46 : ((s[k].toNat : Int) == 46) = true := eq_t (by omega) | have e46 : ((s[k].toNat : Int) == 46) = false := eq_f (by omega)
          first | have d57 : decide ((s[k].toNat : Int) ≤ 57) = true := decide_eq_true (by omega) | have d57 : decide ((s[k].toNat : Int) ≤ 57) = false := decide_eq_false (by omega)
          first | have d90 : decide ((s[k].toNat : Int) ≤ 90) = true := decide_eq_true (by omega) | have d90 : decide ((s[k].toNat : Int) ≤ 90) = false := decide_eq_false (by omega)
          first | have d122 : decide ((s[k].toNat : Int) ≤ 122) = true := decide_eq_true (by omega) | have d122 : decide ((s[k].toNat : Int) ≤ 122) = false := decide_eq_false (by omega)
          go_wp2
          go_ret
          exact ⟨ret_bool HS.out, rfl⟩
    · have HA : Hid (nameB s = decide (1 ≤ s.size ∧ s.size ≤ 20)) := nameB_end s k (by omega) hall
      clear hall
      go_wp2
      all_goals go_ret
      all_goals exact ⟨ret_bool (by rw [HA.out, Bool.eq_iff_iff]; simp; omega), rfl⟩

set_option maxHeartbeats 1000000 in
theorem implName_any (s : ByteArray) (w : World) (hs : s.size ≤ maxLen) :
    Calls Try.prog 125 #[.string s] w fun e w' => e = .returned (.bool (nameB s)) ∧ w' = w := by
  unfold maxLen at hs
  by_cases h1 : s.size < 1
  · go_enter Try.func125, Try.ntmps125
    go_wp2
    go_ret
    exact ⟨ret_bool (by simp [nameB]; omega), rfl⟩
  by_cases h2 : 20 < s.size
  · go_enter Try.func125, Try.ntmps125
    go_wp2
    go_ret
    exact ⟨ret_bool (by simp [nameB]; omega), rfl⟩
  go_enter Try.func125, Try.ntmps125
  go_wp2
  go_loop [14] (fun i => ∃ k : Nat, k ≤ s.size ∧ i = .int .i64 k ∧ nmB (s.data.toList.take k) = true) (fun i => s.size - (intOf i).toNat)
  case atStart => exact ⟨0, Nat.zero_le _, rfl, by simp [nmB]⟩
  case round =>
    obtain ⟨k, hk, rfl, hall⟩ := hrel
    by_cases hlt : k < s.size
    · have hbl := byte_le s k hlt
      cases hb : nb (s[k].toNat : Int)
      · have HS : Hid (false = nameB s) := nameB_bad s k hlt hb
        clear hall
        go_wp2_with (go_at_call 145; refine (isNameByte_any _ _ (by omega) (by omega)).mono ?_; rintro e w' ⟨rfl, rfl⟩)
        go_ret
        exact ⟨ret_bool HS.out, rfl⟩
      · have HS : Hid (nmB (s.data.toList.take (k + 1)) = true) := nmB_step s k hlt hall hb
        clear hall
        go_wp2_with (go_at_call 145; refine (isNameByte_any _ _ (by omega) (by omega)).mono ?_; rintro e w' ⟨rfl, rfl⟩)
        go_round
        case rel => exact ⟨k + 1, by omega, by go_num, HS.out⟩
        case measure => simp [intOf]; omega
    · have HA : Hid (nameB s = decide (1 ≤ s.size ∧ s.size ≤ 20)) := nameB_end s k (by omega) hall
      clear hall
      go_wp2
      go_ret
      exact ⟨ret_bool (by rw [HA.out, Bool.eq_iff_iff]; simp; omega), rfl⟩

end Go.Proofs.Ytmbdeafpfdeigaa
