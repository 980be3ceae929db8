/- Contracts of the functions that tell whether a text is a name, in the program and in the model: both answer what 'nameB' says of the bytes. No conditions but the length that every text keeps. -/
import Derived.Test.YtogolmbgboihdaaProg
import Derived.WalkKit
import Derived.ProofKit
import Derived.WalkLawsBesides
namespace Go.Proofs.Ytogolmbgboihdaa
open Go.ChangeShapes Go.WideShapes Go.ChangeAt Go.RowKit
set_option linter.unusedVariables false

def nb (c : Int) : Bool := decide ((97 ≤ c ∧ c ≤ 122) ∨ (65 ≤ c ∧ c ≤ 90) ∨ (48 ≤ c ∧ c ≤ 57) ∨ c = 45 ∨ c = 95 ∨ c = 46)

def nbU (c : UInt8) : Bool := nb (c.toNat : Int)

def nmB (l : List UInt8) : Bool := l.all nbU

def nameB (s : ByteArray) : Bool := nmB s.data.toList && decide (1 ≤ s.size ∧ s.size ≤ 20)

theorem ret_bool {a b : Bool} (h : a = b) : Ending.returned (.bool a) = .returned (.bool b) := by rw [h]

theorem take_snoc (s : ByteArray) (k : Nat) (h : k < s.size) : s.data.toList.take (k + 1) = s.data.toList.take k ++ [s[k]] := by
  rw [List.take_succ_eq_append_getElem (by simpa using h)]; rfl

theorem nmB_snoc (s : ByteArray) (k : Nat) (h : k < s.size) : nmB (s.data.toList.take (k + 1)) = (nmB (s.data.toList.take k) && nb (s[k].toNat : Int)) := by
  rw [take_snoc s k h]; simp [nmB, nbU]

theorem nmB_bad (s : ByteArray) (k : Nat) (h : k < s.size) (hb : nb (s[k].toNat : Int) = false) : nmB s.data.toList = false := by
  have : s.data.toList = s.data.toList.take (k + 1) ++ s.data.toList.drop (k + 1) := (List.take_append_drop _ _).symm
  rw [this]; unfold nmB; rw [List.all_append]
  have h2 := nmB_snoc s k h
  unfold nmB at h2
  rw [h2, hb]; simp

theorem nmB_all (s : ByteArray) (k : Nat) (h : s.size ≤ k) : s.data.toList.take k = s.data.toList := by
  rw [List.take_of_length_le (by simpa using h)]

theorem nb_t {c : Int} (h : (97 ≤ c ∧ c ≤ 122) ∨ (65 ≤ c ∧ c ≤ 90) ∨ (48 ≤ c ∧ c ≤ 57) ∨ c = 45 ∨ c = 95 ∨ c = 46) : nb c = true := decide_eq_true h
theorem nb_f {c : Int} (h : ¬ ((97 ≤ c ∧ c ≤ 122) ∨ (65 ≤ c ∧ c ≤ 90) ∨ (48 ≤ c ∧ c ≤ 57) ∨ c = 45 ∨ c = 95 ∨ c = 46)) : nb c = false := decide_eq_false h

theorem byte_le (s : ByteArray) (k : Nat) (h : k < s.size) : (0 : Int) ≤ (s[k].toNat : Int) ∧ (s[k].toNat : Int) ≤ 255 := by
  have := s[k].toNat_lt; omega

theorem byte_ways (c : Int) (h : (0 : Int) ≤ c ∧ c ≤ 255) : (nb c = true ∧ ((97 ≤ c ∧ c ≤ 122) ∨ (65 ≤ c ∧ c ≤ 90) ∨ (48 ≤ c ∧ c ≤ 57) ∨ (45 ≤ c ∧ c ≤ 45) ∨ (95 ≤ c ∧ c ≤ 95) ∨ (46 ≤ c ∧ c ≤ 46))) ∨
    (nb c = false ∧ ((0 ≤ c ∧ c ≤ 44) ∨ (47 ≤ c ∧ c ≤ 47) ∨ (58 ≤ c ∧ c ≤ 64) ∨ (91 ≤ c ∧ c ≤ 94) ∨ (96 ≤ c ∧ c ≤ 96) ∨ (123 ≤ c ∧ c ≤ 255))) := by
  by_cases g : (97 ≤ c ∧ c ≤ 122) ∨ (65 ≤ c ∧ c ≤ 90) ∨ (48 ≤ c ∧ c ≤ 57) ∨ c = 45 ∨ c = 95 ∨ c = 46
  · exact .inl ⟨nb_t g, by omega⟩
  · exact .inr ⟨nb_f g, by omega⟩

theorem nameB_bad (s : ByteArray) (k : Nat) (h : k < s.size) (hb : nb (s[k].toNat : Int) = false) : false = nameB s := by
  simp [nameB, nmB_bad s k h hb]

theorem nmB_step (s : ByteArray) (k : Nat) (h : k < s.size) (ha : nmB (s.data.toList.take k) = true) (hb : nb (s[k].toNat : Int) = true) : nmB (s.data.toList.take (k + 1)) = true := by
  rw [nmB_snoc s k h, ha, hb]; rfl

theorem nameB_end (s : ByteArray) (k : Nat) (h : s.size ≤ k) (ha : nmB (s.data.toList.take k) = true) : nameB s = decide (1 ≤ s.size ∧ s.size ≤ 20) := by
  rw [nmB_all s k h] at ha; simp [nameB, ha]

theorem eq_t {a b : Int} (h : a = b) : (a == b) = true := by simpa using h
theorem eq_f {a b : Int} (h : ¬ a = b) : (a == b) = false := by simpa using h

end Go.Proofs.Ytogolmbgboihdaa

