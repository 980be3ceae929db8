/- Contracts of the model's numeral and of its writing of an amount. -/
import Derived.Test.YtnglofgcckdbmaaDoorProg
import Derived.Test.YtnglofgcckdbmaaDoorVc
import Derived.WalkKit
import Derived.ProofKit
import Derived.WalkLawsBesides
import Derived.WalkSpells
import Derived.Handy
import Derived.Outline
import Derived.Deep.QuietTactic
import Derived.BigQuiet
import Derived.Deep.RegionWith
namespace Go.Proofs.YtnglofgcckdbmaaDoor.Mny
open Go.ChangeShapes Go.WideShapes Go.ChangeAt Go.RowKit
set_option linter.unusedVariables false
set_option linter.unusedSimpArgs false
open Go.Lib

def tenB : ByteArray := ⟨#[48, 49, 50, 51, 52, 53, 54, 55, 56, 57]⟩
def str (l : List UInt8) : ByteArray := ⟨l.toArray⟩

theorem ten_piece (n : Nat) (h : n < 10) : (⟨#[48, 49, 50, 51, 52, 53, 54, 55, 56, 57]⟩ : ByteArray).extract n (n + 1) = str (decDigits n) := by
  rw [dec_small h]
  have h10 : n = 0 ∨ n = 1 ∨ n = 2 ∨ n = 3 ∨ n = 4 ∨ n = 5 ∨ n = 6 ∨ n = 7 ∨ n = 8 ∨ n = 9 := by omega
  rcases h10 with rfl | rfl | rfl | rfl | rfl | rfl | rfl | rfl | rfl | rfl <;> rfl

theorem str_size (l : List UInt8) : (str l).size = l.length := by simp [str, ByteArray.size]
theorem str_append (a b : List UInt8) : str a ++ str b = str (a ++ b) := by
  apply ByteArray.ext
  simp [str]

theorem ret_str {a b : ByteArray} (h : a = b) : Ending.returned (.string a) = .returned (.string b) := by rw [h]

theorem text_small (n : Nat) (w : World) (h : n < 10) :
    Calls Tryd.prog 27 #[.int .i64 (n : Int)] w fun e w' => e = .returned (.string (str (decDigits n))) ∧ ∃ q, w' = w.drewN q := by
  have h0 : (0 : Int) ≤ n := by omega
  have h1 : (n : Int) < 10 := by omega
  go_enter Tryd.func27, Tryd.ntmps27
  go_wp2_with fail
  go_returns
  exact ⟨ret_str (ten_piece n h), 0, rfl⟩

theorem dec_len_le (n : Nat) (hn : n < 1000000000000000000) : (decDigits n).length ≤ 18 := by
  have : ∀ (k n : Nat), n < 10 ^ (k + 1) → (decDigits n).length ≤ k + 1 := by
    intro k
    induction k with
    | zero => intro n h; rw [dec_small (by omega)]; simp
    | succ k ih =>
      intro n h
      by_cases h10 : n < 10
      · rw [dec_small h10]; simp
      · rw [dec_big h10, List.length_append]
        have := ih (n / 10) (by rw [Nat.pow_succ] at h; omega)
        simp; omega
  exact this 17 n (by omega)

theorem text_join (n : Nat) (A B : ByteArray) (w : World) (h0 : (10 : Int) ≤ n) (hw1 : wrap64 ((n : Int) / 10) = (n : Int) / 10) (hw2 : IntKind.i64.wrap ((n : Int) / 10) = (n : Int) / 10) (sa : A.size ≤ 100) (sb : B.size ≤ 100)
    (e1 : (⟨#[48, 49, 50, 51, 52, 53, 54, 55, 56, 57]⟩ : ByteArray).extract (n % 10) (n % 10 + 1) = B)
    (ih : ∀ w : World, Calls Tryd.prog 27 #[.int .i64 ((n : Int) / 10)] w fun e w' => e = .returned (.string A) ∧ ∃ q, w' = w.drewN q) :
    Calls Tryd.prog 27 #[.int .i64 (n : Int)] w fun e w' => e = .returned (.string (A ++ B)) ∧ ∃ q, w' = w.drewN q := by
  have IH : Hid (∀ w : World, Calls Tryd.prog 27 #[.int .i64 ((n : Int) / 10)] w fun e w' => e = .returned (.string A) ∧ ∃ q, w' = w.drewN q) := ih
  have E1 : Hid ((⟨#[48, 49, 50, 51, 52, 53, 54, 55, 56, 57]⟩ : ByteArray).extract (n % 10) (n % 10 + 1) = B) := e1
  have SA : Hid (A.size ≤ 100) := sa
  have SB : Hid (B.size ≤ 100) := sb
  clear ih e1 sa sb
  go_enter Tryd.func27, Tryd.ntmps27
  go_wp2_with fail
  have e1 := E1.out
  have sa := SA.out
  have sb := SB.out
  go_quiet ((go_at_call 27; exact Calls.quiet_of (IH.out _)))
  go_wp2
  go_returns
  exact ⟨rfl, _, rfl⟩

theorem text_big (n : Nat) (w : World) (h : ¬ n < 10) (hn : n < 1000000000000000000)
    (ih : ∀ w : World, Calls Tryd.prog 27 #[.int .i64 ((n : Int) / 10)] w fun e w' => e = .returned (.string (str (decDigits (n / 10)))) ∧ ∃ q, w' = w.drewN q) :
    Calls Tryd.prog 27 #[.int .i64 (n : Int)] w fun e w' => e = .returned (.string (str (decDigits n))) ∧ ∃ q, w' = w.drewN q := by
  have l1 := dec_len_le (n / 10) (by omega)
  have l2 := dec_len_le (n % 10) (by omega)
  have := text_join n (str (decDigits (n / 10))) (str (decDigits (n % 10))) w (by omega) (IntWalk.wrap64_in _ ⟨by omega, by omega⟩) (IntWalk.i64_in _ ⟨by omega, by omega⟩) (by rw [str_size]; omega) (by rw [str_size]; omega) (ten_piece (n % 10) (by omega)) ih
  rw [str_append, dec_small (show n % 10 < 10 by omega), ← dec_big h] at this
  exact this

theorem text_any (n : Nat) : ∀ w : World, n < 1000000000000000000 →
    Calls Tryd.prog 27 #[.int .i64 (n : Int)] w fun e w' => e = .returned (.string (str (decDigits n))) ∧ ∃ q, w' = w.drewN q := by
  induction n using Nat.strongRecOn with
  | ind n ih =>
    intro w hn
    by_cases h : n < 10
    · exact text_small n w h
    · refine text_big n w h hn fun w => ?_
      have := ih (n / 10) (by omega) w (by omega)
      rwa [show (((n / 10 : Nat) : Int)) = (n : Int) / 10 by omega] at this

theorem ten_any (p : Nat) (w : World) (h : p ≤ 6) :
    Calls Tryd.prog 59 #[.int .i64 (p : Int)] w fun e w' => e = .returned (.int .i64 ((10 ^ p : Nat) : Int)) ∧ w' = w := by
  rcases (show p = 0 ∨ p = 1 ∨ p = 2 ∨ p = 3 ∨ p = 4 ∨ p = 5 ∨ p = 6 by omega) with rfl | rfl | rfl | rfl | rfl | rfl | rfl
  all_goals
    go_enter Tryd.func59, Tryd.ntmps59
    go_wp2
    go_rounds 7
    go_returns
    exact ⟨rfl, rfl⟩

end Go.Proofs.YtnglofgcckdbmaaDoor.Mny

