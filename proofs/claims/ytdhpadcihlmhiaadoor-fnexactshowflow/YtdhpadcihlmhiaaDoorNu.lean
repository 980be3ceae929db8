/- The model's numeral and the library's Itoa: one text. -/
import Derived.Test.YtdhpadcihlmhiaaDoorProg
import Derived.Test.YtdhpadcihlmhiaaDoorItL
import Derived.WalkKit
import Derived.ProofKit
import Derived.WalkLawsBesides
import Derived.WalkSpells
import Derived.Handy
import Derived.Outline
import Derived.Below
import Derived.Deep.QuietTactic
import Derived.BigQuiet
import Derived.Deep.RegionWith
import Derived.WalkSmall
namespace Go.Proofs.YtdhpadcihlmhiaaDoor
open Go.ChangeShapes Go.WideShapes Go.ChangeAt Go.RowKit
set_option linter.unusedVariables false
set_option linter.unusedSimpArgs false
open Go.Lib

theorem dec_small {u : Nat} (h : u < 10) : decDigits u = [UInt8.ofNat (48 + u)] := by rw [decDigits, dif_pos h]
theorem dec_big {u : Nat} (h : ¬ u < 10) : decDigits u = decDigits (u / 10) ++ [UInt8.ofNat (48 + u % 10)] := by rw [decDigits, dif_neg h]
def tenB : ByteArray := ⟨#[48, 49, 50, 51, 52, 53, 54, 55, 56, 57]⟩
def strB (l : List UInt8) : ByteArray := ⟨l.toArray⟩

theorem ten_piece (n : Nat) (h : n < 10) : (⟨#[48, 49, 50, 51, 52, 53, 54, 55, 56, 57]⟩ : ByteArray).extract n (n + 1) = strB (decDigits n) := by
  rw [dec_small h]
  have h10 : n = 0 ∨ n = 1 ∨ n = 2 ∨ n = 3 ∨ n = 4 ∨ n = 5 ∨ n = 6 ∨ n = 7 ∨ n = 8 ∨ n = 9 := by omega
  rcases h10 with rfl | rfl | rfl | rfl | rfl | rfl | rfl | rfl | rfl | rfl <;> rfl

theorem strB_size (l : List UInt8) : (strB l).size = l.length := by simp [strB, ByteArray.size]
theorem strB_append (a b : List UInt8) : strB a ++ strB b = strB (a ++ b) := by
  apply ByteArray.ext
  simp [strB]

theorem ret_str {a b : ByteArray} (h : a = b) : Ending.returned (.string a) = .returned (.string b) := by rw [h]

theorem text_small (n : Nat) (w : World) (h : n < 10) :
    Calls Tryd.prog 52 #[.int .i64 (n : Int)] w fun e w' => e = .returned (.string (strB (decDigits n))) ∧ ∃ q, w' = w.drewN q := by
  have h0 : (0 : Int) ≤ n := by omega
  have h1 : (n : Int) < 10 := by omega
  go_enter Tryd.func52, Tryd.ntmps52
  go_wp2_with fail
  go_returns
  exact ⟨ret_str (ten_piece n h), 0, rfl⟩

theorem dec_len_le (n : Nat) (hn : n < 1000000000000000000) : (decDigits n).length ≤ 18 := by
  have : ∀ (k n : Nat), n < 10 ^ (k + 1) → (decDigits n).length ≤ k + 1 := by
    intro k
    induction k with
    | zero => intro n h; rw [dec_small (by omega)]; simp
    | succ k ih =>
      intro n h
      by_cases h10 : n < 10
      · rw [dec_small h10]; simp
      · rw [dec_big h10, List.length_append]
        have := ih (n / 10) (by rw [Nat.pow_succ] at h; omega)
        simp; omega
  exact this 17 n (by omega)

theorem text_join (n : Nat) (A B : ByteArray) (w : World) (h0 : (10 : Int) ≤ n) (hw1 : wrap64 ((n : Int) / 10) = (n : Int) / 10) (hw2 : IntKind.i64.wrap ((n : Int) / 10) = (n : Int) / 10) (sa : A.size ≤ 100) (sb : B.size ≤ 100)
    (e1 : (⟨#[48, 49, 50, 51, 52, 53, 54, 55, 56, 57]⟩ : ByteArray).extract (n % 10) (n % 10 + 1) = B)
    (ih : ∀ w : World, Calls Tryd.prog 52 #[.int .i64 ((n : Int) / 10)] w fun e w' => e = .returned (.string A) ∧ ∃ q, w' = w.drewN q) :
    Calls Tryd.prog 52 #[.int .i64 (n : Int)] w fun e w' => e = .returned (.string (A ++ B)) ∧ ∃ q, w' = w.drewN q := by
  have IH : Hid (∀ w : World, Calls Tryd.prog 52 #[.int .i64 ((n : Int) / 10)] w fun e w' => e = .returned (.string A) ∧ ∃ q, w' = w.drewN q) := ih
  have E1 : Hid ((⟨#[48, 49, 50, 51, 52, 53, 54, 55, 56, 57]⟩ : ByteArray).extract (n % 10) (n % 10 + 1) = B) := e1
  have SA : Hid (A.size ≤ 100) := sa
  have SB : Hid (B.size ≤ 100) := sb
  clear ih e1 sa sb
  go_enter Tryd.func52, Tryd.ntmps52
  go_wp2_with fail
  have e1 := E1.out
  have sa := SA.out
  have sb := SB.out
  go_quiet ((go_at_call 52; exact Calls.quiet_of (IH.out _)))
  go_wp2
  go_returns
  exact ⟨rfl, _, rfl⟩

theorem text_big (n : Nat) (w : World) (h : ¬ n < 10) (hn : n < 1000000000000000000)
    (ih : ∀ w : World, Calls Tryd.prog 52 #[.int .i64 ((n : Int) / 10)] w fun e w' => e = .returned (.string (strB (decDigits (n / 10)))) ∧ ∃ q, w' = w.drewN q) :
    Calls Tryd.prog 52 #[.int .i64 (n : Int)] w fun e w' => e = .returned (.string (strB (decDigits n))) ∧ ∃ q, w' = w.drewN q := by
  have l1 := dec_len_le (n / 10) (by omega)
  have l2 := dec_len_le (n % 10) (by omega)
  have := text_join n (strB (decDigits (n / 10))) (strB (decDigits (n % 10))) w (by omega) (IntWalk.wrap64_in _ ⟨by omega, by omega⟩) (IntWalk.i64_in _ ⟨by omega, by omega⟩) (by rw [strB_size]; omega) (by rw [strB_size]; omega) (ten_piece (n % 10) (by omega)) ih
  rw [strB_append, dec_small (show n % 10 < 10 by omega), ← dec_big h] at this
  exact this

theorem text_any (n : Nat) : ∀ w : World, n < 1000000000000000000 →
    Calls Tryd.prog 52 #[.int .i64 (n : Int)] w fun e w' => e = .returned (.string (strB (decDigits n))) ∧ ∃ q, w' = w.drewN q := by
  induction n using Nat.strongRecOn with
  | ind n ih =>
    intro w hn
    by_cases h : n < 10
    · exact text_small n w h
    · refine text_big n w h hn fun w => ?_
      have := ih (n / 10) (by omega) w (by omega)
      rwa [show (((n / 10 : Nat) : Int)) = (n : Int) / 10 by omega] at this


theorem grow_below (w : World) (k : Nat) (os : Array Obj) : Below w.heap.size w (Go.Sort.grow (w.drewN k) os) := by
  refine ⟨rfl, rfl, rfl, ?_, fun j hj => ?_⟩
  · show w.heap.size ≤ (w.heap ++ os).size
    simp
  · show (w.heap ++ os)[j]? = w.heap[j]?
    rw [Array.getElem?_append_left hj]
theorem itoa_any (x : Nat) (w : World) (h1 : x ≤ 100000000000) (htab : Lib.TabIs Tryd.prog w "internal/strconv.uint64pow10" .u64 Lib.pow10Tab) :
    Calls Tryd.prog 126 #[.int .i64 (x : Int)] w fun e w' => e = .returned (.string (strB (decDigits x))) ∧ Below w.heap.size w w' := by
  refine (Tryd.strconv_Itoa (x : Int) (by omega) (by omega) w htab).mono ?_
  rintro e w' ⟨rfl, k, os, rfl⟩
  have e1 : Lib.itoa (x : Int) = decDigits x := by unfold Lib.itoa; rw [if_neg (by omega)]; simp
  rw [e1]
  exact ⟨rfl, grow_below w k os⟩
theorem itoa_at {x : Int} {m : Nat} {w : World} (hx : x = (m : Int)) (h1 : m ≤ 100000000000) (htab : Lib.TabIs Tryd.prog w "internal/strconv.uint64pow10" .u64 Lib.pow10Tab) :
    Calls Tryd.prog 126 #[.int .i64 x] w fun e w' => e = .returned (.string (strB (decDigits m))) ∧ Below w.heap.size w w' := hx ▸ itoa_any m w h1 htab
theorem text_at {x : Int} {m : Nat} {w : World} (hx : x = (m : Int)) (h1 : m ≤ 100000000000) :
    Calls Tryd.prog 52 #[.int .i64 x] w fun e w' => e = .returned (.string (strB (decDigits m))) ∧ ∃ q, w' = w.drewN q := hx ▸ text_any m w (by omega)
theorem drew_below (w : World) (q : Nat) : Below w.heap.size w (w.drewN q) := ⟨rfl, rfl, rfl, Nat.le_refl _, fun _ _ => rfl⟩
theorem tab_below {w w' : World} {n : String} {k : IntKind} {zs : List Int} {g : Nat} (hg : Tryd.prog.globalNamed n = some g) (h : Lib.TabIs Tryd.prog w n k zs) (b : Below w.heap.size w w') (hl : g < w.heap.size) : Lib.TabIs Tryd.prog w' n k zs := by
  unfold Lib.TabIs at h ⊢
  rw [← h]
  unfold World.var?
  rw [hg]
  show (match w'.heap[g]? with | some (.cells cs _ _) => some cs | _ => none) = (match w.heap[g]? with | some (.cells cs _ _) => some cs | _ => none)
  rw [b.block g hl]
end Go.Proofs.YtdhpadcihlmhiaaDoor
