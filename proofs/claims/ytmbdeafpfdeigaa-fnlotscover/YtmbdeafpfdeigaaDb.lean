/- Texts of numbers, and texts picked: their bytes are few. -/
import Derived.Test.YtmbdeafpfdeigaaXo
import Derived.WalkLawsBesides
import Derived.WalkSpells
import Derived.Handy
import Derived.Outline
import Derived.Deep.QuietTactic
import Derived.BigQuiet
import Derived.Deep.RegionWith
namespace Go.Proofs.Ytmbdeafpfdeigaa
open Go.ChangeShapes Go.WideShapes Go.ChangeAt Go.RowKit
set_option linter.unusedVariables false
set_option linter.unusedSimpArgs false

set_option maxRecDepth 20000 in
theorem pickS_any (b k L : Nat) (cs : Array Value) (w : World) (hc : Cursor w b) (hr : CB w k cs 9) (hk : k ≠ b) (hL : 1 ≤ L ∧ L ≤ 1000) (hs : ∀ j, j < L → ∃ t : ByteArray, cs[j]? = some (.string t) ∧ t.size ≤ 40) :
    Calls Try.prog 102 #[.pointer (some ⟨b, 0, none⟩), .slice (some ⟨k, 0, none⟩) L L] w fun e w' => (∃ t : ByteArray, e = .returned (.string t) ∧ t.size ≤ 40) ∧ Moved b w w' := by
  have HC : Hid (Cursor w b) := hc
  have HR : Hid (CB w k cs 9) := hr
  have HS : Hid (∀ j, j < L → ∃ t : ByteArray, cs[j]? = some (.string t) ∧ t.size ≤ 40) := hs
  have hL1 : (1 : Int) ≤ (L : Int) := by omega
  have hL2 : (L : Int) ≤ 1000 := by omega
  clear hc hr hs
  go_enter Try.func102, Try.ntmps102
  go_wp2_with (go_at_call 60; refine (below_any b _ _ HC.out).mono ?_; rintro e w1 ⟨x, rfl, x0, x1, x2, m1⟩; have x3 := x1 hL1; obtain ⟨j, rfl⟩ : ∃ j : Nat, x = (j : Int) := ⟨x.toNat, by omega⟩; have C1 := HR.out.turns m1.2 hk; obtain ⟨t, ht, hts⟩ := HS.out j (by omega); have c1 : w1.cell? ⟨k, j, none⟩ = some (.string t) := (C1.cell j).trans ht; have M1 : Hid (Moved b w w1) := m1; clear m1 C1 x1 x2 ht)
  go_returns
  exact ⟨⟨t, rfl, hts⟩, M1.out⟩

theorem piece_size (n : Nat) (h : n < 10) : ((⟨#[48, 49, 50, 51, 52, 53, 54, 55, 56, 57]⟩ : ByteArray).extract n (n + 1)).size = 1 := by
  rw [ByteArray.size_extract]
  show min (n + 1) 10 - n = 1
  omega

set_option maxRecDepth 20000 in
theorem text_small (n : Nat) (w : World) (h : n < 10) :
    Calls Try.prog 103 #[.int .i64 (n : Int)] w fun e w' => e = .returned (.string ((⟨#[48, 49, 50, 51, 52, 53, 54, 55, 56, 57]⟩ : ByteArray).extract n (n + 1))) ∧ ∃ q, w' = w.drewN q := by
  have h0 : (0 : Int) ≤ n := by omega
  have h1 : (n : Int) < 10 := by omega
  go_enter Try.func103, Try.ntmps103
  go_wp2_with fail
  go_returns
  exact ⟨rfl, 0, rfl⟩

theorem text_join (n : Nat) (A B : ByteArray) (w : World) (h0 : (10 : Int) ≤ n) (hw1 : wrap64 ((n : Int) / 10) = (n : Int) / 10) (hw2 : IntKind.i64.wrap ((n : Int) / 10) = (n : Int) / 10) (sa : A.size ≤ 100) (sb : B.size ≤ 100)
    (e1 : (⟨#[48, 49, 50, 51, 52, 53, 54, 55, 56, 57]⟩ : ByteArray).extract (n % 10) (n % 10 + 1) = B)
    (ih : ∀ w : World, Calls Try.prog 103 #[.int .i64 ((n : Int) / 10)] w fun e w' => e = .returned (.string A) ∧ ∃ q, w' = w.drewN q) :
    Calls Try.prog 103 #[.int .i64 (n : Int)] w fun e w' => e = .returned (.string (A ++ B)) ∧ ∃ q, w' = w.drewN q := by
  have IH : Hid (∀ w : World, Calls Try.prog 103 #[.int .i64 ((n : Int) / 10)] w fun e w' => e = .returned (.string A) ∧ ∃ q, w' = w.drewN q) := ih
  have E1 : Hid ((⟨#[48, 49, 50, 51, 52, 53, 54, 55, 56, 57]⟩ : ByteArray).extract (n % 10) (n % 10 + 1) = B) := e1
  have SA : Hid (A.size ≤ 100) := sa
  have SB : Hid (B.size ≤ 100) := sb
  clear ih e1 sa sb
  go_enter Try.func103, Try.ntmps103
  go_wp2_with fail
  have e1 := E1.out
  have sa := SA.out
  have sb := SB.out
  go_quiet ((go_at_call 103; exact Calls.quiet_of (IH.out _)))
  go_wp2
  go_returns
  exact ⟨rfl, _, rfl⟩

theorem text_any (n : Nat) (w : World) (h : n < 100) :
    Calls Try.prog 103 #[.int .i64 (n : Int)] w fun e w' => (∃ t : ByteArray, e = .returned (.string t) ∧ t.size ≤ 4) ∧ ∃ q, w' = w.drewN q := by
  by_cases h10 : n < 10
  · refine (text_small n w h10).mono ?_
    rintro e w' ⟨rfl, hq⟩
    exact ⟨⟨_, rfl, by rw [piece_size n h10]; omega⟩, hq⟩
  have h0 : (10 : Int) ≤ n := by omega
  have hd : n / 10 < 10 := by omega
  refine (text_join n _ _ w h0 (by unfold wrap64; omega) (IntWalk.i64_in _ (by omega)) (by rw [piece_size (n / 10) hd]; omega) (by rw [piece_size (n % 10) (by omega)]; omega) rfl (fun w => by
    have := text_small (n / 10) w hd
    rw [show ((n / 10 : Nat) : Int) = (n : Int) / 10 by omega] at this
    exact this)).mono ?_
  rintro e w' ⟨rfl, hq⟩
  exact ⟨⟨_, rfl, by rw [ByteArray.size_append, piece_size (n / 10) hd, piece_size (n % 10) (by omega)]; omega⟩, hq⟩

end Go.Proofs.Ytmbdeafpfdeigaa
