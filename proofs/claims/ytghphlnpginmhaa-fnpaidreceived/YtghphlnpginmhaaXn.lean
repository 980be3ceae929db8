/- Names and texts that are drawn: their bytes are few. -/
import Derived.Test.YtghphlnpginmhaaXd
import Derived.Test.YtghphlnpginmhaaXA
import Derived.WalkLawsBesides
import Derived.WalkSpells
import Derived.Handy
import Derived.Outline
import Derived.Deep.QuietTactic
import Derived.BigQuiet
import Derived.Deep.RegionWith
namespace Go.Proofs.Ytghphlnpginmhaa
open Go.ChangeShapes Go.WideShapes Go.ChangeAt Go.RowKit
set_option linter.unusedVariables false
set_option linter.unusedSimpArgs false
set_option maxRecDepth 20000 in
theorem pickS_any (b k L : Nat) (cs : Array Value) (w : World) (hc : Cursor w b) (hr : CB w k cs 9) (hk : k ≠ b) (hL : 1 ≤ L ∧ L ≤ 1000) (hs : ∀ j, j < L → ∃ t : ByteArray, cs[j]? = some (.string t) ∧ t.size ≤ 40) :
    Calls Try.prog 63 #[.pointer (some ⟨b, 0, none⟩), .slice (some ⟨k, 0, none⟩) L L] w fun e w' => (∃ t : ByteArray, e = .returned (.string t) ∧ t.size ≤ 40) ∧ Moved b w w' := by
  have HC : Hid (Cursor w b) := hc
  have HR : Hid (CB w k cs 9) := hr
  have HS : Hid (∀ j, j < L → ∃ t : ByteArray, cs[j]? = some (.string t) ∧ t.size ≤ 40) := hs
  have hL1 : (1 : Int) ≤ (L : Int) := by omega
  have hL2 : (L : Int) ≤ 1000 := by omega
  clear hc hr hs
  go_enter Try.func63, Try.ntmps63
  go_wp2_with (go_at_call 59; refine (below_any b _ _ HC.out).mono ?_; rintro e w1 ⟨x, rfl, x0, x1, x2, m1⟩; have x3 := x1 hL1; obtain ⟨j, rfl⟩ : ∃ j : Nat, x = (j : Int) := ⟨x.toNat, by omega⟩; have C1 := HR.out.turns m1.2 hk; obtain ⟨t, ht, hts⟩ := HS.out j (by omega); have c1 : w1.cell? ⟨k, j, none⟩ = some (.string t) := (C1.cell j).trans ht; have M1 : Hid (Moved b w w1) := m1; clear m1 C1 x1 x2 ht)
  go_returns
  exact ⟨⟨t, rfl, hts⟩, M1.out⟩
theorem turns_new {b : Nat} {w : World} {o : Obj} {w' : World} (h : Moved b (w.alloc o) w') : Moved b w w' := ⟨h.1, (Turns.refl b w |>.alloc o).trans h.2⟩
set_option maxRecDepth 20000 in
theorem drawName_any (b : Nat) (w : World) (hc : Cursor w b) :
    Calls Try.prog 120 #[.pointer (some ⟨b, 0, none⟩)] w fun e w' => (∃ t : ByteArray, e = .returned (.string t) ∧ t.size ≤ 40) ∧ Moved b w w' := by
  have hb := hc.lt
  have HC : Hid (Cursor w b) := hc
  clear hc
  go_enter Try.func120, Try.ntmps120
  go_wp2_with (go_at_call 63; refine (pickS_any b w.heap.size 15 _ _ (HC.out.alloc _) (CB.new _ _) (by omega) (by omega) (fun j hj => by rcases (by omega : j = 0 ∨ j = 1 ∨ j = 2 ∨ j = 3 ∨ j = 4 ∨ j = 5 ∨ j = 6 ∨ j = 7 ∨ j = 8 ∨ j = 9 ∨ j = 10 ∨ j = 11 ∨ j = 12 ∨ j = 13 ∨ j = 14) with rfl | rfl | rfl | rfl | rfl | rfl | rfl | rfl | rfl | rfl | rfl | rfl | rfl | rfl | rfl <;> exact ⟨_, rfl, by decide⟩)).mono ?_; rintro e w1 ⟨⟨t, rfl, ht⟩, m1⟩; have M1 : Hid (Moved b w w1) := turns_new m1; clear m1)
  go_returns
  exact ⟨⟨t, rfl, ht⟩, M1.out⟩
set_option maxRecDepth 20000 in
theorem anyName_any (b : Nat) (w : World) (hc : Cursor w b) :
    Calls Try.prog 119 #[.pointer (some ⟨b, 0, none⟩)] w fun e w' => (∃ t : ByteArray, e = .returned (.string t) ∧ t.size ≤ 40) ∧ Moved b w w' := by
  have HC : Hid (Cursor w b) := hc
  clear hc
  go_enter Try.func119, Try.ntmps119
  go_wp2_with (go_at_call 74; refine (once_any b _ _ HC.out).mono ?_; rintro e w1 ⟨x, rfl, m1⟩; have M1 : Hid (Moved b w w1) := m1; have hb := m1.1.lt; clear m1; cases x)
  · go_wp2_with (go_at_call 120; refine (drawName_any b w1 M1.out.1).mono ?_; rintro e w2 ⟨⟨t, rfl, ht⟩, m2⟩; have M2 : Hid (Moved b w w2) := M1.out.trans m2; clear m2)
    go_returns
    exact ⟨⟨t, rfl, ht⟩, M2.out⟩
  · go_wp2_with (go_at_call 63; refine (pickS_any b w1.heap.size 7 _ _ (M1.out.1.alloc _) (CB.new _ _) (by omega) (by omega) (fun j hj => by rcases (by omega : j = 0 ∨ j = 1 ∨ j = 2 ∨ j = 3 ∨ j = 4 ∨ j = 5 ∨ j = 6) with rfl | rfl | rfl | rfl | rfl | rfl | rfl <;> exact ⟨_, rfl, by decide⟩)).mono ?_; rintro e w2 ⟨⟨t, rfl, ht⟩, m2⟩; have M2 : Hid (Moved b w w2) := M1.out.trans (turns_new m2); clear m2)
    go_returns
    exact ⟨⟨t, rfl, ht⟩, M2.out⟩
theorem piece_size (n : Nat) (h : n < 10) : ((⟨#[48, 49, 50, 51, 52, 53, 54, 55, 56, 57]⟩ : ByteArray).extract n (n + 1)).size = 1 := by
  rw [ByteArray.size_extract]
  show min (n + 1) 10 - n = 1
  omega
end Go.Proofs.Ytghphlnpginmhaa
