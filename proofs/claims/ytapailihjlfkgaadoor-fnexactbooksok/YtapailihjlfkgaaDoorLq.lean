/- Contracts of the laws' own functions over lines, entries and rows of them. -/
import Derived.Test.YtapailihjlfkgaaDoorOw
import Derived.Test.YtapailihjlfkgaaDoorProg
import Derived.Deep.RegionHeld3
import Derived.Outline
import Derived.Deep.QuietTactic
import Derived.Deep.RegionWith
import Derived.WalkSmall
namespace Go.Proofs.YtapailihjlfkgaaDoor
open Go.ChangeShapes Go.WideShapes Go.ChangeAt Go.RowKit
set_option linter.unusedVariables false
set_option linter.unusedSimpArgs false

theorem szLineS_in (ad : Option Addr) (n cap : Nat) (L : Int) (w : World) (h : (n : Int) ≤ L) (hL : L ≤ 1048576) :
    Calls Tryd.prog 130 #[.slice ad n cap, .int .i64 L] w fun e w' => e = .returned (.int .i64 (L - (n : Int))) ∧ Below w.heap.size w w' := by
  have h2 : (0 : Int) ≤ L - (n : Int) := by omega
  go_enter Tryd.func130, Tryd.ntmps130
  go_wp2
  go_returns
  exact ⟨rfl, by go_grown⟩
theorem szLineS_out (ad : Option Addr) (n cap : Nat) (L : Int) (w : World) (h : L < (n : Int)) (h0 : 0 ≤ L) (hn : (n : Int) ≤ 9223372036854775807) :
    Calls Tryd.prog 130 #[.slice ad n cap, .int .i64 L] w fun e w' => e = .returned (.int .i64 (-1)) ∧ Below w.heap.size w w' := by
  have h2 : L - (n : Int) < 0 := by omega
  go_enter Tryd.func130, Tryd.ntmps130
  go_wp2
  go_returns
  exact ⟨rfl, by go_grown⟩

theorem szEntry_any (d r : Int) (s : ByteArray) (ad : Option Addr) (n cap : Nat) (L : Int) (w : World) (h0 : 0 ≤ L) (hL : L ≤ 1048576) (hs : (s.size : Int) ≤ 9223372036854775807) (hn : (n : Int) ≤ 9223372036854775807) :
    Calls Tryd.prog 111 #[.agg #[.int .i64 d, .int .i64 r, .string s, .slice ad n cap], .int .i64 L] w fun e w' => ∃ v : Int, e = .returned (.int .i64 v) ∧ (v = -1 ∨ (0 ≤ v ∧ v ≤ L ∧ (n : Int) ≤ 1048576)) ∧ Below w.heap.size w w' := by
  by_cases h1 : (s.size : Int) ≤ L
  · have h2 : (0 : Int) ≤ L - (s.size : Int) := by omega
    by_cases h3 : (n : Int) ≤ L - (s.size : Int)
    · have h4 : (0 : Int) ≤ L - (s.size : Int) - (n : Int) := by omega
      have h5 : L - (s.size : Int) ≤ 1048576 := by omega
      go_enter Tryd.func111, Tryd.ntmps111
      go_wp2_with (go_at_call 130; refine (szLineS_in _ _ _ _ _ h3 h5).mono ?_; rintro e w1 ⟨rfl, b1⟩; replace b1 := b1)
      go_returns
      exact ⟨_, rfl, .inr ⟨h4, by omega, by omega⟩, by simpa using bel_on ((Below.refl _ _).alloc (Nat.le_refl _) _) b1⟩
    · go_enter Tryd.func111, Tryd.ntmps111
      go_wp2_with (go_at_call 130; refine (szLineS_out _ _ _ _ _ (by omega) h2 hn).mono ?_; rintro e w1 ⟨rfl, b1⟩)
      go_returns
      exact ⟨_, rfl, .inl rfl, by simpa using bel_on ((Below.refl _ _).alloc (Nat.le_refl _) _) b1⟩
  · have h2 : L - (s.size : Int) < 0 := by omega
    go_enter Tryd.func111, Tryd.ntmps111
    go_wp2
    go_returns
    exact ⟨_, rfl, .inl rfl, by go_grown⟩

set_option maxHeartbeats 1000000 in
theorem szEntryS_any (ad : Option Addr) (len cap : Nat) (c : Nat → E4) (L0 : Int) (w : World) (h0 : 0 ≤ L0) (hL : L0 ≤ 1048576) (hl : (len : Int) ≤ 9223372036854775807) (hc : ∀ j, ((c j).text.size : Int) ≤ 9223372036854775807 ∧ ((c j).n : Int) ≤ 9223372036854775807) (hr : ER w ad len c) :
    Calls Tryd.prog 84 #[.slice ad len cap, .int .i64 L0] w fun e w' => ∃ v : Int, e = .returned (.int .i64 v) ∧ (v = -1 ∨ (0 ≤ v ∧ v ≤ L0 ∧ (len : Int) ≤ 1048576 ∧ ∀ j, j < len → ((c j).n : Int) ≤ 1048576)) ∧ Below w.heap.size w w' := by
  have HR : Hid (ER w ad len c) := hr
  have HC : Hid (∀ j, ((c j).text.size : Int) ≤ 9223372036854775807 ∧ ((c j).n : Int) ≤ 9223372036854775807) := hc
  clear hr hc
  by_cases h : (len : Int) ≤ L0
  · have h2 : (0 : Int) ≤ L0 - (len : Int) := by omega
    go_enter Tryd.func84, Tryd.ntmps84
    go_wp2
    go_loopw [1, 5] (fun l i wr => ∃ (k : Nat) (L : Int), k ≤ len ∧ i = .int .i64 (k : Int) ∧ l = .int .i64 L ∧ 0 ≤ L ∧ L ≤ L0 ∧ Hid (∀ j, j < k → ((c j).n : Int) ≤ 1048576) ∧ Below w.heap.size w wr) (fun _ i _ => len - (intOf i).toNat)
    case atStart => exact ⟨0, _, Nat.zero_le _, rfl, rfl, by omega, by omega, fun j hj => by omega, Below.refl _ _⟩
    case round =>
      obtain ⟨k, L, hk, rfl, rfl, hL0, hL1, HN, hB⟩ := hrel
      have HB : Hid (Below w.heap.size w wr) := hB
      by_cases hlt : k < len
      · obtain ⟨kb, off, rfl, _⟩ := HR.out.addr (by omega)
        obtain ⟨c1, c2, c3, la, lc, c4, _⟩ := (HR.out.below hB).cell hlt
        have hs := (HC.out k).1
        have hn := (HC.out k).2
        clear hB
        have hkn : Hid (∃ x, x = (c k).n) := ⟨_, rfl⟩
        generalize hcn : (c k).n = nn at c4 hn
        have HCN : Hid ((c k).n = nn) := hcn
        clear hcn
        generalize (c k).day = dd at c1
        generalize (c k).ref = rr at c2
        generalize (c k).text = ss at c3 hs
        have hL2 : L ≤ 1048576 := by omega
        go_wp2_with (go_at_call 111; refine (szEntry_any _ _ _ _ _ _ _ _ hL0 hL2 hs hn).mono ?_; rintro e w1 ⟨v, rfl, hv, b1⟩; rcases hv with rfl | ⟨hv0, hv1, hv2⟩)
        · go_returns
          exact ⟨-1, rfl, .inl rfl, bel_on HB.out b1⟩
        · go_roundw
          case rel => exact ⟨k + 1, v, by omega, by go_num, rfl, by omega, by omega, fun j hj => by
            by_cases hjk : j = k
            · rw [hjk, HCN.out]; exact hv2
            · exact HN.out j (by omega), bel_on HB.out b1⟩
          case measure => simp [intOf]; omega
      · obtain rfl : k = len := by omega
        clear hB
        go_wp2
        go_returns
        exact ⟨L, rfl, .inr ⟨hL0, by omega, by omega, HN.out⟩, HB.out⟩
  · have h3 : L0 - (len : Int) < 0 := by omega
    go_enter Tryd.func84, Tryd.ntmps84
    go_wp2
    go_returns
    exact ⟨-1, rfl, .inl rfl, Below.refl _ _⟩

theorem toLine_any (l : L5) (w : World) : Calls Tryd.prog 136 #[l.agg] w fun e w' => e = .returned l.agg ∧ Below w.heap.size w w' := by
  obtain ⟨a, b, c, d, f⟩ := l
  unfold L5.agg
  go_enter Tryd.func136, Tryd.ntmps136
  go_wp2
  go_returns
  exact ⟨rfl, by go_grown⟩

theorem eqLine_same (l : L5) (w : World) : Calls Tryd.prog 137 #[l.agg, l.agg] w fun e w' => e = .returned (.bool true) ∧ Below w.heap.size w w' := by
  obtain ⟨a, b, c, d, f⟩ := l
  unfold L5.agg
  go_enter Tryd.func137, Tryd.ntmps137
  go_wp2
  go_returns
  exact ⟨rfl, by go_grown⟩

end Go.Proofs.YtapailihjlfkgaaDoor
