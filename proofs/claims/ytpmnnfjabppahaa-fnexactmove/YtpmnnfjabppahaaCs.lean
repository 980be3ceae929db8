/- Sizes of Cell, alone and in a row. -/
import Derived.Test.YtpmnnfjabppahaaCe
namespace Go.Proofs.Ytpmnnfjabppahaa
open Go.ChangeShapes Go.WideShapes Go.ChangeAt Go.RowKit
set_option linter.unusedVariables false
set_option linter.unusedSimpArgs false

theorem szCE6_any (x0 : ByteArray) (x1 : ByteArray) (x2 : ByteArray) (x3 : Int) (x4 : Int) (x5 : Int) (L : Int) (w : World) (g0 : 0 ≤ L) (g1 : L ≤ 1048576) (s0 : (x0.size : Int) ≤ 9223372036854775807) (s1 : (x1.size : Int) ≤ 9223372036854775807) (s2 : (x2.size : Int) ≤ 9223372036854775807) :
    Calls Try.prog 40 #[.agg #[.string x0, .string x1, .string x2, .int .i64 x3, .int .i64 x4, .int .i64 x5], .int .i64 L] w fun e w' => ∃ v : Int, e = .returned (.int .i64 v) ∧ (v = -1 ∨ (0 ≤ v ∧ v ≤ 1048576 ∧ (x0.size : Int) ≤ 1048576 ∧ (x1.size : Int) ≤ 1048576 ∧ (x2.size : Int) ≤ 1048576)) ∧ Below w.heap.size w w' := by
  by_cases h0 : (x0.size : Int) ≤ L
  rotate_left
  · have k0 : L - (x0.size : Int) < 0 := by omega
    go_enter Try.func40, Try.ntmps40
    go_wp2
    go_returns
    exact ⟨-1, rfl, .inl rfl, by go_grown⟩
  have k0 : 0 ≤ L - (x0.size : Int) := by omega
  by_cases h1 : (x1.size : Int) ≤ L - (x0.size : Int)
  rotate_left
  · have k1 : L - (x0.size : Int) - (x1.size : Int) < 0 := by omega
    go_enter Try.func40, Try.ntmps40
    go_wp2
    go_returns
    exact ⟨-1, rfl, .inl rfl, by go_grown⟩
  have k1 : 0 ≤ L - (x0.size : Int) - (x1.size : Int) := by omega
  by_cases h2 : (x2.size : Int) ≤ L - (x0.size : Int) - (x1.size : Int)
  rotate_left
  · have k2 : L - (x0.size : Int) - (x1.size : Int) - (x2.size : Int) < 0 := by omega
    go_enter Try.func40, Try.ntmps40
    go_wp2
    go_returns
    exact ⟨-1, rfl, .inl rfl, by go_grown⟩
  have k2 : 0 ≤ L - (x0.size : Int) - (x1.size : Int) - (x2.size : Int) := by omega
  go_enter Try.func40, Try.ntmps40
  go_wp2
  go_returns
  exact ⟨_, rfl, .inr ⟨by omega, by omega, by omega, by omega, by omega⟩, by go_grown⟩

set_option maxRecDepth 20000 in
set_option maxHeartbeats 2000000 in
theorem szCE6S_any (ad : Option Addr) (len cap : Nat) (c : Nat → CE6) (L0 : Int) (w : World) (g0 : 0 ≤ L0) (g1 : L0 ≤ 1048576) (hl : (len : Int) ≤ 9223372036854775807) (hc : ∀ j, ((c j).item.size : Int) ≤ 9223372036854775807 ∧ ((c j).place.size : Int) ≤ 9223372036854775807 ∧ ((c j).lot.size : Int) ≤ 9223372036854775807) (hr : CEr w ad len c) :
    Calls Try.prog 34 #[.slice ad len cap, .int .i64 L0] w fun e w' => ∃ v : Int, e = .returned (.int .i64 v) ∧ (v = -1 ∨ (0 ≤ v ∧ v ≤ 1048576 ∧ (len : Int) ≤ 1048576 ∧ ∀ j, j < len → ((c j).item.size : Int) ≤ 1048576 ∧ ((c j).place.size : Int) ≤ 1048576 ∧ ((c j).lot.size : Int) ≤ 1048576)) ∧ Below w.heap.size w w' := by
  have HR : Hid (CEr w ad len c) := hr
  have HC : Hid (∀ j, ((c j).item.size : Int) ≤ 9223372036854775807 ∧ ((c j).place.size : Int) ≤ 9223372036854775807 ∧ ((c j).lot.size : Int) ≤ 9223372036854775807) := hc
  clear hr hc
  by_cases h : (len : Int) ≤ L0
  · have h2 : (0 : Int) ≤ L0 - (len : Int) := by omega
    go_enter Try.func34, Try.ntmps34
    go_wp2
    go_loopw [1, 5] (fun l i wr => ∃ (k : Nat) (L : Int), k ≤ len ∧ i = .int .i64 (k : Int) ∧ l = .int .i64 L ∧ 0 ≤ L ∧ L ≤ 1048576 ∧ Hid ((∀ j, j < k → ((c j).item.size : Int) ≤ 1048576 ∧ ((c j).place.size : Int) ≤ 1048576 ∧ ((c j).lot.size : Int) ≤ 1048576) ∧ Below w.heap.size w wr)) (fun _ i _ => len - (intOf i).toNat)
    case atStart => exact ⟨0, _, Nat.zero_le _, rfl, rfl, by omega, by omega, fun j hj => by omega, Below.refl _ _⟩
    case round =>
      obtain ⟨k, L, hk, rfl, rfl, hL0, hL1, HH⟩ := hrel
      by_cases hlt : k < len
      · have hlt2 : (k : Int) < (len : Int) := by omega
        obtain ⟨kb, off, rfl, _⟩ := HR.out.addr (by omega)
        have A1 := (HR.out.below HH.out.2).cell hlt
        have hs := HC.out k
        obtain ⟨x, hx⟩ : ∃ x, c k = x := ⟨_, rfl⟩
        have HX : Hid (c k = x) := hx
        rw [hx] at hs A1
        clear hx
        obtain ⟨x0, x1, x2, x3, x4, x5⟩ := x
        obtain ⟨c0, c1, c2, c3, c4, c5⟩ := A1
        simp only at c0 c1 c2 c3 c4 c5 hs
        obtain ⟨s0, s1, s2⟩ := hs
        have HS0 : Hid ((x0.size : Int) ≤ 9223372036854775807) := s0
        have HS1 : Hid ((x1.size : Int) ≤ 9223372036854775807) := s1
        have HS2 : Hid ((x2.size : Int) ≤ 9223372036854775807) := s2
        clear s0 s1 s2
        go_wp2_with (go_at_call 40; refine (szCE6_any _ _ _ _ _ _ _ _ hL0 hL1 HS0.out HS1.out HS2.out).mono ?_; rintro e w1 ⟨v, rfl, hv, b1⟩; have HB1 : Hid (Below w.heap.size w w1) := bel_on HH.out.2 b1; clear b1; have HV : Hid (v = -1 ∨ (0 ≤ v ∧ v ≤ 1048576 ∧ (x0.size : Int) ≤ 1048576 ∧ (x1.size : Int) ≤ 1048576 ∧ (x2.size : Int) ≤ 1048576)) := hv; clear hv; by_cases hv0 : v < 0)
        · go_returns
          exact ⟨-1, rfl, .inl rfl, HB1.out⟩
        · have hv1 : 0 ≤ v ∧ v ≤ 1048576 ∧ (x0.size : Int) ≤ 1048576 ∧ (x1.size : Int) ≤ 1048576 ∧ (x2.size : Int) ≤ 1048576 := by rcases HV.out with h | h; (· omega); exact h
          have HN : Hid (∀ j, j < k + 1 → ((c j).item.size : Int) ≤ 1048576 ∧ ((c j).place.size : Int) ≤ 1048576 ∧ ((c j).lot.size : Int) ≤ 1048576) := fun j hj => by
            by_cases e : j = k
            · subst e; rw [HX.out]; exact hv1.2.2
            · exact HH.out.1 j (by omega)
          have q1 := hv1.1
          have q2 := hv1.2.1
          clear hv1
          go_roundw
          case rel => exact ⟨k + 1, v, by omega, by go_num, rfl, q1, q2, HN.out, HB1.out⟩
          case measure => simp [intOf]; omega
      · obtain rfl : k = len := by omega
        have lkk : ¬ (k : Int) < (k : Int) := by omega
        go_wp2
        go_returns
        exact ⟨L, rfl, .inr ⟨hL0, hL1, by omega, HH.out.1⟩, HH.out.2⟩
  · have h3 : L0 - (len : Int) < 0 := by omega
    go_enter Try.func34, Try.ntmps34
    go_wp2
    go_returns
    exact ⟨-1, rfl, .inl rfl, Below.refl _ _⟩
end Go.Proofs.Ytpmnnfjabppahaa
