/- The laws' own marks: what is written into a row of periods, and that it is held. -/
import Derived.Test.YtadjdpoplaknkaaDoorPq
namespace Go.Proofs.YtadjdpoplaknkaaDoor
open Go.ChangeShapes Go.WideShapes Go.ChangeAt Go.RowKit
set_option linter.unusedVariables false
set_option linter.unusedSimpArgs false

/-- A row that bears its marks. -/
def Marked (w : World) (b n : Nat) : Prop := ∃ cs, CB w b cs 38 ∧ n * 2 ≤ cs.size ∧ ∀ j, j < n → cs[j * 2]? = some (.int .i64 (1 + 2 * (j : Int))) ∧ cs[j * 2 + 1]? = some (.int .i64 (2 + 2 * (j : Int)))

set_option maxHeartbeats 1000000 in
theorem mark_any (b n cap : Nat) (cs : Array Value) (w : World) (hC : CB w b cs 38) (hs : n * 2 ≤ cs.size) (hn : (n : Int) ≤ 60) :
    Calls Tryd.prog 30 #[.slice (some ⟨b, 0, none⟩) n cap, .int .i64 1] w fun e w' => e = .returned (.int .i64 (1 + 2 * (n : Int))) ∧ Marked w' b n ∧ Below b w w' := by
  go_enter Tryd.func30, Tryd.ntmps30
  go_wp2
  go_loopw [1, 5] (fun m i wr => ∃ (k : Nat) (ds : Array Value), k ≤ n ∧ m = .int .i64 (1 + 2 * (k : Int)) ∧ i = .int .i64 (k : Int) ∧ CB wr b ds 38 ∧ ds.size = cs.size ∧ (∀ j, j < k → ds[j * 2]? = some (.int .i64 (1 + 2 * (j : Int))) ∧ ds[j * 2 + 1]? = some (.int .i64 (2 + 2 * (j : Int)))) ∧ Below b w wr) (fun _ i _ => n - (intOf i).toNat)
  case atStart => exact ⟨0, cs, Nat.zero_le _, by simp, rfl, hC, rfl, fun j hj => by omega, Below.refl _ _⟩
  case round =>
    obtain ⟨k, ds, hk, rfl, rfl, hD, hsz, hcs, hB⟩ := hrel
    have HC : Hid (CB wr b ds 38) := hD
    have HS : Hid (ds.size = cs.size) := hsz
    have HCS : Hid (∀ j, j < k → ds[j * 2]? = some (.int .i64 (1 + 2 * (j : Int))) ∧ ds[j * 2 + 1]? = some (.int .i64 (2 + 2 * (j : Int)))) := hcs
    have HB : Hid (Below b w wr) := hB
    clear hD hcs hB
    by_cases hlt : k < n
    · obtain ⟨v1, d1⟩ : ∃ v, ds[k * 2]? = some v := ⟨ds[k * 2]'(by omega), Array.getElem?_eq_getElem (by omega)⟩
      obtain ⟨v2, d2⟩ : ∃ v, ds[k * 2 + 1]? = some v := ⟨ds[k * 2 + 1]'(by omega), Array.getElem?_eq_getElem (by omega)⟩
      have x1 := (HC.out.cell (k * 2)).trans d1
      have x2 := (HC.out.cell (k * 2 + 1)).trans d2
      have g1 := HC.out.fr (k * 2)
      have g2 := HC.out.fr (k * 2 + 1)
      clear hsz
      go_wp2
      go_roundw
      case rel =>
        refine ⟨k + 1, (ds.setIfInBounds (k * 2) (.int .i64 (1 + 2 * (k : Int)))).setIfInBounds (k * 2 + 1) (.int .i64 (1 + 2 * (k : Int) + 1)), by omega, by go_num, by go_num, (HC.out.set _ _).set _ _, by simp [HS.out], fun j hj => ?_, (HB.out.setCell (by simp) _).setCell (by simp) _⟩
        have hs2 := HS.out
        by_cases hjk : j = k
        · subst hjk
          constructor
          · rw [Array.getElem?_setIfInBounds, if_neg (by omega), Array.getElem?_setIfInBounds, if_pos rfl, if_pos (by omega)]
          · rw [Array.getElem?_setIfInBounds, if_pos rfl, if_pos (by simp; omega)]; congr 2; omega
        · have hj2 := HCS.out j (by omega)
          constructor
          · rw [Array.getElem?_setIfInBounds, if_neg (by omega), Array.getElem?_setIfInBounds, if_neg (by omega)]; exact hj2.1
          · rw [Array.getElem?_setIfInBounds, if_neg (by omega), Array.getElem?_setIfInBounds, if_neg (by omega)]; exact hj2.2
      case measure => simp [intOf]; omega
    · obtain rfl : k = n := by omega
      clear hsz
      go_wp2
      go_returns
      exact ⟨rfl, ⟨ds, HC.out, by have := HS.out; omega, HCS.out⟩, HB.out⟩

set_option maxHeartbeats 1000000 in
theorem held_any (b n cap : Nat) (w : World) (hM : Marked w b n) (hn : (n : Int) ≤ 60) :
    Calls Tryd.prog 31 #[.slice (some ⟨b, 0, none⟩) n cap, .int .i64 1] w fun e w' => e = .returned (.int .i64 (1 + 2 * (n : Int))) ∧ w' = w := by
  obtain ⟨cs, hC, hs, hcs⟩ := hM
  have HC : Hid (CB w b cs 38) := hC
  have HCS : Hid (∀ j, j < n → cs[j * 2]? = some (.int .i64 (1 + 2 * (j : Int))) ∧ cs[j * 2 + 1]? = some (.int .i64 (2 + 2 * (j : Int)))) := hcs
  clear hC hcs hs
  go_enter Tryd.func31, Tryd.ntmps31
  go_wp2
  go_loop [1, 5] (fun m i => ∃ (k : Nat), k ≤ n ∧ m = .int .i64 (1 + 2 * (k : Int)) ∧ i = .int .i64 (k : Int)) (fun _ i => n - (intOf i).toNat)
  case atStart => exact ⟨0, Nat.zero_le _, by simp, rfl⟩
  case round =>
    obtain ⟨k, hk, rfl, rfl⟩ := hrel
    by_cases hlt : k < n
    · obtain ⟨d1, d2⟩ := HCS.out k hlt
      have x1 := (HC.out.cell (k * 2)).trans d1
      have x2 := (HC.out.cell (k * 2 + 1)).trans d2
      rw [show (2 + 2 * (k : Int)) = 1 + 2 * (k : Int) + 1 by omega] at x2
      clear d1 d2
      go_wp2
      go_round
      case rel => exact ⟨k + 1, by omega, by go_num, by go_num⟩
      case measure => simp [intOf]; omega
    · obtain rfl : k = n := by omega
      go_wp2
      go_returns
      exact ⟨rfl, rfl⟩

theorem mark_zero (ad : Option Addr) (cap : Nat) (w : World) :
    Calls Tryd.prog 30 #[.slice ad 0 cap, .int .i64 1] w fun e w' => e = .returned (.int .i64 1) ∧ w' = w := by
  go_enter Tryd.func30, Tryd.ntmps30
  go_wp2
  refine wp_loop_rounds 1 ?_
  rw [rounds_succ]
  go_wp2
  go_returns
  exact ⟨rfl, rfl⟩
theorem held_zero (ad : Option Addr) (cap : Nat) (w : World) :
    Calls Tryd.prog 31 #[.slice ad 0 cap, .int .i64 1] w fun e w' => e = .returned (.int .i64 1) ∧ w' = w := by
  go_enter Tryd.func31, Tryd.ntmps31
  go_wp2
  refine wp_loop_rounds 1 ?_
  rw [rounds_succ]
  go_wp2
  go_returns
  exact ⟨rfl, rfl⟩

end Go.Proofs.YtadjdpoplaknkaaDoor
