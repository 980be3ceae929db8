/- swapRange. -/
import Derived.Test.YtjlniinahfgakaaKe
import Derived.BigRegion
namespace Go.Proofs.Ytjlniinahfgakaa
open Go.ChangeShapes Go.WideShapes Go.ChangeAt Go.RowKit
set_option linter.unusedVariables false
set_option linter.unusedSimpArgs false

/-- The first i of the two runs at a and at b have changed places. -/
def sw (f : Nat → Int × Int) (a b i : Nat) (k : Nat) : Int × Int := if a ≤ k ∧ k < a + i then f (b + (k - a)) else if b ≤ k ∧ k < b + i then f (a + (k - b)) else f k

set_option maxHeartbeats 2000000 in
theorem swapRange_any (B N cap a b n : Nat) (t : TypeId) (f : Nat → Int × Int) (fv : Value) (w : World) (hN : (N : Int) ≤ 1048576) (ha : a + n ≤ b) (hb : b + n ≤ N) (H : RB w B N t f) :
    Calls Try.prog 95 #[.slice (some ⟨B, 0, none⟩) N cap, .int .i64 a, .int .i64 b, .int .i64 n, fv] w fun e w' => e = .returned (.tuple #[]) ∧ RB w' B N t (sw f a b n) ∧ Below B w w' := by
  have HR : Hid (RB w B N t f) := H
  clear H
  have ia : (a : Int) ≤ 1048576 := by omega
  have ib : (b : Int) ≤ 1048576 := by omega
  have inn : (n : Int) ≤ 1048576 := by omega
  go_enter Try.func95, Try.ntmps95
  go_wp2
  go_loopw [10] (fun i wr => ∃ k : Nat, k ≤ n ∧ i = .int .i64 (k : Int) ∧ Hid (RB wr B N t (sw f a b k) ∧ Below B w wr)) (fun i _ => n - (intOf i).toNat)
  case atStart => exact ⟨0, Nat.zero_le _, rfl, HR.out.congr (fun j _ => by unfold sw; rw [if_neg (by omega), if_neg (by omega)]), Below.refl _ _⟩
  case round =>
    obtain ⟨k, hk, rfl, hP⟩ := hrel
    by_cases hlt : k < n
    · obtain ⟨x1, y1⟩ := hP.out.1.cell (j := a + k) (by omega)
      obtain ⟨x2, y2⟩ := hP.out.1.cell (j := b + k) (by omega)
      have e1 : sw f a b k (a + k) = f (a + k) := by unfold sw; rw [if_neg (by omega), if_neg (by omega)]
      have e2 : sw f a b k (b + k) = f (b + k) := by unfold sw; rw [if_neg (by omega), if_neg (by omega)]
      rw [e1] at x1 y1
      rw [e2] at x2 y2
      have r1 := hP.out.1.fr ((a + k) * 2)
      have r2 := hP.out.1.fr ((a + k) * 2 + 1)
      have r3 := hP.out.1.fr ((b + k) * 2)
      have r4 := hP.out.1.fr ((b + k) * 2 + 1)
      have l1 : (k : Int) < (n : Int) := by omega
      have l2 : (a : Int) + (k : Int) < (N : Int) := by omega
      have l3 : (b : Int) + (k : Int) < (N : Int) := by omega
      have HN : Hid (RB ((((wr.setCell ⟨B, (a + k) * 2, none⟩ (.int .i64 (f (b + k)).1)).setCell ⟨B, (a + k) * 2 + 1, none⟩ (.int .i64 (f (b + k)).2)).setCell ⟨B, (b + k) * 2, none⟩ (.int .i64 (f (a + k)).1)).setCell ⟨B, (b + k) * 2 + 1, none⟩ (.int .i64 (f (a + k)).2)).drew B N t (sw f a b (k + 1)) ∧ Below B w ((((wr.setCell ⟨B, (a + k) * 2, none⟩ (.int .i64 (f (b + k)).1)).setCell ⟨B, (a + k) * 2 + 1, none⟩ (.int .i64 (f (b + k)).2)).setCell ⟨B, (b + k) * 2, none⟩ (.int .i64 (f (a + k)).1)).setCell ⟨B, (b + k) * 2 + 1, none⟩ (.int .i64 (f (a + k)).2)).drew) := by
        refine ⟨RB.congr (((hP.out.1.set (i := a + k) (by omega) (f (b + k)).1 (f (b + k)).2).set (i := b + k) (by omega) (f (a + k)).1 (f (a + k)).2)) (fun j hj => ?_), ((((hP.out.2.setCell (Nat.le_refl _) _).setCell (Nat.le_refl _) _).setCell (Nat.le_refl _) _).setCell (Nat.le_refl _) _).drew⟩
        unfold sw
        by_cases q1 : j = b + k
        · subst q1; rw [if_neg (by omega), if_pos (by omega), if_pos rfl, show a + (b + k - b) = a + k by omega]
        · by_cases q2 : j = a + k
          · subst q2; rw [if_pos (by omega), if_neg q1, if_pos rfl, show b + (a + k - a) = b + k by omega]
          · rw [if_neg q1, if_neg q2]
            by_cases q3 : a ≤ j ∧ j < a + k
            · rw [if_pos q3, if_pos (by omega)]
            · rw [if_neg q3, if_neg (by omega)]
              by_cases q4 : b ≤ j ∧ j < b + k
              · rw [if_pos q4, if_pos (by omega)]
              · rw [if_neg q4, if_neg (by omega)]
      clear e1 e2
      go_wp2
      go_region
      go_wp2
      go_roundw
      case rel => exact ⟨k + 1, by omega, by go_num, HN⟩
      case measure => simp [intOf]; omega
    · obtain rfl : k = n := by omega
      go_wp2
      go_returns
      exact ⟨rfl, hP.out⟩
end Go.Proofs.Ytjlniinahfgakaa
