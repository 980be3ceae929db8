/- rotate. -/
import Derived.Test.YtogolmbgboihdaaZh
namespace Go.Proofs.Ytogolmbgboihdaa.Srt
open Go Go.ChangeShapes Go.WideShapes Go.ChangeAt Go.RowKit
set_option linter.unusedVariables false
set_option linter.unusedSimpArgs false
variable {aj : Option Addr} {jk : Nat} {rule : Int} {jc : Nat → JB}

theorem swapRangeP_at (B N cap a b n : Nat) (t : TypeId) (f : Nat → Int) (fv : Value) (w : World) (x y z : Int) (hx : x = (a : Int)) (hy : y = (b : Int)) (hz : z = (n : Int)) (hN : (N : Int) ≤ 1048576) (ha : a + n ≤ b) (hb : b + n ≤ N) (H : RP aj rule jc w B N t f) :
    Calls Try.prog 119 #[.slice (some ⟨B, 0, none⟩) N cap, .int .i64 x, .int .i64 y, .int .i64 z, fv] w fun e w' => e = .returned (.tuple #[]) ∧ RP aj rule jc w' B N t (swP f a b n) ∧ But B w w' := by
  subst hx hy hz; exact swapRangeP_any B N cap a b n t f fv w hN ha hb H

set_option maxHeartbeats 2000000 in
theorem rotateP_any (B N cap a m b : Nat) (t : TypeId) (f : Nat → Int) (fv : Value) (w : World) (hN : (N : Int) ≤ 1048576) (ha : a < m) (hm : m < b) (hb : b ≤ N) (H : RP aj rule jc w B N t f) :
    Calls Try.prog 118 #[.slice (some ⟨B, 0, none⟩) N cap, .int .i64 a, .int .i64 m, .int .i64 b, fv] w fun e w' => e = .returned (.tuple #[]) ∧ RP aj rule jc w' B N t (rot a m b f) ∧ But B w w' := by
  have HR : Hid (RP aj rule jc w B N t f) := H
  clear H
  have ia : (a : Int) ≤ 1048576 := by omega
  have im : (m : Int) ≤ 1048576 := by omega
  have ib : (b : Int) ≤ 1048576 := by omega
  go_enter Try.func118, Try.ntmps118
  go_wp2
  go_loopw [10, 11] (fun u v wr => ∃ i j : Nat, 0 < i ∧ i ≤ m - a ∧ 0 < j ∧ j ≤ b - m ∧ u = .int .i64 (i : Int) ∧ v = .int .i64 (j : Int) ∧ Hid (∃ h, RP aj rule jc wr B N t h ∧ (∀ x, rot (m - i) m (m + j) h x = rot a m b f x) ∧ But B w wr)) (fun u v _ => (intOf u).toNat + (intOf v).toNat)
  case atStart => exact ⟨m - a, b - m, by omega, Nat.le_refl _, by omega, Nat.le_refl _, by congr 1; omega, by congr 1; omega, f, HR.out, fun x => by rw [show m - (m - a) = a by omega, show m + (b - m) = b by omega], But.refl _ _⟩
  case round =>
    obtain ⟨i, j, hi0, hi, hj0, hj, rfl, rfl, hP⟩ := hrel
    obtain ⟨h, q1, q2, q3⟩ := hP.out
    have H1 : Hid (RP aj rule jc wr B N t h) := q1
    have H2 : Hid (∀ x, rot (m - i) m (m + j) h x = rot a m b f x) := q2
    have H3 : Hid (But B w wr) := q3
    clear q1 q2 q3 hP
    have ii : (i : Int) ≤ (m : Int) - (a : Int) := by omega
    have ij : (j : Int) ≤ (b : Int) - (m : Int) := by omega
    rcases Nat.lt_trichotomy i j with g | g | g
    · have g1 : (i : Int) < (j : Int) := by omega
      go_wp2_with (go_at_call 119; refine (swapRangeP_at B N cap (m - i) (m + j - i) i t h _ _ _ _ _ (by omega) (by omega) rfl hN (by omega) (by omega) H1.out).mono ?_; rintro e w2 ⟨rfl, r1, r2⟩)
      go_roundw
      case rel => exact ⟨i, j - i, hi0, hi, by omega, by omega, rfl, by congr 1; omega, _, r1, fun x => by rw [← rot_right (by omega) hi0 g]; exact H2.out x, H3.out.trans r2⟩
      case measure => simp [intOf]; omega
    · subst g
      go_wp2_with (go_at_call 119; refine (swapRangeP_at B N cap (m - i) m i t h _ _ _ _ _ (by omega) rfl rfl hN (by omega) (by omega) H1.out).mono ?_; rintro e w2 ⟨rfl, r1, r2⟩)
      go_returns
      exact ⟨rfl, r1.congr (fun x _ => by rw [← rot_same (by omega) hi0]; exact (H2.out x).symm), H3.out.trans r2⟩
    · have g1 : (j : Int) < (i : Int) := by omega
      go_wp2_with (go_at_call 119; refine (swapRangeP_at B N cap (m - i) m j t h _ _ _ _ _ (by omega) rfl rfl hN (by omega) (by omega) H1.out).mono ?_; rintro e w2 ⟨rfl, r1, r2⟩)
      go_roundw
      case rel => exact ⟨i - j, j, by omega, by omega, hj0, hj, by congr 1; omega, rfl, _, r1, fun x => by rw [← rot_left (by omega) hj0 g]; exact H2.out x, H3.out.trans r2⟩
      case measure => simp [intOf]; omega
end Go.Proofs.Ytogolmbgboihdaa.Srt
