/- CountWork and AddWork of the model. -/
import Derived.Test.YtadjdpoplaknkaaWo
namespace Go.Proofs.Ytadjdpoplaknkaa
open Go.ChangeShapes Go.WideShapes Go.ChangeAt Go.RowKit
set_option linter.unusedVariables false
set_option linter.unusedSimpArgs false

/-- How many of f days from d on are worked. -/
noncomputable def cnt (wd : Int → Bool) : Nat → Int → Int
  | 0, _ => 0
  | f + 1, d => (if wd d = true then 1 else 0) + cnt wd f (d + 1)

theorem cnt_bd (wd : Int → Bool) : ∀ f d, 0 ≤ cnt wd f d ∧ cnt wd f d ≤ f
  | 0, d => by simp [cnt]
  | f + 1, d => by
    have := cnt_bd wd f (d + 1)
    simp only [cnt]; split <;> omega

theorem cnt_last (wd : Int → Bool) : ∀ f d, cnt wd (f + 1) d = cnt wd f d + (if wd (d + f) = true then 1 else 0)
  | 0, d => by simp [cnt]
  | f + 1, d => by
    have h := cnt_last wd f (d + 1)
    rw [cnt, h, cnt]
    rw [show d + 1 + (f : Int) = d + ((f + 1 : Nat) : Int) by push_cast; omega]
    omega

/-- The n-th worked day from d on, by steps of s; -1 where there is none. -/
noncomputable def nth (wd : Int → Bool) (s : Int) : Nat → Int → Int → Int
  | 0, _, _ => -1
  | f + 1, d, n => if 0 ≤ d ∧ d ≤ 40000 then (if wd d = true then (if n = 1 then d else nth wd s f (d + s) (n - 1)) else nth wd s f (d + s) n) else -1

noncomputable def cntV (off : Int) (len : Nat) (z : Nat → Int) (a b : Int) : Int :=
  if calB off len z = true ∧ (0 ≤ a ∧ a ≤ 40000) ∧ (0 ≤ b ∧ b ≤ 40000) then
    (if b < a then - cnt (workB off len z) (a - b).toNat (b + 1) else cnt (workB off len z) (b - a).toNat (a + 1)) else 0

set_option maxHeartbeats 2000000 in
theorem specCount_up (off : Int) (ad : Option Addr) (len cap : Nat) (z : Nat → Int) (a b : Int) (w : World) (h : (len : Int) ≤ 1048576) (hr : IR w ad len z) (hc : calB off len z = true) (a0 : 0 ≤ a) (a1 : a ≤ 40000) (b0 : 0 ≤ b) (b1 : b ≤ 40000) (hab : a ≤ b) :
    Calls Try.prog 24 #[.agg #[.int .i64 off, .slice ad len cap], .int .i64 a, .int .i64 b] w fun e w' => e = .returned (.int .i64 (cnt (workB off len z) (b - a).toNat (a + 1))) ∧ Below w.heap.size w w' := by
  have HR : Hid (IR w ad len z) := hr
  obtain ⟨o1, o2, l4, _⟩ := cal_parts hc
  have da := dayB_t ⟨a0, a1⟩
  have db := dayB_t ⟨b0, b1⟩
  clear hr
  go_enter Try.func24, Try.ntmps24
  go_wp2_with (first
    | (go_at_call 19; refine (specCal_eq _ _ _ _ _ z _ h (HR.out.alloc _) hc).mono ?_; rintro e w1 ⟨rfl, b1⟩; have X1 : CB w1 w.heap.size #[.int .i64 off, .slice ad len cap] 26 := (CB.new _ _).below b1 (by simp); replace b1 := bel_on ((Below.refl _ _).alloc (Nat.le_refl _) _) b1)
    | (go_at_call 40; refine (l2Day_eq _ _ _ (by assumption)).mono ?_; rintro e w' ⟨rfl, ew⟩; replace ew := ew.symm; subst ew))
  have HX1 : Hid (CB w1 w.heap.size #[.int .i64 off, .slice ad len cap] 26) := X1
  have HB1 : Hid (Below w.heap.size w w1) := b1
  clear X1 b1
  go_loopw [7, 8] (fun c d wr => ∃ (k : Nat) (C D : Int), c = .int .i64 C ∧ d = .int .i64 D ∧ Hid (D = a + 1 + k) ∧ a < D ∧ D ≤ b + 1 ∧ Hid (C = cnt (workB off len z) k (a + 1)) ∧ 0 ≤ C ∧ C ≤ 40001 ∧ CB wr w.heap.size #[.int .i64 off, .slice ad len cap] 26 ∧ Below w.heap.size w wr) (fun _ d _ => (b + 1 - intOf d).toNat)
  case atStart => exact ⟨0, 0, a + 1, rfl, rfl, by unfold Hid; simp, by omega, by omega, rfl, by omega, by omega, HX1.out, HB1.out⟩
  case round =>
    obtain ⟨k, C, D, rfl, rfl, hD, D0, D1, hC, C0, C1, hX, hB⟩ := hrel
    have HX : Hid (CB wr w.heap.size #[.int .i64 off, .slice ad len cap] 26) := hX
    have HB : Hid (Below w.heap.size w wr) := hB
    have x0 := hX.cell 0
    have x1 := hX.cell 1
    simp at x0 x1
    clear hX hB
    by_cases hlt : D ≤ b
    · have hk : (k : Int) ≤ 40000 := by have := hD.out; omega
      have hCb : Hid (C ≤ k) := by have := (cnt_bd (workB off len z) k (a + 1)).2; rw [← hC.out] at this; exact this
      have hlast := cnt_last (workB off len z) k (a + 1)
      rw [← hC.out, ← hD.out] at hlast
      have HL : Hid (cnt (workB off len z) (k + 1) (a + 1) = C + (if workB off len z D = true then 1 else 0)) := hlast
      have HD2 : Hid (D + 1 = a + 1 + ((k + 1 : Nat) : Int)) := by have := hD.out; unfold Hid; push_cast; omega
      have hC4 : C ≤ 40000 := by have := hCb.out; omega
      clear hlast
      rcases hw : workB off len z D
      · have HL2 : Hid (C = cnt (workB off len z) (k + 1) (a + 1)) := by unfold Hid; rw [HL.out, hw]; simp
        go_wp2_with (go_at_call 42; refine (l2Work_any _ _ _ _ z _ _ o1 o2 h (HR.out.below HB.out) (by omega) (by omega)).mono ?_; rintro e w2 ⟨rfl, b2⟩; rw [hw]; have X2 := HX.out.below b2 HX.out.lt; replace b2 := bel_on HB.out b2)
        go_roundw
        case rel => exact ⟨k + 1, C, D + 1, rfl, by go_num, HD2, by omega, by omega, HL2, C0, by omega, X2, b2⟩
        case measure => simp [intOf]; omega
      · have HL2 : Hid (C + 1 = cnt (workB off len z) (k + 1) (a + 1)) := by unfold Hid; rw [HL.out, hw]; simp
        go_wp2_with (go_at_call 42; refine (l2Work_any _ _ _ _ z _ _ o1 o2 h (HR.out.below HB.out) (by omega) (by omega)).mono ?_; rintro e w2 ⟨rfl, b2⟩; rw [hw]; have X2 := HX.out.below b2 HX.out.lt; replace b2 := bel_on HB.out b2)
        go_roundw
        case rel => exact ⟨k + 1, C + 1, D + 1, by go_num, by go_num, HD2, by omega, by omega, HL2, by omega, by omega, X2, b2⟩
        case measure => simp [intOf]; omega
    · have HF : Hid (cnt (workB off len z) (b - a).toNat (a + 1) = C) := by
        unfold Hid; rw [hC.out, show (b - a).toNat = k by have := hD.out; omega]
      go_wp2
      go_returns
      exact ⟨ret_int HF.out.symm, HB.out⟩

end Go.Proofs.Ytadjdpoplaknkaa
