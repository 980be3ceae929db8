/- The stable sort and Shares, part of it. -/
import Derived.Test.YtgnhpjlfdkpaiaaDoorZA
namespace Go.Proofs.YtgnhpjlfdkpaiaaDoor.Sh
set_option linter.unusedVariables false

set_option maxHeartbeats 1000000 in
theorem rot_left {h : Nat → Int × Int} {m i j : Nat} (hi : i ≤ m) (hj : 0 < j) (hij : j < i) (x : Nat) : rot (m - i) m (m + j) h x = rot (m - (i - j)) m (m + j) (sw h (m - i) m j) x := by
  unfold rot sw
  repeat' split
  all_goals first | omega | rfl | (congr 1; omega)
set_option maxHeartbeats 1000000 in
theorem rot_right {h : Nat → Int × Int} {m i j : Nat} (hi : i ≤ m) (hi0 : 0 < i) (hij : i < j) (x : Nat) : rot (m - i) m (m + j) h x = rot (m - i) m (m + (j - i)) (sw h (m - i) (m + j - i) i) x := by
  unfold rot sw
  repeat' split
  all_goals first | omega | rfl | (congr 1; omega)
set_option maxHeartbeats 1000000 in
theorem rot_same {h : Nat → Int × Int} {m i : Nat} (hi : i ≤ m) (hi0 : 0 < i) (x : Nat) : rot (m - i) m (m + i) h x = sw h (m - i) m i x := by
  unfold rot sw
  repeat' split
  all_goals first | omega | rfl | (congr 1; omega)
end Go.Proofs.YtgnhpjlfdkpaiaaDoor.Sh

namespace Go.Proofs.YtgnhpjlfdkpaiaaDoor.Sh
open Go.ChangeShapes Go.WideShapes Go.ChangeAt Go.RowKit
set_option linter.unusedVariables false
set_option linter.unusedSimpArgs false

theorem swapRange_at (B N cap a b n : Nat) (t : TypeId) (f : Nat → Int × Int) (fv : Value) (w : World) (x y z : Int) (hx : x = (a : Int)) (hy : y = (b : Int)) (hz : z = (n : Int)) (hN : (N : Int) ≤ 1048576) (ha : a + n ≤ b) (hb : b + n ≤ N) (H : RB w B N t f) :
    Calls Tryd.prog 191 #[.slice (some ⟨B, 0, none⟩) N cap, .int .i64 x, .int .i64 y, .int .i64 z, fv] w fun e w' => e = .returned (.tuple #[]) ∧ RB w' B N t (sw f a b n) ∧ Below B w w' := by
  subst hx hy hz; exact swapRange_any B N cap a b n t f fv w hN ha hb H

set_option maxHeartbeats 2000000 in
theorem rotate_any (B N cap a m b : Nat) (t : TypeId) (f : Nat → Int × Int) (fv : Value) (w : World) (hN : (N : Int) ≤ 1048576) (ha : a < m) (hm : m < b) (hb : b ≤ N) (H : RB w B N t f) :
    Calls Tryd.prog 190 #[.slice (some ⟨B, 0, none⟩) N cap, .int .i64 a, .int .i64 m, .int .i64 b, fv] w fun e w' => e = .returned (.tuple #[]) ∧ RB w' B N t (rot a m b f) ∧ Below B w w' := by
  have HR : Hid (RB w B N t f) := H
  clear H
  have ia : (a : Int) ≤ 1048576 := by omega
  have im : (m : Int) ≤ 1048576 := by omega
  have ib : (b : Int) ≤ 1048576 := by omega
  go_enter Tryd.func190, Tryd.ntmps190
  go_wp2
  go_loopw [10, 11] (fun u v wr => ∃ i j : Nat, 0 < i ∧ i ≤ m - a ∧ 0 < j ∧ j ≤ b - m ∧ u = .int .i64 (i : Int) ∧ v = .int .i64 (j : Int) ∧ Hid (∃ h, RB wr B N t h ∧ (∀ x, rot (m - i) m (m + j) h x = rot a m b f x) ∧ Below B w wr)) (fun u v _ => (intOf u).toNat + (intOf v).toNat)
  case atStart => exact ⟨m - a, b - m, by omega, Nat.le_refl _, by omega, Nat.le_refl _, by congr 1; omega, by congr 1; omega, f, HR.out, fun x => by rw [show m - (m - a) = a by omega, show m + (b - m) = b by omega], Below.refl _ _⟩
  case round =>
    obtain ⟨i, j, hi0, hi, hj0, hj, rfl, rfl, hP⟩ := hrel
    obtain ⟨h, q1, q2, q3⟩ := hP.out
    have H1 : Hid (RB wr B N t h) := q1
    have H2 : Hid (∀ x, rot (m - i) m (m + j) h x = rot a m b f x) := q2
    have H3 : Hid (Below B w wr) := q3
    clear q1 q2 q3 hP
    have ii : (i : Int) ≤ (m : Int) - (a : Int) := by omega
    have ij : (j : Int) ≤ (b : Int) - (m : Int) := by omega
    rcases Nat.lt_trichotomy i j with g | g | g
    · have g1 : (i : Int) < (j : Int) := by omega
      go_wp2_with (go_at_call 191; refine (swapRange_at B N cap (m - i) (m + j - i) i t h _ _ _ _ _ (by omega) (by omega) rfl hN (by omega) (by omega) H1.out).mono ?_; rintro e w2 ⟨rfl, r1, r2⟩)
      go_roundw
      case rel => exact ⟨i, j - i, hi0, hi, by omega, by omega, rfl, by congr 1; omega, _, r1, fun x => by rw [← rot_right (by omega) hi0 g]; exact H2.out x, H3.out.trans r2⟩
      case measure => simp [intOf]; omega
    · subst g
      go_wp2_with (go_at_call 191; refine (swapRange_at B N cap (m - i) m i t h _ _ _ _ _ (by omega) rfl rfl hN (by omega) (by omega) H1.out).mono ?_; rintro e w2 ⟨rfl, r1, r2⟩)
      go_returns
      exact ⟨rfl, r1.congr (fun x _ => by rw [← rot_same (by omega) hi0]; exact (H2.out x).symm), H3.out.trans r2⟩
    · have g1 : (j : Int) < (i : Int) := by omega
      go_wp2_with (go_at_call 191; refine (swapRange_at B N cap (m - i) m j t h _ _ _ _ _ (by omega) rfl rfl hN (by omega) (by omega) H1.out).mono ?_; rintro e w2 ⟨rfl, r1, r2⟩)
      go_roundw
      case rel => exact ⟨i - j, j, by omega, by omega, hj0, hj, by congr 1; omega, rfl, _, r1, fun x => by rw [← rot_left (by omega) hj0 g]; exact H2.out x, H3.out.trans r2⟩
      case measure => simp [intOf]; omega
end Go.Proofs.YtgnhpjlfdkpaiaaDoor.Sh

namespace Go.Proofs.YtgnhpjlfdkpaiaaDoor.Sh
open Go.ChangeShapes Go.WideShapes Go.ChangeAt Go.RowKit
set_option linter.unusedVariables false
set_option linter.unusedSimpArgs false

theorem rot_next {α : Type} {f : Nat → α} {a k : Nat} (h : a ≤ k) (j : Nat) : rot a (a + 1) (k + 2) f j = if j = k + 1 then f a else if j = k then f (k + 1) else rot a (a + 1) (k + 1) f j := by
  unfold rot
  repeat' split
  all_goals first | omega | rfl | (congr 1; omega)
theorem rot_one {α : Type} {f : Nat → α} {a : Nat} (j : Nat) : rot a (a + 1) (a + 1) f j = f j := by
  unfold rot
  repeat' split
  all_goals first | omega | rfl | (congr 1; omega)
theorem rot_back {α : Type} {f : Nat → α} {m p : Nat} (h : p + 1 ≤ m) (j : Nat) : rot p m (m + 1) f j = if j = p then f m else if j = p + 1 then f p else rot (p + 1) m (m + 1) f j := by
  unfold rot
  repeat' split
  all_goals first | omega | rfl | (congr 1; omega)
theorem rot_none {α : Type} {f : Nat → α} {m : Nat} (j : Nat) : rot m m (m + 1) f j = f j := by
  unfold rot
  repeat' split
  all_goals first | omega | rfl | (congr 1; omega)
theorem belowN {B : Nat} {w w' : World} (h : Below B w w') (q : Nat) : Below B w (w'.drewN q) := ⟨h.os, h.tape, h.output, h.size, h.block⟩
theorem ltR_of {a b : Int × Int} {i j : Nat} (h : a.2 ≠ b.2) (h1 : ¬ ltR a b) : ltR b a := ltR_total h h1

set_option maxRecDepth 20000 in
set_option maxHeartbeats 4000000 in
theorem sym_left (B N cap a b : Nat) (t : TypeId) (f : Nat → Int × Int) (w : World) (hN : (N : Int) ≤ 1048576) (ha : a + 1 < b) (hb : b ≤ N) (H : RB w B N t f) (D : ∀ i j, i < N → j < N → i ≠ j → (f i).2 ≠ (f j).2) (S : SortedOn ltR f (a + 1) b) :
    Calls Tryd.prog 186 #[.slice (some ⟨B, 0, none⟩) N cap, .int .i64 a, .int .i64 ((a + 1 : Nat) : Int), .int .i64 b, .func (Fn.func 136) #[] #[]] w fun e w' => e = .returned (.tuple #[]) ∧ ∃ g, RB w' B N t g ∧ PermOn a b f g ∧ SortedOn ltR g a b ∧ Below B w w' := by
  have HR : Hid (RB w B N t f) := H
  have HD : Hid (∀ i j, i < N → j < N → i ≠ j → (f i).2 ≠ (f j).2) := D
  have HS : Hid (SortedOn ltR f (a + 1) b) := S
  clear H D S
  obtain ⟨m, hm⟩ : ∃ m, m = a + 1 := ⟨_, rfl⟩
  have Hm : Hid (m = a + 1) := hm
  rw [← hm]
  have ia : (a : Int) ≤ 1048576 := by omega
  have im : (m : Int) ≤ 1048576 := by omega
  have ib : (b : Int) ≤ 1048576 := by omega
  have em1 : (m : Int) - (a : Int) = 1 := by omega
  have lam : (a : Int) < (m : Int) := by omega
  have lmb : (m : Int) < (b : Int) := by omega
  have lbN : (b : Int) ≤ (N : Int) := by omega
  have laN : (a : Int) < (N : Int) := by omega
  obtain ⟨y1, y2, hy⟩ : ∃ y1 y2, f a = (y1, y2) := ⟨_, _, rfl⟩
  have Hy : Hid (f a = (y1, y2)) := hy
  clear hm hy
  go_enter Tryd.func186, Tryd.ntmps186
  go_wp2
  go_loopw [10, 11] (fun u v wr => ∃ i j : Nat, u = .int .i64 (i : Int) ∧ v = .int .i64 (j : Int) ∧ m ≤ i ∧ i ≤ j ∧ j ≤ b ∧ Hid ((∀ x, m ≤ x → x < i → ltR (f x) (f a)) ∧ (∀ x, j ≤ x → x < b → ¬ ltR (f x) (f a))) ∧ Hid (RB wr B N t f ∧ Below B w wr)) (fun u v _ => (intOf v).toNat - (intOf u).toNat)
  case atStart => exact ⟨m, b, rfl, rfl, Nat.le_refl _, by omega, Nat.le_refl _, ⟨fun x h1 h2 => by omega, fun x h1 h2 => by omega⟩, HR.out, Below.refl _ _⟩
  case round =>
    obtain ⟨i, j, rfl, rfl, hmi, hij, hjb, HP, HW⟩ := hrel
    by_cases hlt : i < j
    · obtain ⟨c, hc⟩ : ∃ c : Nat, (i + j) / 2 = c := ⟨_, rfl⟩
      have ec : ((i : Int) + (j : Int)) / 2 = (c : Int) := by omega
      have c1 : i ≤ c := by omega
      have c2 : c < j := by omega
      have lcN : (c : Int) < (N : Int) := by omega
      have lij : (i : Int) < (j : Int) := by omega
      have ljN : (j : Int) ≤ (N : Int) := by omega
      clear hc
      obtain ⟨hR, hB⟩ := HW.out
      obtain ⟨d1, d2⟩ := hR.cell (j := c) (by omega)
      obtain ⟨d3, d4⟩ := hR.cell (j := a) (by omega)
      obtain ⟨x1, x2, hx⟩ : ∃ x1 x2, f c = (x1, x2) := ⟨_, _, rfl⟩
      rw [hx] at d1 d2
      rw [Hy.out] at d3 d4
      simp only at d1 d2 d3 d4
      have hRd : RB wr.drew B N t f := hR
      have hBd : Below B w wr.drew := hB.drew
      have Hx : Hid (f c = (x1, x2)) := hx
      clear hx hR hB HW
      by_cases hc : ltR (x1, x2) (y1, y2)
      · obtain ⟨V, hV, HV⟩ : ∃ V, V < 0 ∧ Hid (crV (x1, x2) (y1, y2) = V) := ⟨-1, by omega, crV_lt hc⟩
        have dV : decide (V < 0) = true := decide_eq_true hV
        have HP2 : Hid ((∀ x, m ≤ x → x < c + 1 → ltR (f x) (f a)) ∧ (∀ x, j ≤ x → x < b → ¬ ltR (f x) (f a))) := ⟨fun x h1 h2 => by
            by_cases e : x = c
            · rw [e, Hx.out, Hy.out]; exact hc
            · have e1 := HS.out x c (by have := Hm.out; omega) (by omega) (by omega)
              rw [Hx.out] at e1; rw [Hy.out]; exact ltR_trans e1 hc, HP.out.2⟩
        clear hc
        go_wp2
        go_region_held3 (fun w' => w'.cell? ⟨B, c * 2, none⟩ = some (.int .i64 x1) ∧ w'.cell? ⟨B, c * 2 + 1, none⟩ = some (.int .i64 x2) ∧ w'.cell? ⟨B, a * 2, none⟩ = some (.int .i64 y1) ∧ w'.cell? ⟨B, a * 2 + 1, none⟩ = some (.int .i64 y2) ∧ RB w' B N t f ∧ Below B w w')
          (refine ⟨?_, ?_, ?_, ?_, ?_, ?_⟩ <;> first | assumption | (simp [*]; done))
          (first | (go_at_call 136; refine (compareRests_eq _ _ _ _ V _ HV).mono ?_; rintro e w2 ⟨rfl, b2⟩; have q0 : w2.cell? ⟨B, c * 2, none⟩ = some (.int .i64 x1) := keep_cell' b2 (by simp [*]); have q1 : w2.cell? ⟨B, c * 2 + 1, none⟩ = some (.int .i64 x2) := keep_cell' b2 (by simp [*]); have q2 : w2.cell? ⟨B, a * 2, none⟩ = some (.int .i64 y1) := keep_cell' b2 (by simp [*]); have q3 : w2.cell? ⟨B, a * 2 + 1, none⟩ = some (.int .i64 y2) := keep_cell' b2 (by simp [*]); have q4 : RB w2 B N t f := rb_on (by assumption) b2; have q5 : Below B w w2 := bel_rb (g := f) (N := N) (t := t) (by assumption) (by assumption) b2))
        go_wp2
        go_roundw
        case rel => exact ⟨c + 1, j, by go_num, rfl, by omega, by omega, hjb, HP2, q4, q5⟩
        case measure => simp [intOf]; omega
      · obtain ⟨V, hV, HV⟩ : ∃ V, 0 ≤ V ∧ Hid (crV (x1, x2) (y1, y2) = V) := by
          rcases crV_ge hc with e | e
          · exact ⟨0, by omega, e⟩
          · exact ⟨1, by omega, e⟩
        have dV : decide (V < 0) = false := decide_eq_false (by omega)
        have HP2 : Hid ((∀ x, m ≤ x → x < i → ltR (f x) (f a)) ∧ (∀ x, c ≤ x → x < b → ¬ ltR (f x) (f a))) := ⟨HP.out.1, fun x h1 h2 h3 => by
            by_cases e : x = c
            · rw [e, Hx.out, Hy.out] at h3; exact hc h3
            · have e1 := HS.out c x (by have := Hm.out; omega) (by omega) (by omega)
              rw [Hx.out] at e1; rw [Hy.out] at h3; exact hc (ltR_trans e1 h3)⟩
        clear hc
        go_wp2
        go_region_held3 (fun w' => w'.cell? ⟨B, c * 2, none⟩ = some (.int .i64 x1) ∧ w'.cell? ⟨B, c * 2 + 1, none⟩ = some (.int .i64 x2) ∧ w'.cell? ⟨B, a * 2, none⟩ = some (.int .i64 y1) ∧ w'.cell? ⟨B, a * 2 + 1, none⟩ = some (.int .i64 y2) ∧ RB w' B N t f ∧ Below B w w')
          (refine ⟨?_, ?_, ?_, ?_, ?_, ?_⟩ <;> first | assumption | (simp [*]; done))
          (first | (go_at_call 136; refine (compareRests_eq _ _ _ _ V _ HV).mono ?_; rintro e w2 ⟨rfl, b2⟩; have q0 : w2.cell? ⟨B, c * 2, none⟩ = some (.int .i64 x1) := keep_cell' b2 (by simp [*]); have q1 : w2.cell? ⟨B, c * 2 + 1, none⟩ = some (.int .i64 x2) := keep_cell' b2 (by simp [*]); have q2 : w2.cell? ⟨B, a * 2, none⟩ = some (.int .i64 y1) := keep_cell' b2 (by simp [*]); have q3 : w2.cell? ⟨B, a * 2 + 1, none⟩ = some (.int .i64 y2) := keep_cell' b2 (by simp [*]); have q4 : RB w2 B N t f := rb_on (by assumption) b2; have q5 : Below B w w2 := bel_rb (g := f) (N := N) (t := t) (by assumption) (by assumption) b2))
        go_wp2
        go_roundw
        case rel => exact ⟨i, c, rfl, by go_num, by omega, by omega, by omega, HP2, q4, q5⟩
        case measure => simp [intOf]; omega
    · obtain rfl : i = j := by omega
      have lii : ¬ (i : Int) < (i : Int) := by omega
      have lib : (i : Int) ≤ (b : Int) := by omega
      have lmi : (m : Int) ≤ (i : Int) := by omega
      go_wp2
      go_loopw [13] (fun u wq => ∃ k : Nat, u = .int .i64 (k : Int) ∧ a ≤ k ∧ k + 1 ≤ i ∧ Hid (RB wq B N t (rot a (a + 1) (k + 1) f) ∧ Below B w wq)) (fun u _ => i - (intOf u).toNat)
      case atStart => exact ⟨a, rfl, Nat.le_refl _, by have := Hm.out; omega, HW.out.1.congr (fun j _ => rot_one j), HW.out.2⟩
      case round =>
        clear HW
        rename_i wr0
        obtain ⟨k, rfl, hak, hki, HW⟩ := hrel
        by_cases hk : k + 1 < i
        · have lk : (k : Int) < (i : Int) - 1 := by omega
          have lk2 : (k : Int) + 1 < (N : Int) := by omega
          obtain ⟨hR, hB⟩ := HW.out
          obtain ⟨d1, d2⟩ := hR.cell (j := k) (by omega)
          obtain ⟨d3, d4⟩ := hR.cell (j := k + 1) (by omega)
          have e1 : rot a (a + 1) (k + 1) f k = (y1, y2) := by
            rw [rot_hi (by omega) (by omega), ← Hy.out]; congr 1; omega
          have e2 : rot a (a + 1) (k + 1) f (k + 1) = f (k + 1) := rot_out (by omega) (by omega) (by omega)
          obtain ⟨x1, x2, hx⟩ : ∃ x1 x2, f (k + 1) = (x1, x2) := ⟨_, _, rfl⟩
          rw [e1] at d1 d2
          rw [e2, hx] at d3 d4
          simp only at d1 d2 d3 d4
          have r1 := hR.fr (k * 2)
          have r2 := hR.fr (k * 2 + 1)
          have r3 := hR.fr ((k + 1) * 2)
          have r4 := hR.fr ((k + 1) * 2 + 1)
          have HN : Hid (RB ((((wr.setCell ⟨B, k * 2, none⟩ (.int .i64 x1)).setCell ⟨B, k * 2 + 1, none⟩ (.int .i64 x2)).setCell ⟨B, (k + 1) * 2, none⟩ (.int .i64 y1)).setCell ⟨B, (k + 1) * 2 + 1, none⟩ (.int .i64 y2)).drew B N t (rot a (a + 1) (k + 1 + 1) f) ∧ Below B w ((((wr.setCell ⟨B, k * 2, none⟩ (.int .i64 x1)).setCell ⟨B, k * 2 + 1, none⟩ (.int .i64 x2)).setCell ⟨B, (k + 1) * 2, none⟩ (.int .i64 y1)).setCell ⟨B, (k + 1) * 2 + 1, none⟩ (.int .i64 y2)).drew) := by
            refine ⟨RB.congr ((hR.set (i := k) (by omega) x1 x2).set (i := k + 1) (by omega) y1 y2) (fun j hj => ?_), ((((hB.setCell (Nat.le_refl _) _).setCell (Nat.le_refl _) _).setCell (Nat.le_refl _) _).setCell (Nat.le_refl _) _).drew⟩
            rw [rot_next hak, Hy.out, hx]
          clear hR hB HW e1 e2 hx
          go_wp2
          go_region
          go_wp2
          go_roundw
          case rel => exact ⟨k + 1, by go_num, by omega, by omega, HN⟩
          case measure => simp [intOf]; omega
        · obtain rfl : i = k + 1 := by omega
          have lk : ¬ (k : Int) < ((k + 1 : Nat) : Int) - 1 := by omega
          have HN : Hid (∃ g, RB wr B N t g ∧ PermOn a b f g ∧ SortedOn ltR g a b ∧ Below B w wr) := by
            have hm := Hm.out
            subst hm
            refine ⟨_, HW.out.1, (rot_perm (by omega) (by omega)).mono (Nat.le_refl _) hjb, one_left ⟨by omega, hjb⟩ HS.out HP.out.1 (fun x h1 h2 => ltR_total (HD.out x a (by omega) (by omega) (by omega)) (HP.out.2 x h1 h2)), HW.out.2⟩
          clear HW HP
          go_wp2
          go_returns
          exact ⟨rfl, HN.out⟩

set_option maxRecDepth 20000 in
set_option maxHeartbeats 4000000 in
theorem sym_right (B N cap a m : Nat) (t : TypeId) (f : Nat → Int × Int) (w : World) (hN : (N : Int) ≤ 1048576) (ha : a + 1 < m) (hb : m + 1 ≤ N) (H : RB w B N t f) (D : ∀ i j, i < N → j < N → i ≠ j → (f i).2 ≠ (f j).2) (S : SortedOn ltR f a m) :
    Calls Tryd.prog 186 #[.slice (some ⟨B, 0, none⟩) N cap, .int .i64 a, .int .i64 m, .int .i64 ((m + 1 : Nat) : Int), .func (Fn.func 136) #[] #[]] w fun e w' => e = .returned (.tuple #[]) ∧ ∃ g, RB w' B N t g ∧ PermOn a (m + 1) f g ∧ SortedOn ltR g a (m + 1) ∧ Below B w w' := by
  have HR : Hid (RB w B N t f) := H
  have HD : Hid (∀ i j, i < N → j < N → i ≠ j → (f i).2 ≠ (f j).2) := D
  have HS : Hid (SortedOn ltR f a m) := S
  clear H D S
  obtain ⟨b, hm⟩ : ∃ b, b = m + 1 := ⟨_, rfl⟩
  have Hm : Hid (b = m + 1) := hm
  rw [← hm]
  have ia : (a : Int) ≤ 1048576 := by omega
  have im : (m : Int) ≤ 1048576 := by omega
  have ib : (b : Int) ≤ 1048576 := by omega
  have em0 : ((m : Int) - (a : Int) == 1) = false := by simp; omega
  have em1 : (b : Int) - (m : Int) = 1 := by omega
  have lam : (a : Int) + 1 < (m : Int) := by omega
  have lmb : (m : Int) < (b : Int) := by omega
  have lbN : (b : Int) ≤ (N : Int) := by omega
  have laN : (m : Int) < (N : Int) := by omega
  obtain ⟨y1, y2, hy⟩ : ∃ y1 y2, f m = (y1, y2) := ⟨_, _, rfl⟩
  have Hy : Hid (f m = (y1, y2)) := hy
  clear hm hy
  go_enter Tryd.func186, Tryd.ntmps186
  go_wp2
  go_loopw [14, 15] (fun u v wr => ∃ i j : Nat, u = .int .i64 (i : Int) ∧ v = .int .i64 (j : Int) ∧ a ≤ i ∧ i ≤ j ∧ j ≤ m ∧ Hid ((∀ x, a ≤ x → x < i → ¬ ltR (f m) (f x)) ∧ (∀ x, j ≤ x → x < m → ltR (f m) (f x))) ∧ Hid (RB wr B N t f ∧ Below B w wr)) (fun u v _ => (intOf v).toNat - (intOf u).toNat)
  case atStart => exact ⟨a, m, rfl, rfl, Nat.le_refl _, by omega, Nat.le_refl _, ⟨fun x h1 h2 => by omega, fun x h1 h2 => by omega⟩, HR.out, Below.refl _ _⟩
  case round =>
    obtain ⟨i, j, rfl, rfl, hai, hij, hjm, HP, HW⟩ := hrel
    by_cases hlt : i < j
    · obtain ⟨c, hc⟩ : ∃ c : Nat, (i + j) / 2 = c := ⟨_, rfl⟩
      have ec : ((i : Int) + (j : Int)) / 2 = (c : Int) := by omega
      have c1 : i ≤ c := by omega
      have c2 : c < j := by omega
      have lcN : (c : Int) < (N : Int) := by omega
      have lij : (i : Int) < (j : Int) := by omega
      have ljN : (j : Int) ≤ (N : Int) := by omega
      clear hc
      obtain ⟨hR, hB⟩ := HW.out
      obtain ⟨d1, d2⟩ := hR.cell (j := c) (by omega)
      obtain ⟨d3, d4⟩ := hR.cell (j := m) (by omega)
      obtain ⟨x1, x2, hx⟩ : ∃ x1 x2, f c = (x1, x2) := ⟨_, _, rfl⟩
      rw [hx] at d1 d2
      rw [Hy.out] at d3 d4
      simp only at d1 d2 d3 d4
      have hRd : RB wr.drew B N t f := hR
      have hBd : Below B w wr.drew := hB.drew
      have Hx : Hid (f c = (x1, x2)) := hx
      clear hx hR hB HW
      by_cases hc : ltR (y1, y2) (x1, x2)
      · obtain ⟨V, hV, HV⟩ : ∃ V, V < 0 ∧ Hid (crV (y1, y2) (x1, x2) = V) := ⟨-1, by omega, crV_lt hc⟩
        have dV : decide (V < 0) = true := decide_eq_true hV
        have HP2 : Hid ((∀ x, a ≤ x → x < i → ¬ ltR (f m) (f x)) ∧ (∀ x, c ≤ x → x < m → ltR (f m) (f x))) := ⟨HP.out.1, fun x h1 h2 => by
            by_cases e : x = c
            · rw [e, Hx.out, Hy.out]; exact hc
            · have e1 := HS.out c x (by omega) (by omega) (by omega)
              rw [Hx.out] at e1; rw [Hy.out]; exact ltR_trans hc e1⟩
        clear hc
        go_wp2
        go_region_held3 (fun w' => w'.cell? ⟨B, m * 2, none⟩ = some (.int .i64 y1) ∧ w'.cell? ⟨B, m * 2 + 1, none⟩ = some (.int .i64 y2) ∧ w'.cell? ⟨B, c * 2, none⟩ = some (.int .i64 x1) ∧ w'.cell? ⟨B, c * 2 + 1, none⟩ = some (.int .i64 x2) ∧ RB w' B N t f ∧ Below B w w')
          (refine ⟨?_, ?_, ?_, ?_, ?_, ?_⟩ <;> first | assumption | (simp [*]; done))
          (first | (go_at_call 136; refine (compareRests_eq _ _ _ _ V _ HV).mono ?_; rintro e w2 ⟨rfl, b2⟩; have q0 : w2.cell? ⟨B, m * 2, none⟩ = some (.int .i64 y1) := keep_cell' b2 (by simp [*]); have q1 : w2.cell? ⟨B, m * 2 + 1, none⟩ = some (.int .i64 y2) := keep_cell' b2 (by simp [*]); have q2 : w2.cell? ⟨B, c * 2, none⟩ = some (.int .i64 x1) := keep_cell' b2 (by simp [*]); have q3 : w2.cell? ⟨B, c * 2 + 1, none⟩ = some (.int .i64 x2) := keep_cell' b2 (by simp [*]); have q4 : RB w2 B N t f := rb_on (by assumption) b2; have q5 : Below B w w2 := bel_rb (g := f) (N := N) (t := t) (by assumption) (by assumption) b2))
        go_wp2
        go_roundw
        case rel => exact ⟨i, c, rfl, by go_num, by omega, by omega, by omega, HP2, q4, q5⟩
        case measure => simp [intOf]; omega
      · obtain ⟨V, hV, HV⟩ : ∃ V, 0 ≤ V ∧ Hid (crV (y1, y2) (x1, x2) = V) := by
          rcases crV_ge hc with e | e
          · exact ⟨0, by omega, e⟩
          · exact ⟨1, by omega, e⟩
        have dV : decide (V < 0) = false := decide_eq_false (by omega)
        have HP2 : Hid ((∀ x, a ≤ x → x < c + 1 → ¬ ltR (f m) (f x)) ∧ (∀ x, j ≤ x → x < m → ltR (f m) (f x))) := ⟨fun x h1 h2 h3 => by
            by_cases e : x = c
            · rw [e, Hx.out, Hy.out] at h3; exact hc h3
            · have e1 := HS.out x c (by omega) (by omega) (by omega)
              rw [Hx.out] at e1; rw [Hy.out] at h3; exact hc (ltR_trans h3 e1), HP.out.2⟩
        clear hc
        go_wp2
        go_region_held3 (fun w' => w'.cell? ⟨B, m * 2, none⟩ = some (.int .i64 y1) ∧ w'.cell? ⟨B, m * 2 + 1, none⟩ = some (.int .i64 y2) ∧ w'.cell? ⟨B, c * 2, none⟩ = some (.int .i64 x1) ∧ w'.cell? ⟨B, c * 2 + 1, none⟩ = some (.int .i64 x2) ∧ RB w' B N t f ∧ Below B w w')
          (refine ⟨?_, ?_, ?_, ?_, ?_, ?_⟩ <;> first | assumption | (simp [*]; done))
          (first | (go_at_call 136; refine (compareRests_eq _ _ _ _ V _ HV).mono ?_; rintro e w2 ⟨rfl, b2⟩; have q0 : w2.cell? ⟨B, m * 2, none⟩ = some (.int .i64 y1) := keep_cell' b2 (by simp [*]); have q1 : w2.cell? ⟨B, m * 2 + 1, none⟩ = some (.int .i64 y2) := keep_cell' b2 (by simp [*]); have q2 : w2.cell? ⟨B, c * 2, none⟩ = some (.int .i64 x1) := keep_cell' b2 (by simp [*]); have q3 : w2.cell? ⟨B, c * 2 + 1, none⟩ = some (.int .i64 x2) := keep_cell' b2 (by simp [*]); have q4 : RB w2 B N t f := rb_on (by assumption) b2; have q5 : Below B w w2 := bel_rb (g := f) (N := N) (t := t) (by assumption) (by assumption) b2))
        go_wp2
        go_roundw
        case rel => exact ⟨c + 1, j, by go_num, rfl, by omega, by omega, hjm, HP2, q4, q5⟩
        case measure => simp [intOf]; omega
    · obtain rfl : i = j := by omega
      have lii : ¬ (i : Int) < (i : Int) := by omega
      have lib : (i : Int) ≤ (m : Int) := by omega
      go_wp2
      go_loopw [17] (fun u wq => ∃ k : Nat, u = .int .i64 (k : Int) ∧ i ≤ k ∧ k ≤ m ∧ Hid (RB wq B N t (rot k m (m + 1) f) ∧ Below B w wq)) (fun u _ => (intOf u).toNat)
      case atStart => exact ⟨m, rfl, hjm, Nat.le_refl _, HW.out.1.congr (fun j _ => rot_none j), HW.out.2⟩
      case round =>
        clear HW
        rename_i wr0
        obtain ⟨k, rfl, hik, hkm, HW⟩ := hrel
        by_cases hk : i < k
        · obtain ⟨p, hkp⟩ : ∃ p, k = p + 1 := ⟨k - 1, by omega⟩
          have lk : (i : Int) < (k : Int) := by omega
          have lkN : (k : Int) < (N : Int) := by omega
          have lpN : (p : Int) < (N : Int) := by omega
          have ew : (k : Int) - 1 = (p : Int) := by omega
          have hwr : IntKind.i64.wrap ((k : Int) - 1) = (p : Int) := by rw [IntWalk.i64_in _ ⟨by omega, by omega⟩]; exact ew
          obtain ⟨hR, hB⟩ := HW.out
          obtain ⟨d1, d2⟩ := hR.cell (j := k) (by omega)
          obtain ⟨d3, d4⟩ := hR.cell (j := p) (by omega)
          have e1 : rot k m (m + 1) f k = (y1, y2) := by
            rw [rot_lo (by omega) (by omega), ← Hy.out]; congr 1; omega
          have e2 : rot k m (m + 1) f p = f p := rot_out (by omega) (by omega) (by omega)
          obtain ⟨x1, x2, hx⟩ : ∃ x1 x2, f p = (x1, x2) := ⟨_, _, rfl⟩
          rw [e1] at d1 d2
          rw [e2, hx] at d3 d4
          simp only at d1 d2 d3 d4
          have r1 := hR.fr (k * 2)
          have r2 := hR.fr (k * 2 + 1)
          have r3 := hR.fr (p * 2)
          have r4 := hR.fr (p * 2 + 1)
          have HN : Hid (RB ((((wr.setCell ⟨B, k * 2, none⟩ (.int .i64 x1)).setCell ⟨B, k * 2 + 1, none⟩ (.int .i64 x2)).setCell ⟨B, p * 2, none⟩ (.int .i64 y1)).setCell ⟨B, p * 2 + 1, none⟩ (.int .i64 y2)).drew B N t (rot p m (m + 1) f) ∧ Below B w ((((wr.setCell ⟨B, k * 2, none⟩ (.int .i64 x1)).setCell ⟨B, k * 2 + 1, none⟩ (.int .i64 x2)).setCell ⟨B, p * 2, none⟩ (.int .i64 y1)).setCell ⟨B, p * 2 + 1, none⟩ (.int .i64 y2)).drew) := by
            refine ⟨RB.congr ((hR.set (i := k) (by omega) x1 x2).set (i := p) (by omega) y1 y2) (fun j hj => ?_), ((((hB.setCell (Nat.le_refl _) _).setCell (Nat.le_refl _) _).setCell (Nat.le_refl _) _).setCell (Nat.le_refl _) _).drew⟩
            rw [rot_back (by omega), Hy.out, hx, ← hkp]
          have Hkp : Hid (k = p + 1) := hkp
          have lpk : p < k := by omega
          clear hR hB HW e1 e2 hx hkp ew
          go_wp2
          go_region
          go_wp2
          go_roundw
          case rel => exact ⟨p, by go_num, by have := Hkp.out; omega, by have := Hkp.out; omega, HN⟩
          case measure => have := Hkp.out; simp [intOf]; omega
        · obtain rfl : i = k := by omega
          have HN : Hid (∃ g, RB wr B N t g ∧ PermOn a b f g ∧ SortedOn ltR g a b ∧ Below B w wr) := by
            have hm := Hm.out
            subst hm
            refine ⟨_, HW.out.1, (rot_perm (by omega) (by omega)).mono hai (Nat.le_refl _), one_right ⟨hai, hkm⟩ HS.out (fun x h1 h2 => ltR_total (HD.out m x (by omega) (by omega) (by omega)) (HP.out.1 x h1 h2)) HP.out.2, HW.out.2⟩
          clear HW HP
          go_wp2
          go_returns
          exact ⟨rfl, HN.out⟩
end Go.Proofs.YtgnhpjlfdkpaiaaDoor.Sh

namespace Go.Proofs.YtgnhpjlfdkpaiaaDoor.Sh
open Go.ChangeShapes Go.WideShapes Go.ChangeAt Go.RowKit
set_option linter.unusedVariables false
set_option linter.unusedSimpArgs false

theorem perm_dist {a b N : Nat} {f g : Nat → Int × Int} (x : PermOn a b f g) (hb : b ≤ N) (D : ∀ i j, i < N → j < N → i ≠ j → (f i).2 ≠ (f j).2) : ∀ i j, i < N → j < N → i ≠ j → (g i).2 ≠ (g j).2 :=
  fun i j hi hj h => perm_apart (x.mono (Nat.zero_le _) hb) (Nat.le_refl _) D (Nat.zero_le _) hi (Nat.zero_le _) hj h

/-- What a merged run is. -/
def Mg2 (B N : Nat) (t : TypeId) (a b : Nat) (f : Nat → Int × Int) (w w' : World) : Prop := ∃ g, RB w' B N t g ∧ PermOn a b f g ∧ SortedOn ltR g a b ∧ Below B w w'

section
variable {B N a m b md s e : Nat} {t : TypeId} {f g1 g2 : Nat → Int × Int} {w w' w1 w2 : World}
/-- The parted search: s is where it ends. -/
def Cut (a m b md s e : Nat) (f : Nat → Int × Int) : Prop := a ≤ s ∧ s ≤ m ∧ m ≤ e ∧ e ≤ b ∧ s ≤ md ∧ md ≤ e ∧ s + e = md + m ∧ (a < s → e < b → ltR (f (s - 1)) (f e)) ∧ (s < m → m < e → ltR (f (e - 1)) (f s))

theorem rot_same_l (hme : m ≤ e) : rot m m e f = f := by
  funext i; unfold rot
  repeat' split
  all_goals first | omega | rfl | (congr 1; omega)
theorem rot_same_r (hsm : s ≤ m) : rot s m m f = f := by
  funext i; unfold rot
  repeat' split
  all_goals first | omega | rfl | (congr 1; omega)

/-- Both halves done. -/
theorem sym_fin (ham : a < m) (hmb : m < b) (hmd : a ≤ md ∧ md ≤ b) (C : Cut a m b md s e f) (x : SortedOn ltR f a m) (y : SortedOn ltR f m b)
    (p1 : PermOn a md (rot s m e f) g1) (s1 : SortedOn ltR g1 a md) (p2 : PermOn md b g1 g2) (s2 : SortedOn ltR g2 md b) : PermOn a b f g2 ∧ SortedOn ltR g2 a b := by
  obtain ⟨c1, c2, c3, c4, c5, c6, c7, c8, c9⟩ := C
  have M := merge_step (lt := ltR) (fun x y z => ltR_trans) (by omega) (by omega) hmd c7 c1 c2 c3 c4 x y c8 c9
  refine ⟨(((rot_perm (by omega) (by omega)).mono c1 c4).trans (p1.mono (Nat.le_refl _) hmd.2)).trans (p2.mono hmd.1 (Nat.le_refl _)), ?_⟩
  refine sorted_join (m := md) ?_ s2 (cross_perm M.2.2.2.2 p1 p2 hmd.1)
  exact s1.congr (fun i h1 h2 => p2.1 i (by omega))
/-- The first half, and what the second one has to start from. -/
theorem sym_mid (ham : a < m) (hmb : m < b) (hmd : a ≤ md ∧ md ≤ b) (C : Cut a m b md s e f) (x : SortedOn ltR f a m) (y : SortedOn ltR f m b) :
    SortedOn ltR (rot s m e f) a s ∧ SortedOn ltR (rot s m e f) s md ∧ ∀ g1, PermOn a md (rot s m e f) g1 → SortedOn ltR g1 md e ∧ SortedOn ltR g1 e b := by
  obtain ⟨c1, c2, c3, c4, c5, c6, c7, c8, c9⟩ := C
  have M := merge_step (lt := ltR) (fun x y z => ltR_trans) (by omega) (by omega) hmd c7 c1 c2 c3 c4 x y c8 c9
  exact ⟨M.1, M.2.1, fun g1 p => ⟨M.2.2.1.congr (fun i h1 h2 => p.1 i (by omega)), M.2.2.2.1.congr (fun i h1 h2 => p.1 i (by omega))⟩⟩
theorem sorted_l {h : Nat → Int × Int} (q : s = a ∨ s = md) (x : SortedOn ltR h a s) (y : SortedOn ltR h s md) : SortedOn ltR h a md := by
  rcases q with q | q
  · rw [q] at y; exact y
  · rw [q] at x; exact x
theorem cut_perm (C : Cut a m b md s e f) : PermOn a b f (rot s m e f) := (rot_perm C.2.1 C.2.2.1).mono C.1 C.2.2.2.1
end

theorem rotate_at (B N cap a m b : Nat) (t : TypeId) (f : Nat → Int × Int) (fv : Value) (w : World) (hN : (N : Int) ≤ 1048576) (ha : (a : Int) < m) (hm : (m : Int) < b) (hb : b ≤ N) (H : RB w B N t f) :
    Calls Tryd.prog 190 #[.slice (some ⟨B, 0, none⟩) N cap, .int .i64 a, .int .i64 m, .int .i64 b, fv] w fun e w' => e = .returned (.tuple #[]) ∧ RB w' B N t (rot a m b f) ∧ Below B w w' :=
  rotate_any B N cap a m b t f fv w hN (by omega) (by omega) hb H

/-- What symMerge is to keep, for runs of at most d places. -/
def SymOk (B N cap : Nat) (t : TypeId) (d : Nat) : Prop := ∀ (a m b : Nat) (f : Nat → Int × Int) (w : World), b - a ≤ d → a < m → m < b → b ≤ N → RB w B N t f → (∀ i j, i < N → j < N → i ≠ j → (f i).2 ≠ (f j).2) → SortedOn ltR f a m → SortedOn ltR f m b →
    Calls Tryd.prog 186 #[.slice (some ⟨B, 0, none⟩) N cap, .int .i64 a, .int .i64 m, .int .i64 b, .func (Fn.func 136) #[] #[]] w fun e w' => e = .returned (.tuple #[]) ∧ Mg2 B N t a b f w w'

set_option maxRecDepth 20000 in
set_option maxHeartbeats 8000000 in
theorem sym_big (B N cap d a m b : Nat) (t : TypeId) (f : Nat → Int × Int) (w : World) (hN : (N : Int) ≤ 1048576) (ih : SymOk B N cap t d) (hd : b - a ≤ d + 1) (ham2 : a + 1 < m) (hmb2 : m + 1 < b) (hb : b ≤ N) (H : RB w B N t f) (D : ∀ i j, i < N → j < N → i ≠ j → (f i).2 ≠ (f j).2) (X : SortedOn ltR f a m) (Y : SortedOn ltR f m b) (hmd : (a + b) / 2 < m) :
    Calls Tryd.prog 186 #[.slice (some ⟨B, 0, none⟩) N cap, .int .i64 a, .int .i64 m, .int .i64 b, .func (Fn.func 136) #[] #[]] w fun e w' => e = .returned (.tuple #[]) ∧ Mg2 B N t a b f w w' := by
  have HR : Hid (RB w B N t f) := H
  have HD : Hid (∀ i j, i < N → j < N → i ≠ j → (f i).2 ≠ (f j).2) := D
  have HX : Hid (SortedOn ltR f a m) := X
  have HY : Hid (SortedOn ltR f m b) := Y
  have HI : Hid (SymOk B N cap t d) := ih
  have ham : a < m := by omega
  have hmb : m < b := by omega
  obtain ⟨md, hmid⟩ : ∃ md : Nat, (a + b) / 2 = md := ⟨_, rfl⟩
  have hmdb : a ≤ md ∧ md ≤ b := by omega
  have emd : ((a : Int) + (b : Int)) / 2 = (md : Int) := by omega
  obtain ⟨n, hn⟩ : ∃ n : Nat, n = md + m := ⟨_, rfl⟩
  obtain ⟨p, hp⟩ : ∃ p : Nat, p = n - 1 := ⟨_, rfl⟩
  have en : (md : Int) + (m : Int) = (n : Int) := by omega
  have ep : (n : Int) - 1 = (p : Int) := by omega
  have Hn : Hid (n = md + m ∧ 2 * md ≤ a + b ∧ a + b ≤ 2 * md + 1) := ⟨hn, by omega, by omega⟩
  have Hp : Hid (p = n - 1) := hp
  have ia : (a : Int) ≤ 1048576 := by omega
  have im : (m : Int) ≤ 1048576 := by omega
  have ib : (b : Int) ≤ 1048576 := by omega
  have imd : (md : Int) ≤ 1048576 := by omega
  have lamd : (a : Int) < md := by omega
  have lmdb : (md : Int) < b := by omega
  have em0 : ((m : Int) - (a : Int) == 1) = false := by simp; omega
  have em1 : ((b : Int) - (m : Int) == 1) = false := by simp; omega
  have lbm : (md : Int) < m := by omega
  clear H D X Y ih hmid hn hp
  go_enter Tryd.func186, Tryd.ntmps186
  go_wp2
  go_loopw [20, 21] (fun u v wr => ∃ s r : Nat, u = .int .i64 (s : Int) ∧ v = .int .i64 (r : Int) ∧ n - b ≤ s ∧ s ≤ r ∧ r ≤ md ∧ Hid ((s = n - b ∨ ¬ ltR (f (n - s)) (f (s - 1))) ∧ (r = md ∨ ltR (f (n - 1 - r)) (f r))) ∧ Hid (RB wr B N t f ∧ Below B w wr)) (fun u v _ => (intOf v).toNat - (intOf u).toNat)
  case atStart => exact ⟨n - b, md, by congr 1; have := Hn.out; omega, rfl, Nat.le_refl _, by have := Hn.out; omega, Nat.le_refl _, ⟨.inl rfl, .inl rfl⟩, HR.out, Below.refl _ _⟩
  case round =>
    obtain ⟨s, r, rfl, rfl, hls, hsr, hrh, HP, HW⟩ := hrel
    by_cases hlt : s < r
    · obtain ⟨c, hc⟩ : ∃ c : Nat, (s + r) / 2 = c := ⟨_, rfl⟩
      have ec : ((s : Int) + (r : Int)) / 2 = (c : Int) := by omega
      have c1 : s ≤ c := by omega
      have c2 : c < r := by omega
      obtain ⟨q, hq⟩ : ∃ q : Nat, q = p - c := ⟨_, rfl⟩
      have hqN : q < N := by have := Hn.out; have := Hp.out; omega
      have eq : (p : Int) - (c : Int) = (q : Int) := by have := Hn.out; have := Hp.out; omega
      have hwr : IntKind.i64.wrap ((p : Int) - (c : Int)) = (q : Int) := by rw [IntWalk.i64_in _ ⟨by omega, by omega⟩]; exact eq
      have Hq : Hid (q = n - 1 - c) := by have := Hn.out; have := Hp.out; show _ = _; omega
      have lcN : (c : Int) < (N : Int) := by have := Hn.out; omega
      have lqN : (q : Int) < (N : Int) := by omega
      have lsr : (s : Int) < (r : Int) := by omega
      have lrN : (r : Int) ≤ (N : Int) := by have := Hn.out; omega
      have cN : c < N := by omega
      clear hc hq eq
      obtain ⟨hR, hB⟩ := HW.out
      obtain ⟨d1, d2⟩ := hR.cell (j := q) hqN
      obtain ⟨d3, d4⟩ := hR.cell (j := c) cN
      obtain ⟨x1, x2, hx⟩ : ∃ x1 x2, f q = (x1, x2) := ⟨_, _, rfl⟩
      obtain ⟨y1, y2, hy⟩ : ∃ y1 y2, f c = (y1, y2) := ⟨_, _, rfl⟩
      rw [hx] at d1 d2
      rw [hy] at d3 d4
      simp only at d1 d2 d3 d4
      have hRd : RB wr.drew B N t f := hR
      have hBd : Below B w wr.drew := hB.drew
      have Hx : Hid (f q = (x1, x2)) := hx
      have Hy : Hid (f c = (y1, y2)) := hy
      clear hx hy hR hB HW
      by_cases hc : ltR (x1, x2) (y1, y2)
      · obtain ⟨V, hV, HV⟩ : ∃ V, V < 0 ∧ Hid (crV (x1, x2) (y1, y2) = V) := ⟨-1, by omega, crV_lt hc⟩
        have dV : decide (V < 0) = true := decide_eq_true hV
        have HP2 : Hid ((s = n - b ∨ ¬ ltR (f (n - s)) (f (s - 1))) ∧ (c = md ∨ ltR (f (n - 1 - c)) (f c))) := ⟨HP.out.1, .inr (by rw [← Hq.out, Hx.out, Hy.out]; exact hc)⟩
        clear hc
        go_wp2
        go_region_held3 (fun w' => w'.cell? ⟨B, q * 2, none⟩ = some (.int .i64 x1) ∧ w'.cell? ⟨B, q * 2 + 1, none⟩ = some (.int .i64 x2) ∧ w'.cell? ⟨B, c * 2, none⟩ = some (.int .i64 y1) ∧ w'.cell? ⟨B, c * 2 + 1, none⟩ = some (.int .i64 y2) ∧ RB w' B N t f ∧ Below B w w')
          (refine ⟨?_, ?_, ?_, ?_, ?_, ?_⟩ <;> first | assumption | (simp [*]; done))
          (first | (go_at_call 136; refine (compareRests_eq _ _ _ _ V _ HV).mono ?_; rintro e w2 ⟨rfl, b2⟩; have q0 : w2.cell? ⟨B, q * 2, none⟩ = some (.int .i64 x1) := keep_cell' b2 (by simp [*]); have q1 : w2.cell? ⟨B, q * 2 + 1, none⟩ = some (.int .i64 x2) := keep_cell' b2 (by simp [*]); have q2 : w2.cell? ⟨B, c * 2, none⟩ = some (.int .i64 y1) := keep_cell' b2 (by simp [*]); have q3 : w2.cell? ⟨B, c * 2 + 1, none⟩ = some (.int .i64 y2) := keep_cell' b2 (by simp [*]); have q4 : RB w2 B N t f := rb_on (by assumption) b2; have q5 : Below B w w2 := bel_rb (g := f) (N := N) (t := t) (by assumption) (by assumption) b2))
        go_wp2
        go_roundw
        case rel => exact ⟨s, c, rfl, by go_num, hls, c1, by omega, HP2, q4, q5⟩
        case measure => simp [intOf]; omega
      · obtain ⟨V, hV, HV⟩ : ∃ V, 0 ≤ V ∧ Hid (crV (x1, x2) (y1, y2) = V) := by
          rcases crV_ge hc with e | e
          · exact ⟨0, by omega, e⟩
          · exact ⟨1, by omega, e⟩
        have dV : decide (V < 0) = false := decide_eq_false (by omega)
        have HP2 : Hid ((c + 1 = n - b ∨ ¬ ltR (f (n - (c + 1))) (f (c + 1 - 1))) ∧ (r = md ∨ ltR (f (n - 1 - r)) (f r))) := ⟨.inr (by rw [show n - (c + 1) = q by have := Hq.out; omega, show c + 1 - 1 = c by omega, Hx.out, Hy.out]; exact hc), HP.out.2⟩
        clear hc
        go_wp2
        go_region_held3 (fun w' => w'.cell? ⟨B, q * 2, none⟩ = some (.int .i64 x1) ∧ w'.cell? ⟨B, q * 2 + 1, none⟩ = some (.int .i64 x2) ∧ w'.cell? ⟨B, c * 2, none⟩ = some (.int .i64 y1) ∧ w'.cell? ⟨B, c * 2 + 1, none⟩ = some (.int .i64 y2) ∧ RB w' B N t f ∧ Below B w w')
          (refine ⟨?_, ?_, ?_, ?_, ?_, ?_⟩ <;> first | assumption | (simp [*]; done))
          (first | (go_at_call 136; refine (compareRests_eq _ _ _ _ V _ HV).mono ?_; rintro e w2 ⟨rfl, b2⟩; have q0 : w2.cell? ⟨B, q * 2, none⟩ = some (.int .i64 x1) := keep_cell' b2 (by simp [*]); have q1 : w2.cell? ⟨B, q * 2 + 1, none⟩ = some (.int .i64 x2) := keep_cell' b2 (by simp [*]); have q2 : w2.cell? ⟨B, c * 2, none⟩ = some (.int .i64 y1) := keep_cell' b2 (by simp [*]); have q3 : w2.cell? ⟨B, c * 2 + 1, none⟩ = some (.int .i64 y2) := keep_cell' b2 (by simp [*]); have q4 : RB w2 B N t f := rb_on (by assumption) b2; have q5 : Below B w w2 := bel_rb (g := f) (N := N) (t := t) (by assumption) (by assumption) b2))
        go_wp2
        go_roundw
        case rel => exact ⟨c + 1, r, by go_num, rfl, by omega, by omega, hrh, HP2, q4, q5⟩
        case measure => simp [intOf]; omega
    · obtain rfl : s = r := by omega
      have lss : ¬ (s : Int) < (s : Int) := by omega
      obtain ⟨e, he⟩ : ∃ e : Nat, (e : Int) = (n : Int) - (s : Int) := ⟨n - s, by have := Hn.out; omega⟩
      have ee : (n : Int) - (s : Int) = (e : Int) := he.symm
      have HC : Hid (Cut a m b md s e f) := by
        have hn := Hn.out
        have c1 := HP.out.1
        have c2 := HP.out.2
        refine ⟨by omega, by omega, by omega, by omega, by omega, by omega, by omega, fun h1 h2 => ?_, fun h1 h2 => ?_⟩
        · rcases c1 with c | c
          · omega
          · rw [show n - s = e by omega] at c; exact ltR_total (HD.out _ _ (by omega) (by omega) (by omega)) c
        · rcases c2 with c | c
          · omega
          · rw [show n - 1 - s = e - 1 by omega] at c; exact c
      have HM : Hid (SortedOn ltR (rot s m e f) a s ∧ SortedOn ltR (rot s m e f) s md ∧ ∀ g1, PermOn a md (rot s m e f) g1 → SortedOn ltR g1 md e ∧ SortedOn ltR g1 e b) := sym_mid ham hmb hmdb HC.out HX.out HY.out
      have HDr : Hid (∀ i j, i < N → j < N → i ≠ j → (rot s m e f i).2 ≠ (rot s m e f j).2) := perm_dist (cut_perm HC.out) hb HD.out
      have hse : (s : Int) + (e : Int) = (md : Int) + (m : Int) := by have := HC.out.2.2.2.2.2.2.1; omega
      have hsm : (s : Int) ≤ m := by have := HC.out.2.1; omega
      have hme : (m : Int) ≤ e := by have := HC.out.2.2.1; omega
      have heb : (e : Int) ≤ b := by have := HC.out.2.2.2.1; omega
      have has : (a : Int) ≤ s := by have := HC.out.1; omega
      have hsd : (s : Int) ≤ md := by have := HC.out.2.2.2.2.1; omega
      have hde : (md : Int) ≤ e := by have := HC.out.2.2.2.2.2.1; omega
      have tok1 : True := trivial
      clear he HP
      by_cases z1 : (s : Int) < md ∧ (s : Int) < m
      · have z2 : (m : Int) < e := by omega
        have z3 : (md : Int) < e := by omega
        obtain ⟨z4, z5⟩ := z1
        by_cases z6 : (a : Int) < s
        · by_cases z7 : (e : Int) < b
          · go_wp2_with (first
              | (go_at_call 190; refine (rotate_at B N cap s m e t f _ _ hN (by omega) (by omega) (by have := HC.out.2.2.2.1; omega) HW.out.1).mono ?_; rintro ee w1 ⟨rfl, r1, r2⟩; have HW1 : Hid (RB w1 B N t (rot s m e f) ∧ Below B w w1) := ⟨r1, HW.out.2.trans r2⟩; clear r1 r2)
              | (go_at_call 186; clear tok1; refine (HI.out a s md _ _ (by omega) (by omega) (by omega) (by omega) HW1.out.1 HDr.out HM.out.1 HM.out.2.1).mono ?_; rintro ee w2 ⟨rfl, g1, r1, r2, r3, r4⟩; have HW2 : Hid (∃ g1, RB w2 B N t g1 ∧ PermOn a md (rot s m e f) g1 ∧ SortedOn ltR g1 a md ∧ Below B w w2) := ⟨g1, r1, r2, r3, HW1.out.2.trans r4⟩; clear r1 r2 r3 r4)
              | (go_at_call 186; obtain ⟨g1, k1, k2, k3, k4⟩ := HW2.out; refine (HI.out md e b g1 _ (by omega) (by omega) (by omega) (by omega) k1 (perm_dist k2 (by omega) HDr.out) (HM.out.2.2 g1 k2).1 (HM.out.2.2 g1 k2).2).mono ?_; rintro ee w3 ⟨rfl, g2, r1, r2, r3, r4⟩; have HF : Hid (Mg2 B N t a b f w w3) := ⟨g2, r1, (sym_fin ham hmb hmdb HC.out HX.out HY.out k2 k3 r2 r3).1, (sym_fin ham hmb hmdb HC.out HX.out HY.out k2 k3 r2 r3).2, k4.trans r4⟩; clear r1 r2 r3 r4 k1 k2 k3 k4))
            go_returns
            exact ⟨rfl, HF.out⟩
          · have HQ2 : Hid (e = md ∨ e = b) := .inr (by omega)
            go_wp2_with (first
              | (go_at_call 190; refine (rotate_at B N cap s m e t f _ _ hN (by omega) (by omega) (by have := HC.out.2.2.2.1; omega) HW.out.1).mono ?_; rintro ee w1 ⟨rfl, r1, r2⟩; have HW1 : Hid (RB w1 B N t (rot s m e f) ∧ Below B w w1) := ⟨r1, HW.out.2.trans r2⟩; clear r1 r2)
              | (go_at_call 186; clear tok1; refine (HI.out a s md _ _ (by omega) (by omega) (by omega) (by omega) HW1.out.1 HDr.out HM.out.1 HM.out.2.1).mono ?_; rintro ee w2 ⟨rfl, g1, r1, r2, r3, r4⟩; have HW2 : Hid (∃ g1, RB w2 B N t g1 ∧ PermOn a md (rot s m e f) g1 ∧ SortedOn ltR g1 a md ∧ Below B w w2) := ⟨g1, r1, r2, r3, HW1.out.2.trans r4⟩; clear r1 r2 r3 r4; have HF : Hid (Mg2 B N t a b f w w2) := (by obtain ⟨g1, k1, k2, k3, k4⟩ := HW2.out; have z := sym_fin ham hmb hmdb HC.out HX.out HY.out k2 k3 (PermOn.refl _ _ _) (sorted_l HQ2.out (HM.out.2.2 g1 k2).1 (HM.out.2.2 g1 k2).2); exact ⟨g1, k1, z.1, z.2, k4⟩)))
            go_returns
            exact ⟨rfl, HF.out⟩
        · have HQ : Hid (s = a ∨ s = md) := .inl (by omega)
          by_cases z7 : (e : Int) < b
          · exfalso; have := Hn.out; omega
          · have HQ2 : Hid (e = md ∨ e = b) := .inr (by omega)
            go_wp2_with (first
              | (go_at_call 190; refine (rotate_at B N cap s m e t f _ _ hN (by omega) (by omega) (by have := HC.out.2.2.2.1; omega) HW.out.1).mono ?_; rintro ee w1 ⟨rfl, r1, r2⟩; have HW1 : Hid (RB w1 B N t (rot s m e f) ∧ Below B w w1) := ⟨r1, HW.out.2.trans r2⟩; clear r1 r2; have HW2 : Hid (∃ g1, RB w1 B N t g1 ∧ PermOn a md (rot s m e f) g1 ∧ SortedOn ltR g1 a md ∧ Below B w w1) := ⟨_, HW1.out.1, PermOn.refl _ _ _, sorted_l HQ.out HM.out.1 HM.out.2.1, HW1.out.2⟩; have HF : Hid (Mg2 B N t a b f w w1) := (by obtain ⟨g1, k1, k2, k3, k4⟩ := HW2.out; have z := sym_fin ham hmb hmdb HC.out HX.out HY.out k2 k3 (PermOn.refl _ _ _) (sorted_l HQ2.out (HM.out.2.2 g1 k2).1 (HM.out.2.2 g1 k2).2); exact ⟨g1, k1, z.1, z.2, k4⟩)))
            go_returns
            exact ⟨rfl, HF.out⟩
      · have z4 : (s : Int) = md := by omega
        have z4n : ¬ (s : Int) < md := by omega
        have z5 : (s : Int) < m := by omega
        have z2 : ¬ (m : Int) < e := by omega
        have z3 : (md : Int) < e := by omega
        have z7 : (e : Int) < b := by omega
        have z6 : decide ((s : Int) < md) = false := decide_eq_false z4n
        have HE : Hid (rot s m e f = f) := by rw [show e = m by omega]; exact rot_same_r (by omega)
        have HQ : Hid (s = a ∨ s = md) := .inr (by omega)
        clear z1 tok1 z4
        by_cases z8 : (a : Int) < s
        · have HW1 : Hid (RB wr B N t (rot s m e f) ∧ Below B w wr) := by rw [HE.out]; exact HW.out
          have HW2 : Hid (∃ g1, RB wr B N t g1 ∧ PermOn a md (rot s m e f) g1 ∧ SortedOn ltR g1 a md ∧ Below B w wr) := ⟨_, HW1.out.1, PermOn.refl _ _ _, sorted_l HQ.out HM.out.1 HM.out.2.1, HW1.out.2⟩
          go_wp2_with (first
            | (go_at_call 186; obtain ⟨g1, k1, k2, k3, k4⟩ := HW2.out; refine (HI.out md e b g1 _ (by omega) (by omega) (by omega) (by omega) k1 (perm_dist k2 (by omega) HDr.out) (HM.out.2.2 g1 k2).1 (HM.out.2.2 g1 k2).2).mono ?_; rintro ee w3 ⟨rfl, g2, r1, r2, r3, r4⟩; have HF : Hid (Mg2 B N t a b f w w3) := ⟨g2, r1, (sym_fin ham hmb hmdb HC.out HX.out HY.out k2 k3 r2 r3).1, (sym_fin ham hmb hmdb HC.out HX.out HY.out k2 k3 r2 r3).2, k4.trans r4⟩; clear r1 r2 r3 r4 k1 k2 k3 k4))
          go_returns
          exact ⟨rfl, HF.out⟩
        · have HW1 : Hid (RB wr B N t (rot s m e f) ∧ Below B w wr) := by rw [HE.out]; exact HW.out
          have HW2 : Hid (∃ g1, RB wr B N t g1 ∧ PermOn a md (rot s m e f) g1 ∧ SortedOn ltR g1 a md ∧ Below B w wr) := ⟨_, HW1.out.1, PermOn.refl _ _ _, sorted_l HQ.out HM.out.1 HM.out.2.1, HW1.out.2⟩
          go_wp2_with (first
            | (go_at_call 186; obtain ⟨g1, k1, k2, k3, k4⟩ := HW2.out; refine (HI.out md e b g1 _ (by omega) (by omega) (by omega) (by omega) k1 (perm_dist k2 (by omega) HDr.out) (HM.out.2.2 g1 k2).1 (HM.out.2.2 g1 k2).2).mono ?_; rintro ee w3 ⟨rfl, g2, r1, r2, r3, r4⟩; have HF : Hid (Mg2 B N t a b f w w3) := ⟨g2, r1, (sym_fin ham hmb hmdb HC.out HX.out HY.out k2 k3 r2 r3).1, (sym_fin ham hmb hmdb HC.out HX.out HY.out k2 k3 r2 r3).2, k4.trans r4⟩; clear r1 r2 r3 r4 k1 k2 k3 k4))
          go_returns
          exact ⟨rfl, HF.out⟩

set_option maxRecDepth 20000 in
set_option maxHeartbeats 8000000 in
theorem sym_small (B N cap d a m b : Nat) (t : TypeId) (f : Nat → Int × Int) (w : World) (hN : (N : Int) ≤ 1048576) (ih : SymOk B N cap t d) (hd : b - a ≤ d + 1) (ham2 : a + 1 < m) (hmb2 : m + 1 < b) (hb : b ≤ N) (H : RB w B N t f) (D : ∀ i j, i < N → j < N → i ≠ j → (f i).2 ≠ (f j).2) (X : SortedOn ltR f a m) (Y : SortedOn ltR f m b) (hmd : m ≤ (a + b) / 2) :
    Calls Tryd.prog 186 #[.slice (some ⟨B, 0, none⟩) N cap, .int .i64 a, .int .i64 m, .int .i64 b, .func (Fn.func 136) #[] #[]] w fun e w' => e = .returned (.tuple #[]) ∧ Mg2 B N t a b f w w' := by
  have HR : Hid (RB w B N t f) := H
  have HD : Hid (∀ i j, i < N → j < N → i ≠ j → (f i).2 ≠ (f j).2) := D
  have HX : Hid (SortedOn ltR f a m) := X
  have HY : Hid (SortedOn ltR f m b) := Y
  have HI : Hid (SymOk B N cap t d) := ih
  have ham : a < m := by omega
  have hmb : m < b := by omega
  obtain ⟨md, hmid⟩ : ∃ md : Nat, (a + b) / 2 = md := ⟨_, rfl⟩
  have hmdb : a ≤ md ∧ md ≤ b := by omega
  have emd : ((a : Int) + (b : Int)) / 2 = (md : Int) := by omega
  obtain ⟨n, hn⟩ : ∃ n : Nat, n = md + m := ⟨_, rfl⟩
  obtain ⟨p, hp⟩ : ∃ p : Nat, p = n - 1 := ⟨_, rfl⟩
  have en : (md : Int) + (m : Int) = (n : Int) := by omega
  have ep : (n : Int) - 1 = (p : Int) := by omega
  have Hn : Hid (n = md + m ∧ 2 * md ≤ a + b ∧ a + b ≤ 2 * md + 1) := ⟨hn, by omega, by omega⟩
  have Hp : Hid (p = n - 1) := hp
  have ia : (a : Int) ≤ 1048576 := by omega
  have im : (m : Int) ≤ 1048576 := by omega
  have ib : (b : Int) ≤ 1048576 := by omega
  have imd : (md : Int) ≤ 1048576 := by omega
  have lamd : (a : Int) < md := by omega
  have lmdb : (md : Int) < b := by omega
  have em0 : ((m : Int) - (a : Int) == 1) = false := by simp; omega
  have em1 : ((b : Int) - (m : Int) == 1) = false := by simp; omega
  have lbm : ¬ (md : Int) < m := by omega
  clear H D X Y ih hmid hn hp
  go_enter Tryd.func186, Tryd.ntmps186
  go_wp2
  go_loopw [20, 21] (fun u v wr => ∃ s r : Nat, u = .int .i64 (s : Int) ∧ v = .int .i64 (r : Int) ∧ a ≤ s ∧ s ≤ r ∧ r ≤ m ∧ Hid ((s = a ∨ ¬ ltR (f (n - s)) (f (s - 1))) ∧ (r = m ∨ ltR (f (n - 1 - r)) (f r))) ∧ Hid (RB wr B N t f ∧ Below B w wr)) (fun u v _ => (intOf v).toNat - (intOf u).toNat)
  case atStart => exact ⟨a, m, rfl, rfl, Nat.le_refl _, by have := Hn.out; omega, Nat.le_refl _, ⟨.inl rfl, .inl rfl⟩, HR.out, Below.refl _ _⟩
  case round =>
    obtain ⟨s, r, rfl, rfl, hls, hsr, hrh, HP, HW⟩ := hrel
    by_cases hlt : s < r
    · obtain ⟨c, hc⟩ : ∃ c : Nat, (s + r) / 2 = c := ⟨_, rfl⟩
      have ec : ((s : Int) + (r : Int)) / 2 = (c : Int) := by omega
      have c1 : s ≤ c := by omega
      have c2 : c < r := by omega
      obtain ⟨q, hq⟩ : ∃ q : Nat, q = p - c := ⟨_, rfl⟩
      have hqN : q < N := by have := Hn.out; have := Hp.out; omega
      have eq : (p : Int) - (c : Int) = (q : Int) := by have := Hn.out; have := Hp.out; omega
      have hwr : IntKind.i64.wrap ((p : Int) - (c : Int)) = (q : Int) := by rw [IntWalk.i64_in _ ⟨by omega, by omega⟩]; exact eq
      have Hq : Hid (q = n - 1 - c) := by have := Hn.out; have := Hp.out; show _ = _; omega
      have lcN : (c : Int) < (N : Int) := by have := Hn.out; omega
      have lqN : (q : Int) < (N : Int) := by omega
      have lsr : (s : Int) < (r : Int) := by omega
      have lrN : (r : Int) ≤ (N : Int) := by have := Hn.out; omega
      have cN : c < N := by omega
      clear hc hq eq
      obtain ⟨hR, hB⟩ := HW.out
      obtain ⟨d1, d2⟩ := hR.cell (j := q) hqN
      obtain ⟨d3, d4⟩ := hR.cell (j := c) cN
      obtain ⟨x1, x2, hx⟩ : ∃ x1 x2, f q = (x1, x2) := ⟨_, _, rfl⟩
      obtain ⟨y1, y2, hy⟩ : ∃ y1 y2, f c = (y1, y2) := ⟨_, _, rfl⟩
      rw [hx] at d1 d2
      rw [hy] at d3 d4
      simp only at d1 d2 d3 d4
      have hRd : RB wr.drew B N t f := hR
      have hBd : Below B w wr.drew := hB.drew
      have Hx : Hid (f q = (x1, x2)) := hx
      have Hy : Hid (f c = (y1, y2)) := hy
      clear hx hy hR hB HW
      by_cases hc : ltR (x1, x2) (y1, y2)
      · obtain ⟨V, hV, HV⟩ : ∃ V, V < 0 ∧ Hid (crV (x1, x2) (y1, y2) = V) := ⟨-1, by omega, crV_lt hc⟩
        have dV : decide (V < 0) = true := decide_eq_true hV
        have HP2 : Hid ((s = a ∨ ¬ ltR (f (n - s)) (f (s - 1))) ∧ (c = m ∨ ltR (f (n - 1 - c)) (f c))) := ⟨HP.out.1, .inr (by rw [← Hq.out, Hx.out, Hy.out]; exact hc)⟩
        clear hc
        go_wp2
        go_region_held3 (fun w' => w'.cell? ⟨B, q * 2, none⟩ = some (.int .i64 x1) ∧ w'.cell? ⟨B, q * 2 + 1, none⟩ = some (.int .i64 x2) ∧ w'.cell? ⟨B, c * 2, none⟩ = some (.int .i64 y1) ∧ w'.cell? ⟨B, c * 2 + 1, none⟩ = some (.int .i64 y2) ∧ RB w' B N t f ∧ Below B w w')
          (refine ⟨?_, ?_, ?_, ?_, ?_, ?_⟩ <;> first | assumption | (simp [*]; done))
          (first | (go_at_call 136; refine (compareRests_eq _ _ _ _ V _ HV).mono ?_; rintro e w2 ⟨rfl, b2⟩; have q0 : w2.cell? ⟨B, q * 2, none⟩ = some (.int .i64 x1) := keep_cell' b2 (by simp [*]); have q1 : w2.cell? ⟨B, q * 2 + 1, none⟩ = some (.int .i64 x2) := keep_cell' b2 (by simp [*]); have q2 : w2.cell? ⟨B, c * 2, none⟩ = some (.int .i64 y1) := keep_cell' b2 (by simp [*]); have q3 : w2.cell? ⟨B, c * 2 + 1, none⟩ = some (.int .i64 y2) := keep_cell' b2 (by simp [*]); have q4 : RB w2 B N t f := rb_on (by assumption) b2; have q5 : Below B w w2 := bel_rb (g := f) (N := N) (t := t) (by assumption) (by assumption) b2))
        go_wp2
        go_roundw
        case rel => exact ⟨s, c, rfl, by go_num, hls, c1, by omega, HP2, q4, q5⟩
        case measure => simp [intOf]; omega
      · obtain ⟨V, hV, HV⟩ : ∃ V, 0 ≤ V ∧ Hid (crV (x1, x2) (y1, y2) = V) := by
          rcases crV_ge hc with e | e
          · exact ⟨0, by omega, e⟩
          · exact ⟨1, by omega, e⟩
        have dV : decide (V < 0) = false := decide_eq_false (by omega)
        have HP2 : Hid ((c + 1 = a ∨ ¬ ltR (f (n - (c + 1))) (f (c + 1 - 1))) ∧ (r = m ∨ ltR (f (n - 1 - r)) (f r))) := ⟨.inr (by rw [show n - (c + 1) = q by have := Hq.out; omega, show c + 1 - 1 = c by omega, Hx.out, Hy.out]; exact hc), HP.out.2⟩
        clear hc
        go_wp2
        go_region_held3 (fun w' => w'.cell? ⟨B, q * 2, none⟩ = some (.int .i64 x1) ∧ w'.cell? ⟨B, q * 2 + 1, none⟩ = some (.int .i64 x2) ∧ w'.cell? ⟨B, c * 2, none⟩ = some (.int .i64 y1) ∧ w'.cell? ⟨B, c * 2 + 1, none⟩ = some (.int .i64 y2) ∧ RB w' B N t f ∧ Below B w w')
          (refine ⟨?_, ?_, ?_, ?_, ?_, ?_⟩ <;> first | assumption | (simp [*]; done))
          (first | (go_at_call 136; refine (compareRests_eq _ _ _ _ V _ HV).mono ?_; rintro e w2 ⟨rfl, b2⟩; have q0 : w2.cell? ⟨B, q * 2, none⟩ = some (.int .i64 x1) := keep_cell' b2 (by simp [*]); have q1 : w2.cell? ⟨B, q * 2 + 1, none⟩ = some (.int .i64 x2) := keep_cell' b2 (by simp [*]); have q2 : w2.cell? ⟨B, c * 2, none⟩ = some (.int .i64 y1) := keep_cell' b2 (by simp [*]); have q3 : w2.cell? ⟨B, c * 2 + 1, none⟩ = some (.int .i64 y2) := keep_cell' b2 (by simp [*]); have q4 : RB w2 B N t f := rb_on (by assumption) b2; have q5 : Below B w w2 := bel_rb (g := f) (N := N) (t := t) (by assumption) (by assumption) b2))
        go_wp2
        go_roundw
        case rel => exact ⟨c + 1, r, by go_num, rfl, by omega, by omega, hrh, HP2, q4, q5⟩
        case measure => simp [intOf]; omega
    · obtain rfl : s = r := by omega
      have lss : ¬ (s : Int) < (s : Int) := by omega
      obtain ⟨e, he⟩ : ∃ e : Nat, (e : Int) = (n : Int) - (s : Int) := ⟨n - s, by have := Hn.out; omega⟩
      have ee : (n : Int) - (s : Int) = (e : Int) := he.symm
      have HC : Hid (Cut a m b md s e f) := by
        have hn := Hn.out
        have c1 := HP.out.1
        have c2 := HP.out.2
        refine ⟨by omega, by omega, by omega, by omega, by omega, by omega, by omega, fun h1 h2 => ?_, fun h1 h2 => ?_⟩
        · rcases c1 with c | c
          · omega
          · rw [show n - s = e by omega] at c; exact ltR_total (HD.out _ _ (by omega) (by omega) (by omega)) c
        · rcases c2 with c | c
          · omega
          · rw [show n - 1 - s = e - 1 by omega] at c; exact c
      have HM : Hid (SortedOn ltR (rot s m e f) a s ∧ SortedOn ltR (rot s m e f) s md ∧ ∀ g1, PermOn a md (rot s m e f) g1 → SortedOn ltR g1 md e ∧ SortedOn ltR g1 e b) := sym_mid ham hmb hmdb HC.out HX.out HY.out
      have HDr : Hid (∀ i j, i < N → j < N → i ≠ j → (rot s m e f i).2 ≠ (rot s m e f j).2) := perm_dist (cut_perm HC.out) hb HD.out
      have hse : (s : Int) + (e : Int) = (md : Int) + (m : Int) := by have := HC.out.2.2.2.2.2.2.1; omega
      have hsm : (s : Int) ≤ m := by have := HC.out.2.1; omega
      have hme : (m : Int) ≤ e := by have := HC.out.2.2.1; omega
      have heb : (e : Int) ≤ b := by have := HC.out.2.2.2.1; omega
      have has : (a : Int) ≤ s := by have := HC.out.1; omega
      have hsd : (s : Int) ≤ md := by have := HC.out.2.2.2.2.1; omega
      have hde : (md : Int) ≤ e := by have := HC.out.2.2.2.2.2.1; omega
      have tok1 : True := trivial
      clear he HP
      by_cases z1 : (s : Int) < md ∧ (s : Int) < m
      · have z2 : (m : Int) < e := by omega
        have z3 : (md : Int) < e := by omega
        obtain ⟨z4, z5⟩ := z1
        by_cases z6 : (a : Int) < s
        · by_cases z7 : (e : Int) < b
          · go_wp2_with (first
              | (go_at_call 190; refine (rotate_at B N cap s m e t f _ _ hN (by omega) (by omega) (by have := HC.out.2.2.2.1; omega) HW.out.1).mono ?_; rintro ee w1 ⟨rfl, r1, r2⟩; have HW1 : Hid (RB w1 B N t (rot s m e f) ∧ Below B w w1) := ⟨r1, HW.out.2.trans r2⟩; clear r1 r2)
              | (go_at_call 186; clear tok1; refine (HI.out a s md _ _ (by omega) (by omega) (by omega) (by omega) HW1.out.1 HDr.out HM.out.1 HM.out.2.1).mono ?_; rintro ee w2 ⟨rfl, g1, r1, r2, r3, r4⟩; have HW2 : Hid (∃ g1, RB w2 B N t g1 ∧ PermOn a md (rot s m e f) g1 ∧ SortedOn ltR g1 a md ∧ Below B w w2) := ⟨g1, r1, r2, r3, HW1.out.2.trans r4⟩; clear r1 r2 r3 r4)
              | (go_at_call 186; obtain ⟨g1, k1, k2, k3, k4⟩ := HW2.out; refine (HI.out md e b g1 _ (by omega) (by omega) (by omega) (by omega) k1 (perm_dist k2 (by omega) HDr.out) (HM.out.2.2 g1 k2).1 (HM.out.2.2 g1 k2).2).mono ?_; rintro ee w3 ⟨rfl, g2, r1, r2, r3, r4⟩; have HF : Hid (Mg2 B N t a b f w w3) := ⟨g2, r1, (sym_fin ham hmb hmdb HC.out HX.out HY.out k2 k3 r2 r3).1, (sym_fin ham hmb hmdb HC.out HX.out HY.out k2 k3 r2 r3).2, k4.trans r4⟩; clear r1 r2 r3 r4 k1 k2 k3 k4))
            go_returns
            exact ⟨rfl, HF.out⟩
          · exfalso; have := Hn.out; omega
        · have HQ : Hid (s = a ∨ s = md) := .inl (by omega)
          by_cases z7 : (e : Int) < b
          · clear tok1
            go_wp2_with (first
              | (go_at_call 190; refine (rotate_at B N cap s m e t f _ _ hN (by omega) (by omega) (by have := HC.out.2.2.2.1; omega) HW.out.1).mono ?_; rintro ee w1 ⟨rfl, r1, r2⟩; have HW1 : Hid (RB w1 B N t (rot s m e f) ∧ Below B w w1) := ⟨r1, HW.out.2.trans r2⟩; clear r1 r2; have HW2 : Hid (∃ g1, RB w1 B N t g1 ∧ PermOn a md (rot s m e f) g1 ∧ SortedOn ltR g1 a md ∧ Below B w w1) := ⟨_, HW1.out.1, PermOn.refl _ _ _, sorted_l HQ.out HM.out.1 HM.out.2.1, HW1.out.2⟩)
              | (go_at_call 186; obtain ⟨g1, k1, k2, k3, k4⟩ := HW2.out; refine (HI.out md e b g1 _ (by omega) (by omega) (by omega) (by omega) k1 (perm_dist k2 (by omega) HDr.out) (HM.out.2.2 g1 k2).1 (HM.out.2.2 g1 k2).2).mono ?_; rintro ee w3 ⟨rfl, g2, r1, r2, r3, r4⟩; have HF : Hid (Mg2 B N t a b f w w3) := ⟨g2, r1, (sym_fin ham hmb hmdb HC.out HX.out HY.out k2 k3 r2 r3).1, (sym_fin ham hmb hmdb HC.out HX.out HY.out k2 k3 r2 r3).2, k4.trans r4⟩; clear r1 r2 r3 r4 k1 k2 k3 k4))
            go_returns
            exact ⟨rfl, HF.out⟩
          · have HQ2 : Hid (e = md ∨ e = b) := .inr (by omega)
            go_wp2_with (first
              | (go_at_call 190; refine (rotate_at B N cap s m e t f _ _ hN (by omega) (by omega) (by have := HC.out.2.2.2.1; omega) HW.out.1).mono ?_; rintro ee w1 ⟨rfl, r1, r2⟩; have HW1 : Hid (RB w1 B N t (rot s m e f) ∧ Below B w w1) := ⟨r1, HW.out.2.trans r2⟩; clear r1 r2; have HW2 : Hid (∃ g1, RB w1 B N t g1 ∧ PermOn a md (rot s m e f) g1 ∧ SortedOn ltR g1 a md ∧ Below B w w1) := ⟨_, HW1.out.1, PermOn.refl _ _ _, sorted_l HQ.out HM.out.1 HM.out.2.1, HW1.out.2⟩; have HF : Hid (Mg2 B N t a b f w w1) := (by obtain ⟨g1, k1, k2, k3, k4⟩ := HW2.out; have z := sym_fin ham hmb hmdb HC.out HX.out HY.out k2 k3 (PermOn.refl _ _ _) (sorted_l HQ2.out (HM.out.2.2 g1 k2).1 (HM.out.2.2 g1 k2).2); exact ⟨g1, k1, z.1, z.2, k4⟩)))
            go_returns
            exact ⟨rfl, HF.out⟩
      · have z5 : ¬ (s : Int) < m := by omega
        have z3 : ¬ (md : Int) < e := by omega
        have z6 : (a : Int) < s := by omega
        have HE : Hid (rot s m e f = f) := by rw [show s = m by omega]; exact rot_same_l (by omega)
        have HQ2 : Hid (e = md ∨ e = b) := .inl (by omega)
        clear z1
        by_cases z7 : (s : Int) < md
        · have HW1 : Hid (RB wr B N t (rot s m e f) ∧ Below B w wr) := by rw [HE.out]; exact HW.out
          go_wp2_with (first
            | (go_at_call 186; clear tok1; refine (HI.out a s md _ _ (by omega) (by omega) (by omega) (by omega) HW1.out.1 HDr.out HM.out.1 HM.out.2.1).mono ?_; rintro ee w2 ⟨rfl, g1, r1, r2, r3, r4⟩; have HW2 : Hid (∃ g1, RB w2 B N t g1 ∧ PermOn a md (rot s m e f) g1 ∧ SortedOn ltR g1 a md ∧ Below B w w2) := ⟨g1, r1, r2, r3, HW1.out.2.trans r4⟩; clear r1 r2 r3 r4; have HF : Hid (Mg2 B N t a b f w w2) := (by obtain ⟨g1, k1, k2, k3, k4⟩ := HW2.out; have z := sym_fin ham hmb hmdb HC.out HX.out HY.out k2 k3 (PermOn.refl _ _ _) (sorted_l HQ2.out (HM.out.2.2 g1 k2).1 (HM.out.2.2 g1 k2).2); exact ⟨g1, k1, z.1, z.2, k4⟩)))
          go_returns
          exact ⟨rfl, HF.out⟩
        · have HQ : Hid (s = a ∨ s = md) := .inr (by omega)
          have HW1 : Hid (RB wr B N t (rot s m e f) ∧ Below B w wr) := by rw [HE.out]; exact HW.out
          have HW2 : Hid (∃ g1, RB wr B N t g1 ∧ PermOn a md (rot s m e f) g1 ∧ SortedOn ltR g1 a md ∧ Below B w wr) := ⟨_, HW1.out.1, PermOn.refl _ _ _, sorted_l HQ.out HM.out.1 HM.out.2.1, HW1.out.2⟩
          have HF : Hid (Mg2 B N t a b f w wr) := (by obtain ⟨g1, k1, k2, k3, k4⟩ := HW2.out; have z := sym_fin ham hmb hmdb HC.out HX.out HY.out k2 k3 (PermOn.refl _ _ _) (sorted_l HQ2.out (HM.out.2.2 g1 k2).1 (HM.out.2.2 g1 k2).2); exact ⟨g1, k1, z.1, z.2, k4⟩)
          go_wp2
          go_returns
          exact ⟨rfl, HF.out⟩

theorem symMerge_any (B N cap : Nat) (t : TypeId) (hN : (N : Int) ≤ 1048576) : ∀ d, SymOk B N cap t d
  | 0 => fun a m b f w hd h1 h2 => by omega
  | d + 1 => fun a m b f w hd h1 h2 hb H D X Y => by
    by_cases q1 : m = a + 1
    · subst q1; exact sym_left B N cap a b t f w hN h2 hb H D Y
    · by_cases q2 : b = m + 1
      · subst q2; exact sym_right B N cap a m t f w hN (by omega) hb H D X
      · by_cases q3 : (a + b) / 2 < m
        · exact sym_big B N cap d a m b t f w hN (symMerge_any B N cap t hN d) hd (by omega) (by omega) hb H D X Y q3
        · exact sym_small B N cap d a m b t f w hN (symMerge_any B N cap t hN d) hd (by omega) (by omega) hb H D X Y (by omega)
end Go.Proofs.YtgnhpjlfdkpaiaaDoor.Sh

namespace Go.Proofs.YtgnhpjlfdkpaiaaDoor.Sh
open Go.ChangeShapes Go.WideShapes Go.ChangeAt Go.RowKit
set_option linter.unusedVariables false
set_option linter.unusedSimpArgs false

/-- From a on, runs of s places are sorted, each by itself. -/
inductive From (s N : Nat) (g : Nat → Int × Int) : Nat → Prop
  | last (a : Nat) : SortedOn ltR g a N → N ≤ a + s → From s N g a
  | cons (a : Nat) : SortedOn ltR g a (a + s) → From s N g (a + s) → From s N g a
section
variable {s N a : Nat} {g h : Nat → Int × Int}
theorem From.congr (x : From s N g a) (e : ∀ i, a ≤ i → h i = g i) : From s N h a := by
  induction x with
  | last a q1 q2 => exact .last a (q1.congr (fun i h1 _ => e i h1)) q2
  | cons a q1 q2 ih => exact .cons a (q1.congr (fun i h1 _ => e i h1)) (ih (fun i hi => e i (by omega)))
theorem From.one (x : From s N g a) (h : N ≤ a + s) : SortedOn ltR g a N := by
  cases x with
  | last _ q1 q2 => exact q1
  | cons _ q1 q2 => exact q1.sub (Nat.le_refl _) h
theorem From.half (x : From s N g a) (h1 : a + s < N) (h2 : N ≤ a + 2 * s) : SortedOn ltR g a (a + s) ∧ SortedOn ltR g (a + s) N := by
  cases x with
  | last _ q1 q2 => omega
  | cons _ q1 q2 => exact ⟨q1, q2.one (by omega)⟩
theorem From.two (x : From s N g a) (h1 : a + 2 * s ≤ N) (hs : 0 < s) : SortedOn ltR g a (a + s) ∧ SortedOn ltR g (a + s) (a + 2 * s) ∧ From s N g (a + 2 * s) := by
  cases x with
  | last _ q1 q2 => omega
  | cons _ q1 q2 =>
    cases q2 with
    | last _ r1 r2 =>
      obtain rfl : N = a + 2 * s := by omega
      exact ⟨q1, r1, .last _ (fun i j _ _ _ => by omega) (by omega)⟩
    | cons _ r1 r2 => rw [show a + s + s = a + 2 * s by omega] at r1 r2; exact ⟨q1, r1, r2⟩

/-- All up to a is laid: with the rest from a on it is so from the start on. -/
def Upto (s N : Nat) (g : Nat → Int × Int) (a : Nat) : Prop := ∀ h, (∀ i, i < a → h i = g i) → From s N h a → From s N h 0
theorem Upto.zero : Upto s N g 0 := fun h _ x => x
theorem Upto.step (x : Upto s N g a) (e : ∀ i, i < a → h i = g i) (q : SortedOn ltR h a (a + s)) : Upto s N h (a + s) := fun k e1 y =>
  x k (fun i hi => (e1 i (by omega)).trans (e i hi)) (.cons a (q.congr (fun i _ h2 => e1 i h2)) y)
theorem Upto.done (x : Upto s N g a) (e : ∀ i, i < a → h i = g i) (q : SortedOn ltR h a N) (hs : N ≤ a + s) : From s N h 0 := x h e (.last a q hs)
theorem perm_lo {b : Nat} (x : PermOn a b g h) : ∀ i, i < a → h i = g i := fun i hi => x.1 i (by omega)
theorem perm_hi {b : Nat} (x : PermOn a b g h) : ∀ i, b ≤ i → h i = g i := fun i hi => x.1 i (by omega)
end

/-- What the sort is to keep: the row is rearranged. -/
def Kept (B N : Nat) (t : TypeId) (f : Nat → Int × Int) (w w' : World) (g : Nat → Int × Int) : Prop := RB w' B N t g ∧ PermOn 0 N f g ∧ Below B w w'

theorem ins_at (B N cap a b : Nat) (t : TypeId) (f g : Nat → Int × Int) (w W : World) (hN : (N : Int) ≤ 1048576) (ha : a ≤ b) (hb : b ≤ N) (K : Kept B N t f w W g) (D : ∀ i j, i < N → j < N → i ≠ j → (f i).2 ≠ (f j).2) :
    Calls Tryd.prog 185 #[.slice (some ⟨B, 0, none⟩) N cap, .int .i64 a, .int .i64 b, .func (Fn.func 136) #[] #[]] W fun e w' => e = .returned (.tuple #[]) ∧ ∃ h, Kept B N t f w w' h ∧ PermOn a b g h ∧ SortedOn ltR h a b := by
  refine (insertion_any B N cap a b t g W hN ha hb K.1 (perm_dist K.2.1 (Nat.le_refl _) D)).mono ?_
  rintro e w' ⟨rfl, h, r1, r2, r3, r4⟩
  exact ⟨rfl, h, ⟨r1, K.2.1.trans (r2.mono (Nat.zero_le _) hb), K.2.2.trans r4⟩, r2, r3⟩

theorem sym_at (B N cap a m b : Nat) (t : TypeId) (f g : Nat → Int × Int) (w W : World) (x : Int) (hx : x = (m : Int)) (hN : (N : Int) ≤ 1048576) (ha : a < m) (hm : m < b) (hb : b ≤ N) (K : Kept B N t f w W g) (D : ∀ i j, i < N → j < N → i ≠ j → (f i).2 ≠ (f j).2) (X : SortedOn ltR g a m) (Y : SortedOn ltR g m b) :
    Calls Tryd.prog 186 #[.slice (some ⟨B, 0, none⟩) N cap, .int .i64 a, .int .i64 x, .int .i64 b, .func (Fn.func 136) #[] #[]] W fun e w' => e = .returned (.tuple #[]) ∧ ∃ h, Kept B N t f w w' h ∧ PermOn a b g h ∧ SortedOn ltR h a b := by
  subst hx
  refine (symMerge_any B N cap t hN (b - a) a m b g W (Nat.le_refl _) ha hm hb K.1 (perm_dist K.2.1 (Nat.le_refl _) D) X Y).mono ?_
  rintro e w' ⟨rfl, h, r1, r2, r3, r4⟩
  exact ⟨rfl, h, ⟨r1, K.2.1.trans (r2.mono (Nat.zero_le _) hb), K.2.2.trans r4⟩, r2, r3⟩

set_option maxRecDepth 20000 in
set_option maxHeartbeats 8000000 in
theorem stable_any (B N cap : Nat) (t : TypeId) (f : Nat → Int × Int) (w : World) (hN : (N : Int) ≤ 1048576) (H : RB w B N t f) (D : ∀ i j, i < N → j < N → i ≠ j → (f i).2 ≠ (f j).2) :
    Calls Tryd.prog 176 #[.slice (some ⟨B, 0, none⟩) N cap, .int .i64 N, .func (Fn.func 136) #[] #[]] w fun e w' => e = .returned (.tuple #[]) ∧ ∃ g, Kept B N t f w w' g ∧ SortedOn ltR g 0 N := by
  have HR : Hid (RB w B N t f) := H
  have HD : Hid (∀ i j, i < N → j < N → i ≠ j → (f i).2 ≠ (f j).2) := D
  clear H D
  go_enter Tryd.func176, Tryd.ntmps176
  go_wp2
  go_loopw [7, 8] (fun u v wr => ∃ a b : Nat, u = .int .i64 (a : Int) ∧ v = .int .i64 (b : Int) ∧ b = a + 20 ∧ a ≤ N ∧ Hid (∃ g, Kept B N t f w wr g ∧ Upto 20 N g a)) (fun u v _ => N - (intOf u).toNat)
  case atStart => exact ⟨0, 20, rfl, rfl, rfl, Nat.zero_le _, f, ⟨HR.out, PermOn.refl _ _ _, Below.refl _ _⟩, Upto.zero⟩
  case round =>
    obtain ⟨a, b, rfl, rfl, hba, haN, HP⟩ := hrel
    by_cases hlt : b ≤ N
    · have l1 : (b : Int) ≤ (N : Int) := by omega
      have Hb : Hid (b = a + 20) := hba
      obtain ⟨g, hK, hU⟩ := HP.out
      have HK : Hid (Kept B N t f w wr g) := hK
      have HU : Hid (Upto 20 N g a) := hU
      clear hba HP hK hU
      go_wp2_with (go_at_call 185; refine (ins_at B N cap a b t f g w wr hN (by have := Hb.out; omega) hlt HK.out HD.out).mono ?_; rintro ee w2 ⟨rfl, h, r1, r2, r3⟩; have HN2 : Hid (∃ g, Kept B N t f w w2 g ∧ Upto 20 N g b) := ⟨h, r1, by have e := Hb.out; rw [e] at r2 r3 ⊢; exact HU.out.step (perm_lo r2) r3⟩; clear r1 r2 r3)
      go_roundw
      case rel => exact ⟨b, b + 20, rfl, by go_num, rfl, hlt, HN2⟩
      case measure => have := Hb.out; simp [intOf]; omega
    · have l1 : ¬ (b : Int) ≤ (N : Int) := by omega
      have Hb : Hid (b = a + 20) := hba
      obtain ⟨g, hK, hU⟩ := HP.out
      have HK : Hid (Kept B N t f w wr g) := hK
      have HU : Hid (Upto 20 N g a) := hU
      clear hba HP hK hU
      go_wp2_with (go_at_call 185; refine (ins_at B N cap a N t f g w wr hN haN (Nat.le_refl _) HK.out HD.out).mono ?_; rintro ee w2 ⟨rfl, h, r1, r2, r3⟩; have HN2 : Hid (∃ g, Kept B N t f w w2 g ∧ From 20 N g 0) := ⟨h, r1, HU.out.done (perm_lo r2) r3 (by have := Hb.out; omega)⟩; clear r1 r2 r3)
      clear HK HU
      rename_i wr0
      go_loopw [6] (fun u wr => ∃ s : Nat, u = .int .i64 (s : Int) ∧ 0 < s ∧ (s = 20 ∨ s ≤ 2 * N) ∧ Hid (∃ g, Kept B N t f w wr g ∧ From s N g 0)) (fun u _ => N - (intOf u).toNat)
      case atStart => exact ⟨20, rfl, by omega, .inl rfl, HN2⟩
      case round =>
        clear HN2
        obtain ⟨s, rfl, hs0, hsN, HP⟩ := hrel
        have is : (s : Int) ≤ 2097152 := by omega
        by_cases hsl : s < N
        · have l2 : (s : Int) < (N : Int) := by omega
          obtain ⟨d, hd⟩ : ∃ d : Nat, d = 2 * s := ⟨_, rfl⟩
          have ed : 2 * (s : Int) = (d : Int) := by omega
          have ed2 : (s : Int) * 2 = (d : Int) := by omega
          have Hd : Hid (d = 2 * s) := hd
          have id : (d : Int) ≤ 2097152 := by omega
          clear hd
          go_wp2
          go_loopw [7, 8] (fun u v wq => ∃ a b : Nat, u = .int .i64 (a : Int) ∧ v = .int .i64 (b : Int) ∧ b = a + d ∧ a ≤ N ∧ Hid (∃ g, Kept B N t f w wq g ∧ Upto d N g a ∧ From s N g a)) (fun u v _ => N - (intOf u).toNat)
          case atStart =>
            obtain ⟨g, k1, k2⟩ := HP.out
            exact ⟨0, d, rfl, rfl, by omega, Nat.zero_le _, g, k1, Upto.zero, k2⟩
          case round =>
            clear HP
            obtain ⟨a', b', rfl, rfl, hba', haN', HP⟩ := hrel
            have Hb' : Hid (b' = a' + d) := hba'
            have hd := Hd.out
            obtain ⟨g', hK, hU, hF⟩ := HP.out
            have ia' : (a' : Int) ≤ (N : Int) := by omega
            by_cases hl : b' ≤ N
            · have l3 : (b' : Int) ≤ (N : Int) := by omega
              have HK : Hid (Kept B N t f w wr g') := hK
              have HU : Hid (Upto d N g' a') := hU
              have HF : Hid (SortedOn ltR g' a' (a' + s) ∧ SortedOn ltR g' (a' + s) b' ∧ From s N g' b') := by
                have := hF.two (by omega) hs0
                rw [show a' + 2 * s = b' by omega] at this; exact this
              have q1 : a' + s < b' := by omega
              clear hd
              clear hba' HP hK hU hF
              go_wp2_with (go_at_call 186; refine (sym_at B N cap a' (a' + s) b' t f g' w wr _ (by omega) hN (by omega) q1 hl HK.out HD.out HF.out.1 HF.out.2.1).mono ?_; rintro ee w2 ⟨rfl, h, r1, r2, r3⟩; have HN2 : Hid (∃ g, Kept B N t f w w2 g ∧ Upto d N g b' ∧ From s N g b') := ⟨h, r1, by have e := Hb'.out; rw [e] at r2 r3 ⊢; exact HU.out.step (perm_lo r2) r3, HF.out.2.2.congr (perm_hi r2)⟩; clear r1 r2 r3)
              go_roundw
              case rel => exact ⟨b', b' + d, rfl, by go_num, rfl, hl, HN2⟩
              case measure => have := Hb'.out; have := Hd.out; simp [intOf]; omega
            · have l3 : ¬ (b' : Int) ≤ (N : Int) := by omega
              by_cases hm : a' + s < N
              · have l4 : (a' : Int) + (s : Int) < (N : Int) := by omega
                have HK : Hid (Kept B N t f w wr g') := hK
                have HU : Hid (Upto d N g' a') := hU
                have HF : Hid (SortedOn ltR g' a' (a' + s) ∧ SortedOn ltR g' (a' + s) N) := hF.half hm (by omega)
                have hbd : Hid (N ≤ a' + d) := by show _ ≤ _; omega
                clear hd
                clear hba' HP hK hU hF
                go_wp2_with (go_at_call 186; refine (sym_at B N cap a' (a' + s) N t f g' w wr _ (by omega) hN (by omega) hm (Nat.le_refl _) HK.out HD.out HF.out.1 HF.out.2).mono ?_; rintro ee w2 ⟨rfl, h, r1, r2, r3⟩; have HN2 : Hid (∃ g, Kept B N t f w w2 g ∧ From d N g 0) := ⟨h, r1, HU.out.done (perm_lo r2) r3 hbd.out⟩; clear r1 r2 r3)
                go_roundw
                case rel => exact ⟨d, by go_num, by have := Hd.out; omega, .inr (by have := Hd.out; omega), HN2⟩
                case measure => have := Hd.out; simp [intOf]; omega
              · have l4 : ¬ (a' : Int) + (s : Int) < (N : Int) := by omega
                have HN2 : Hid (∃ g, Kept B N t f w wr g ∧ From d N g 0) := ⟨g', hK, hU.done (fun _ _ => rfl) (hF.one (by omega)) (by omega)⟩
                clear hd
                clear hba' HP hK hU hF
                go_wp2
                go_roundw
                case rel => exact ⟨d, by go_num, by have := Hd.out; omega, .inr (by have := Hd.out; omega), HN2⟩
                case measure => have := Hd.out; simp [intOf]; omega
        · have l2 : ¬ (s : Int) < (N : Int) := by omega
          have HF : Hid (∃ g, Kept B N t f w wr g ∧ SortedOn ltR g 0 N) := by
            obtain ⟨g, k1, k2⟩ := HP.out
            exact ⟨g, k1, k2.one (by omega)⟩
          clear HP
          go_wp2
          go_returns
          exact ⟨rfl, HF.out⟩

theorem sortStable_any (B N cap : Nat) (t : TypeId) (f : Nat → Int × Int) (w : World) (hN : (N : Int) ≤ 1048576) (H : RB w B N t f) (D : ∀ i j, i < N → j < N → i ≠ j → (f i).2 ≠ (f j).2) :
    Calls Tryd.prog 161 #[.slice (some ⟨B, 0, none⟩) N cap, .func (Fn.func 136) #[] #[]] w fun e w' => e = .returned (.tuple #[]) ∧ ∃ g, Kept B N t f w w' g ∧ SortedOn ltR g 0 N := by
  have HR : Hid (RB w B N t f) := H
  have HD : Hid (∀ i j, i < N → j < N → i ≠ j → (f i).2 ≠ (f j).2) := D
  clear H D
  go_enter Tryd.func161, Tryd.ntmps161
  go_wp2_with (go_at_call 176; refine (stable_any B N cap t f w hN HR.out HD.out).mono ?_; rintro ee w2 ⟨rfl, r⟩; have HF : Hid (∃ g, Kept B N t f w w2 g ∧ SortedOn ltR g 0 N) := r; clear r)
  go_returns
  exact ⟨rfl, HF.out⟩

theorem sortBy_any (B N cap : Nat) (t : TypeId) (f : Nat → Int × Int) (w : World) (hN : (N : Int) ≤ 1048576) (H : RB w B N t f) (D : ∀ i j, i < N → j < N → i ≠ j → (f i).2 ≠ (f j).2) :
    Calls Tryd.prog 135 #[.slice (some ⟨B, 0, none⟩) N cap, .func (Fn.func 136) #[] #[]] w fun e w' => e = .returned (.tuple #[]) ∧ ∃ g, Kept B N t f w w' g ∧ SortedOn ltR g 0 N := by
  have HR : Hid (RB w B N t f) := H
  have HD : Hid (∀ i j, i < N → j < N → i ≠ j → (f i).2 ≠ (f j).2) := D
  clear H D
  go_enter Tryd.func135, Tryd.ntmps135
  go_wp2_with (go_at_call 161; refine (sortStable_any B N cap t f w hN HR.out HD.out).mono ?_; rintro ee w2 ⟨rfl, r⟩; have HF : Hid (∃ g, Kept B N t f w w2 g ∧ SortedOn ltR g 0 N) := r; clear r)
  go_returns
  exact ⟨rfl, HF.out⟩
end Go.Proofs.YtgnhpjlfdkpaiaaDoor.Sh
