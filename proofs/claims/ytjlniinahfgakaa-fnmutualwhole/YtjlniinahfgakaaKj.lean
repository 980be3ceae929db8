/- symMerge where one of the two runs has one element. -/
import Derived.Test.YtjlniinahfgakaaKi
namespace Go.Proofs.Ytjlniinahfgakaa
open Go.ChangeShapes Go.WideShapes Go.ChangeAt Go.RowKit
set_option linter.unusedVariables false
set_option linter.unusedSimpArgs false

theorem rot_next {α : Type} {f : Nat → α} {a k : Nat} (h : a ≤ k) (j : Nat) : rot a (a + 1) (k + 2) f j = if j = k + 1 then f a else if j = k then f (k + 1) else rot a (a + 1) (k + 1) f j := by
  unfold rot
  repeat' split
  all_goals first | omega | rfl | (congr 1; omega)
theorem rot_one {α : Type} {f : Nat → α} {a : Nat} (j : Nat) : rot a (a + 1) (a + 1) f j = f j := by
  unfold rot
  repeat' split
  all_goals first | omega | rfl | (congr 1; omega)
theorem rot_back {α : Type} {f : Nat → α} {m p : Nat} (h : p + 1 ≤ m) (j : Nat) : rot p m (m + 1) f j = if j = p then f m else if j = p + 1 then f p else rot (p + 1) m (m + 1) f j := by
  unfold rot
  repeat' split
  all_goals first | omega | rfl | (congr 1; omega)
theorem rot_none {α : Type} {f : Nat → α} {m : Nat} (j : Nat) : rot m m (m + 1) f j = f j := by
  unfold rot
  repeat' split
  all_goals first | omega | rfl | (congr 1; omega)
theorem belowN {B : Nat} {w w' : World} (h : Below B w w') (q : Nat) : Below B w (w'.drewN q) := ⟨h.os, h.tape, h.output, h.size, h.block⟩
theorem ltR_of {a b : Int × Int} {i j : Nat} (h : a.2 ≠ b.2) (h1 : ¬ ltR a b) : ltR b a := ltR_total h h1

set_option maxRecDepth 20000 in
set_option maxHeartbeats 4000000 in
theorem sym_left (B N cap a b : Nat) (t : TypeId) (f : Nat → Int × Int) (w : World) (hN : (N : Int) ≤ 1048576) (ha : a + 1 < b) (hb : b ≤ N) (H : RB w B N t f) (D : ∀ i j, i < N → j < N → i ≠ j → (f i).2 ≠ (f j).2) (S : SortedOn ltR f (a + 1) b) :
    Calls Try.prog 92 #[.slice (some ⟨B, 0, none⟩) N cap, .int .i64 a, .int .i64 ((a + 1 : Nat) : Int), .int .i64 b, .func (Fn.func 52) #[] #[]] w fun e w' => e = .returned (.tuple #[]) ∧ ∃ g, RB w' B N t g ∧ PermOn a b f g ∧ SortedOn ltR g a b ∧ Below B w w' := by
  have HR : Hid (RB w B N t f) := H
  have HD : Hid (∀ i j, i < N → j < N → i ≠ j → (f i).2 ≠ (f j).2) := D
  have HS : Hid (SortedOn ltR f (a + 1) b) := S
  clear H D S
  obtain ⟨m, hm⟩ : ∃ m, m = a + 1 := ⟨_, rfl⟩
  have Hm : Hid (m = a + 1) := hm
  rw [← hm]
  have ia : (a : Int) ≤ 1048576 := by omega
  have im : (m : Int) ≤ 1048576 := by omega
  have ib : (b : Int) ≤ 1048576 := by omega
  have em1 : (m : Int) - (a : Int) = 1 := by omega
  have lam : (a : Int) < (m : Int) := by omega
  have lmb : (m : Int) < (b : Int) := by omega
  have lbN : (b : Int) ≤ (N : Int) := by omega
  have laN : (a : Int) < (N : Int) := by omega
  obtain ⟨y1, y2, hy⟩ : ∃ y1 y2, f a = (y1, y2) := ⟨_, _, rfl⟩
  have Hy : Hid (f a = (y1, y2)) := hy
  clear hm hy
  go_enter Try.func92, Try.ntmps92
  go_wp2
  go_loopw [10, 11] (fun u v wr => ∃ i j : Nat, u = .int .i64 (i : Int) ∧ v = .int .i64 (j : Int) ∧ m ≤ i ∧ i ≤ j ∧ j ≤ b ∧ Hid ((∀ x, m ≤ x → x < i → ltR (f x) (f a)) ∧ (∀ x, j ≤ x → x < b → ¬ ltR (f x) (f a))) ∧ Hid (RB wr B N t f ∧ Below B w wr)) (fun u v _ => (intOf v).toNat - (intOf u).toNat)
  case atStart => exact ⟨m, b, rfl, rfl, Nat.le_refl _, by omega, Nat.le_refl _, ⟨fun x h1 h2 => by omega, fun x h1 h2 => by omega⟩, HR.out, Below.refl _ _⟩
  case round =>
    obtain ⟨i, j, rfl, rfl, hmi, hij, hjb, HP, HW⟩ := hrel
    by_cases hlt : i < j
    · obtain ⟨c, hc⟩ : ∃ c : Nat, (i + j) / 2 = c := ⟨_, rfl⟩
      have ec : ((i : Int) + (j : Int)) / 2 = (c : Int) := by omega
      have c1 : i ≤ c := by omega
      have c2 : c < j := by omega
      have lcN : (c : Int) < (N : Int) := by omega
      have lij : (i : Int) < (j : Int) := by omega
      have ljN : (j : Int) ≤ (N : Int) := by omega
      clear hc
      obtain ⟨hR, hB⟩ := HW.out
      obtain ⟨d1, d2⟩ := hR.cell (j := c) (by omega)
      obtain ⟨d3, d4⟩ := hR.cell (j := a) (by omega)
      obtain ⟨x1, x2, hx⟩ : ∃ x1 x2, f c = (x1, x2) := ⟨_, _, rfl⟩
      rw [hx] at d1 d2
      rw [Hy.out] at d3 d4
      simp only at d1 d2 d3 d4
      have hRd : RB wr.drew B N t f := hR
      have hBd : Below B w wr.drew := hB.drew
      have Hx : Hid (f c = (x1, x2)) := hx
      clear hx hR hB HW
      by_cases hc : ltR (x1, x2) (y1, y2)
      · obtain ⟨V, hV, HV⟩ : ∃ V, V < 0 ∧ Hid (crV (x1, x2) (y1, y2) = V) := ⟨-1, by omega, crV_lt hc⟩
        have dV : decide (V < 0) = true := decide_eq_true hV
        have HP2 : Hid ((∀ x, m ≤ x → x < c + 1 → ltR (f x) (f a)) ∧ (∀ x, j ≤ x → x < b → ¬ ltR (f x) (f a))) := ⟨fun x h1 h2 => by
            by_cases e : x = c
            · rw [e, Hx.out, Hy.out]; exact hc
            · have e1 := HS.out x c (by have := Hm.out; omega) (by omega) (by omega)
              rw [Hx.out] at e1; rw [Hy.out]; exact ltR_trans e1 hc, HP.out.2⟩
        clear hc
        go_wp2
        go_region_held3 (fun w' => w'.cell? ⟨B, c * 2, none⟩ = some (.int .i64 x1) ∧ w'.cell? ⟨B, c * 2 + 1, none⟩ = some (.int .i64 x2) ∧ w'.cell? ⟨B, a * 2, none⟩ = some (.int .i64 y1) ∧ w'.cell? ⟨B, a * 2 + 1, none⟩ = some (.int .i64 y2) ∧ RB w' B N t f ∧ Below B w w')
          (refine ⟨?_, ?_, ?_, ?_, ?_, ?_⟩ <;> first | assumption | (simp [*]; done))
          (first | (go_at_call 52; refine (compareRests_eq _ _ _ _ V _ HV).mono ?_; rintro e w2 ⟨rfl, b2⟩; have q0 : w2.cell? ⟨B, c * 2, none⟩ = some (.int .i64 x1) := keep_cell' b2 (by simp [*]); have q1 : w2.cell? ⟨B, c * 2 + 1, none⟩ = some (.int .i64 x2) := keep_cell' b2 (by simp [*]); have q2 : w2.cell? ⟨B, a * 2, none⟩ = some (.int .i64 y1) := keep_cell' b2 (by simp [*]); have q3 : w2.cell? ⟨B, a * 2 + 1, none⟩ = some (.int .i64 y2) := keep_cell' b2 (by simp [*]); have q4 : RB w2 B N t f := rb_on (by assumption) b2; have q5 : Below B w w2 := bel_rb (g := f) (N := N) (t := t) (by assumption) (by assumption) b2))
        go_wp2
        go_roundw
        case rel => exact ⟨c + 1, j, by go_num, rfl, by omega, by omega, hjb, HP2, q4, q5⟩
        case measure => simp [intOf]; omega
      · obtain ⟨V, hV, HV⟩ : ∃ V, 0 ≤ V ∧ Hid (crV (x1, x2) (y1, y2) = V) := by
          rcases crV_ge hc with e | e
          · exact ⟨0, by omega, e⟩
          · exact ⟨1, by omega, e⟩
        have dV : decide (V < 0) = false := decide_eq_false (by omega)
        have HP2 : Hid ((∀ x, m ≤ x → x < i → ltR (f x) (f a)) ∧ (∀ x, c ≤ x → x < b → ¬ ltR (f x) (f a))) := ⟨HP.out.1, fun x h1 h2 h3 => by
            by_cases e : x = c
            · rw [e, Hx.out, Hy.out] at h3; exact hc h3
            · have e1 := HS.out c x (by have := Hm.out; omega) (by omega) (by omega)
              rw [Hx.out] at e1; rw [Hy.out] at h3; exact hc (ltR_trans e1 h3)⟩
        clear hc
        go_wp2
        go_region_held3 (fun w' => w'.cell? ⟨B, c * 2, none⟩ = some (.int .i64 x1) ∧ w'.cell? ⟨B, c * 2 + 1, none⟩ = some (.int .i64 x2) ∧ w'.cell? ⟨B, a * 2, none⟩ = some (.int .i64 y1) ∧ w'.cell? ⟨B, a * 2 + 1, none⟩ = some (.int .i64 y2) ∧ RB w' B N t f ∧ Below B w w')
          (refine ⟨?_, ?_, ?_, ?_, ?_, ?_⟩ <;> first | assumption | (simp [*]; done))
          (first | (go_at_call 52; refine (compareRests_eq _ _ _ _ V _ HV).mono ?_; rintro e w2 ⟨rfl, b2⟩; have q0 : w2.cell? ⟨B, c * 2, none⟩ = some (.int .i64 x1) := keep_cell' b2 (by simp [*]); have q1 : w2.cell? ⟨B, c * 2 + 1, none⟩ = some (.int .i64 x2) := keep_cell' b2 (by simp [*]); have q2 : w2.cell? ⟨B, a * 2, none⟩ = some (.int .i64 y1) := keep_cell' b2 (by simp [*]); have q3 : w2.cell? ⟨B, a * 2 + 1, none⟩ = some (.int .i64 y2) := keep_cell' b2 (by simp [*]); have q4 : RB w2 B N t f := rb_on (by assumption) b2; have q5 : Below B w w2 := bel_rb (g := f) (N := N) (t := t) (by assumption) (by assumption) b2))
        go_wp2
        go_roundw
        case rel => exact ⟨i, c, rfl, by go_num, by omega, by omega, by omega, HP2, q4, q5⟩
        case measure => simp [intOf]; omega
    · obtain rfl : i = j := by omega
      have lii : ¬ (i : Int) < (i : Int) := by omega
      have lib : (i : Int) ≤ (b : Int) := by omega
      have lmi : (m : Int) ≤ (i : Int) := by omega
      go_wp2
      go_loopw [13] (fun u wq => ∃ k : Nat, u = .int .i64 (k : Int) ∧ a ≤ k ∧ k + 1 ≤ i ∧ Hid (RB wq B N t (rot a (a + 1) (k + 1) f) ∧ Below B w wq)) (fun u _ => i - (intOf u).toNat)
      case atStart => exact ⟨a, rfl, Nat.le_refl _, by have := Hm.out; omega, HW.out.1.congr (fun j _ => rot_one j), HW.out.2⟩
      case round =>
        clear HW
        rename_i wr0
        obtain ⟨k, rfl, hak, hki, HW⟩ := hrel
        by_cases hk : k + 1 < i
        · have lk : (k : Int) < (i : Int) - 1 := by omega
          have lk2 : (k : Int) + 1 < (N : Int) := by omega
          obtain ⟨hR, hB⟩ := HW.out
          obtain ⟨d1, d2⟩ := hR.cell (j := k) (by omega)
          obtain ⟨d3, d4⟩ := hR.cell (j := k + 1) (by omega)
          have e1 : rot a (a + 1) (k + 1) f k = (y1, y2) := by
            rw [rot_hi (by omega) (by omega), ← Hy.out]; congr 1; omega
          have e2 : rot a (a + 1) (k + 1) f (k + 1) = f (k + 1) := rot_out (by omega) (by omega) (by omega)
          obtain ⟨x1, x2, hx⟩ : ∃ x1 x2, f (k + 1) = (x1, x2) := ⟨_, _, rfl⟩
          rw [e1] at d1 d2
          rw [e2, hx] at d3 d4
          simp only at d1 d2 d3 d4
          have r1 := hR.fr (k * 2)
          have r2 := hR.fr (k * 2 + 1)
          have r3 := hR.fr ((k + 1) * 2)
          have r4 := hR.fr ((k + 1) * 2 + 1)
          have HN : Hid (RB ((((wr.setCell ⟨B, k * 2, none⟩ (.int .i64 x1)).setCell ⟨B, k * 2 + 1, none⟩ (.int .i64 x2)).setCell ⟨B, (k + 1) * 2, none⟩ (.int .i64 y1)).setCell ⟨B, (k + 1) * 2 + 1, none⟩ (.int .i64 y2)).drew B N t (rot a (a + 1) (k + 1 + 1) f) ∧ Below B w ((((wr.setCell ⟨B, k * 2, none⟩ (.int .i64 x1)).setCell ⟨B, k * 2 + 1, none⟩ (.int .i64 x2)).setCell ⟨B, (k + 1) * 2, none⟩ (.int .i64 y1)).setCell ⟨B, (k + 1) * 2 + 1, none⟩ (.int .i64 y2)).drew) := by
            refine ⟨RB.congr ((hR.set (i := k) (by omega) x1 x2).set (i := k + 1) (by omega) y1 y2) (fun j hj => ?_), ((((hB.setCell (Nat.le_refl _) _).setCell (Nat.le_refl _) _).setCell (Nat.le_refl _) _).setCell (Nat.le_refl _) _).drew⟩
            rw [rot_next hak, Hy.out, hx]
          clear hR hB HW e1 e2 hx
          go_wp2
          go_region
          go_wp2
          go_roundw
          case rel => exact ⟨k + 1, by go_num, by omega, by omega, HN⟩
          case measure => simp [intOf]; omega
        · obtain rfl : i = k + 1 := by omega
          have lk : ¬ (k : Int) < ((k + 1 : Nat) : Int) - 1 := by omega
          have HN : Hid (∃ g, RB wr B N t g ∧ PermOn a b f g ∧ SortedOn ltR g a b ∧ Below B w wr) := by
            have hm := Hm.out
            subst hm
            refine ⟨_, HW.out.1, (rot_perm (by omega) (by omega)).mono (Nat.le_refl _) hjb, one_left ⟨by omega, hjb⟩ HS.out HP.out.1 (fun x h1 h2 => ltR_total (HD.out x a (by omega) (by omega) (by omega)) (HP.out.2 x h1 h2)), HW.out.2⟩
          clear HW HP
          go_wp2
          go_returns
          exact ⟨rfl, HN.out⟩

set_option maxRecDepth 20000 in
set_option maxHeartbeats 4000000 in
theorem sym_right (B N cap a m : Nat) (t : TypeId) (f : Nat → Int × Int) (w : World) (hN : (N : Int) ≤ 1048576) (ha : a + 1 < m) (hb : m + 1 ≤ N) (H : RB w B N t f) (D : ∀ i j, i < N → j < N → i ≠ j → (f i).2 ≠ (f j).2) (S : SortedOn ltR f a m) :
    Calls Try.prog 92 #[.slice (some ⟨B, 0, none⟩) N cap, .int .i64 a, .int .i64 m, .int .i64 ((m + 1 : Nat) : Int), .func (Fn.func 52) #[] #[]] w fun e w' => e = .returned (.tuple #[]) ∧ ∃ g, RB w' B N t g ∧ PermOn a (m + 1) f g ∧ SortedOn ltR g a (m + 1) ∧ Below B w w' := by
  have HR : Hid (RB w B N t f) := H
  have HD : Hid (∀ i j, i < N → j < N → i ≠ j → (f i).2 ≠ (f j).2) := D
  have HS : Hid (SortedOn ltR f a m) := S
  clear H D S
  obtain ⟨b, hm⟩ : ∃ b, b = m + 1 := ⟨_, rfl⟩
  have Hm : Hid (b = m + 1) := hm
  rw [← hm]
  have ia : (a : Int) ≤ 1048576 := by omega
  have im : (m : Int) ≤ 1048576 := by omega
  have ib : (b : Int) ≤ 1048576 := by omega
  have em0 : ((m : Int) - (a : Int) == 1) = false := by simp; omega
  have em1 : (b : Int) - (m : Int) = 1 := by omega
  have lam : (a : Int) + 1 < (m : Int) := by omega
  have lmb : (m : Int) < (b : Int) := by omega
  have lbN : (b : Int) ≤ (N : Int) := by omega
  have laN : (m : Int) < (N : Int) := by omega
  obtain ⟨y1, y2, hy⟩ : ∃ y1 y2, f m = (y1, y2) := ⟨_, _, rfl⟩
  have Hy : Hid (f m = (y1, y2)) := hy
  clear hm hy
  go_enter Try.func92, Try.ntmps92
  go_wp2
  go_loopw [14, 15] (fun u v wr => ∃ i j : Nat, u = .int .i64 (i : Int) ∧ v = .int .i64 (j : Int) ∧ a ≤ i ∧ i ≤ j ∧ j ≤ m ∧ Hid ((∀ x, a ≤ x → x < i → ¬ ltR (f m) (f x)) ∧ (∀ x, j ≤ x → x < m → ltR (f m) (f x))) ∧ Hid (RB wr B N t f ∧ Below B w wr)) (fun u v _ => (intOf v).toNat - (intOf u).toNat)
  case atStart => exact ⟨a, m, rfl, rfl, Nat.le_refl _, by omega, Nat.le_refl _, ⟨fun x h1 h2 => by omega, fun x h1 h2 => by omega⟩, HR.out, Below.refl _ _⟩
  case round =>
    obtain ⟨i, j, rfl, rfl, hai, hij, hjm, HP, HW⟩ := hrel
    by_cases hlt : i < j
    · obtain ⟨c, hc⟩ : ∃ c : Nat, (i + j) / 2 = c := ⟨_, rfl⟩
      have ec : ((i : Int) + (j : Int)) / 2 = (c : Int) := by omega
      have c1 : i ≤ c := by omega
      have c2 : c < j := by omega
      have lcN : (c : Int) < (N : Int) := by omega
      have lij : (i : Int) < (j : Int) := by omega
      have ljN : (j : Int) ≤ (N : Int) := by omega
      clear hc
      obtain ⟨hR, hB⟩ := HW.out
      obtain ⟨d1, d2⟩ := hR.cell (j := c) (by omega)
      obtain ⟨d3, d4⟩ := hR.cell (j := m) (by omega)
      obtain ⟨x1, x2, hx⟩ : ∃ x1 x2, f c = (x1, x2) := ⟨_, _, rfl⟩
      rw [hx] at d1 d2
      rw [Hy.out] at d3 d4
      simp only at d1 d2 d3 d4
      have hRd : RB wr.drew B N t f := hR
      have hBd : Below B w wr.drew := hB.drew
      have Hx : Hid (f c = (x1, x2)) := hx
      clear hx hR hB HW
      by_cases hc : ltR (y1, y2) (x1, x2)
      · obtain ⟨V, hV, HV⟩ : ∃ V, V < 0 ∧ Hid (crV (y1, y2) (x1, x2) = V) := ⟨-1, by omega, crV_lt hc⟩
        have dV : decide (V < 0) = true := decide_eq_true hV
        have HP2 : Hid ((∀ x, a ≤ x → x < i → ¬ ltR (f m) (f x)) ∧ (∀ x, c ≤ x → x < m → ltR (f m) (f x))) := ⟨HP.out.1, fun x h1 h2 => by
            by_cases e : x = c
            · rw [e, Hx.out, Hy.out]; exact hc
            · have e1 := HS.out c x (by omega) (by omega) (by omega)
              rw [Hx.out] at e1; rw [Hy.out]; exact ltR_trans hc e1⟩
        clear hc
        go_wp2
        go_region_held3 (fun w' => w'.cell? ⟨B, m * 2, none⟩ = some (.int .i64 y1) ∧ w'.cell? ⟨B, m * 2 + 1, none⟩ = some (.int .i64 y2) ∧ w'.cell? ⟨B, c * 2, none⟩ = some (.int .i64 x1) ∧ w'.cell? ⟨B, c * 2 + 1, none⟩ = some (.int .i64 x2) ∧ RB w' B N t f ∧ Below B w w')
          (refine ⟨?_, ?_, ?_, ?_, ?_, ?_⟩ <;> first | assumption | (simp [*]; done))
          (first | (go_at_call 52; refine (compareRests_eq _ _ _ _ V _ HV).mono ?_; rintro e w2 ⟨rfl, b2⟩; have q0 : w2.cell? ⟨B, m * 2, none⟩ = some (.int .i64 y1) := keep_cell' b2 (by simp [*]); have q1 : w2.cell? ⟨B, m * 2 + 1, none⟩ = some (.int .i64 y2) := keep_cell' b2 (by simp [*]); have q2 : w2.cell? ⟨B, c * 2, none⟩ = some (.int .i64 x1) := keep_cell' b2 (by simp [*]); have q3 : w2.cell? ⟨B, c * 2 + 1, none⟩ = some (.int .i64 x2) := keep_cell' b2 (by simp [*]); have q4 : RB w2 B N t f := rb_on (by assumption) b2; have q5 : Below B w w2 := bel_rb (g := f) (N := N) (t := t) (by assumption) (by assumption) b2))
        go_wp2
        go_roundw
        case rel => exact ⟨i, c, rfl, by go_num, by omega, by omega, by omega, HP2, q4, q5⟩
        case measure => simp [intOf]; omega
      · obtain ⟨V, hV, HV⟩ : ∃ V, 0 ≤ V ∧ Hid (crV (y1, y2) (x1, x2) = V) := by
          rcases crV_ge hc with e | e
          · exact ⟨0, by omega, e⟩
          · exact ⟨1, by omega, e⟩
        have dV : decide (V < 0) = false := decide_eq_false (by omega)
        have HP2 : Hid ((∀ x, a ≤ x → x < c + 1 → ¬ ltR (f m) (f x)) ∧ (∀ x, j ≤ x → x < m → ltR (f m) (f x))) := ⟨fun x h1 h2 h3 => by
            by_cases e : x = c
            · rw [e, Hx.out, Hy.out] at h3; exact hc h3
            · have e1 := HS.out x c (by omega) (by omega) (by omega)
              rw [Hx.out] at e1; rw [Hy.out] at h3; exact hc (ltR_trans h3 e1), HP.out.2⟩
        clear hc
        go_wp2
        go_region_held3 (fun w' => w'.cell? ⟨B, m * 2, none⟩ = some (.int .i64 y1) ∧ w'.cell? ⟨B, m * 2 + 1, none⟩ = some (.int .i64 y2) ∧ w'.cell? ⟨B, c * 2, none⟩ = some (.int .i64 x1) ∧ w'.cell? ⟨B, c * 2 + 1, none⟩ = some (.int .i64 x2) ∧ RB w' B N t f ∧ Below B w w')
          (refine ⟨?_, ?_, ?_, ?_, ?_, ?_⟩ <;> first | assumption | (simp [*]; done))
          (first | (go_at_call 52; refine (compareRests_eq _ _ _ _ V _ HV).mono ?_; rintro e w2 ⟨rfl, b2⟩; have q0 : w2.cell? ⟨B, m * 2, none⟩ = some (.int .i64 y1) := keep_cell' b2 (by simp [*]); have q1 : w2.cell? ⟨B, m * 2 + 1, none⟩ = some (.int .i64 y2) := keep_cell' b2 (by simp [*]); have q2 : w2.cell? ⟨B, c * 2, none⟩ = some (.int .i64 x1) := keep_cell' b2 (by simp [*]); have q3 : w2.cell? ⟨B, c * 2 + 1, none⟩ = some (.int .i64 x2) := keep_cell' b2 (by simp [*]); have q4 : RB w2 B N t f := rb_on (by assumption) b2; have q5 : Below B w w2 := bel_rb (g := f) (N := N) (t := t) (by assumption) (by assumption) b2))
        go_wp2
        go_roundw
        case rel => exact ⟨c + 1, j, by go_num, rfl, by omega, by omega, hjm, HP2, q4, q5⟩
        case measure => simp [intOf]; omega
    · obtain rfl : i = j := by omega
      have lii : ¬ (i : Int) < (i : Int) := by omega
      have lib : (i : Int) ≤ (m : Int) := by omega
      go_wp2
      go_loopw [17] (fun u wq => ∃ k : Nat, u = .int .i64 (k : Int) ∧ i ≤ k ∧ k ≤ m ∧ Hid (RB wq B N t (rot k m (m + 1) f) ∧ Below B w wq)) (fun u _ => (intOf u).toNat)
      case atStart => exact ⟨m, rfl, hjm, Nat.le_refl _, HW.out.1.congr (fun j _ => rot_none j), HW.out.2⟩
      case round =>
        clear HW
        rename_i wr0
        obtain ⟨k, rfl, hik, hkm, HW⟩ := hrel
        by_cases hk : i < k
        · obtain ⟨p, hkp⟩ : ∃ p, k = p + 1 := ⟨k - 1, by omega⟩
          have lk : (i : Int) < (k : Int) := by omega
          have lkN : (k : Int) < (N : Int) := by omega
          have lpN : (p : Int) < (N : Int) := by omega
          have ew : (k : Int) - 1 = (p : Int) := by omega
          have hwr : IntKind.i64.wrap ((k : Int) - 1) = (p : Int) := by rw [IntWalk.i64_in _ ⟨by omega, by omega⟩]; exact ew
          obtain ⟨hR, hB⟩ := HW.out
          obtain ⟨d1, d2⟩ := hR.cell (j := k) (by omega)
          obtain ⟨d3, d4⟩ := hR.cell (j := p) (by omega)
          have e1 : rot k m (m + 1) f k = (y1, y2) := by
            rw [rot_lo (by omega) (by omega), ← Hy.out]; congr 1; omega
          have e2 : rot k m (m + 1) f p = f p := rot_out (by omega) (by omega) (by omega)
          obtain ⟨x1, x2, hx⟩ : ∃ x1 x2, f p = (x1, x2) := ⟨_, _, rfl⟩
          rw [e1] at d1 d2
          rw [e2, hx] at d3 d4
          simp only at d1 d2 d3 d4
          have r1 := hR.fr (k * 2)
          have r2 := hR.fr (k * 2 + 1)
          have r3 := hR.fr (p * 2)
          have r4 := hR.fr (p * 2 + 1)
          have HN : Hid (RB ((((wr.setCell ⟨B, k * 2, none⟩ (.int .i64 x1)).setCell ⟨B, k * 2 + 1, none⟩ (.int .i64 x2)).setCell ⟨B, p * 2, none⟩ (.int .i64 y1)).setCell ⟨B, p * 2 + 1, none⟩ (.int .i64 y2)).drew B N t (rot p m (m + 1) f) ∧ Below B w ((((wr.setCell ⟨B, k * 2, none⟩ (.int .i64 x1)).setCell ⟨B, k * 2 + 1, none⟩ (.int .i64 x2)).setCell ⟨B, p * 2, none⟩ (.int .i64 y1)).setCell ⟨B, p * 2 + 1, none⟩ (.int .i64 y2)).drew) := by
            refine ⟨RB.congr ((hR.set (i := k) (by omega) x1 x2).set (i := p) (by omega) y1 y2) (fun j hj => ?_), ((((hB.setCell (Nat.le_refl _) _).setCell (Nat.le_refl _) _).setCell (Nat.le_refl _) _).setCell (Nat.le_refl _) _).drew⟩
            rw [rot_back (by omega), Hy.out, hx, ← hkp]
          have Hkp : Hid (k = p + 1) := hkp
          have lpk : p < k := by omega
          clear hR hB HW e1 e2 hx hkp ew
          go_wp2
          go_region
          go_wp2
          go_roundw
          case rel => exact ⟨p, by go_num, by have := Hkp.out; omega, by have := Hkp.out; omega, HN⟩
          case measure => have := Hkp.out; simp [intOf]; omega
        · obtain rfl : i = k := by omega
          have HN : Hid (∃ g, RB wr B N t g ∧ PermOn a b f g ∧ SortedOn ltR g a b ∧ Below B w wr) := by
            have hm := Hm.out
            subst hm
            refine ⟨_, HW.out.1, (rot_perm (by omega) (by omega)).mono hai (Nat.le_refl _), one_right ⟨hai, hkm⟩ HS.out (fun x h1 h2 => ltR_total (HD.out m x (by omega) (by omega) (by omega)) (HP.out.1 x h1 h2)) HP.out.2, HW.out.2⟩
          clear HW HP
          go_wp2
          go_returns
          exact ⟨rfl, HN.out⟩
end Go.Proofs.Ytjlniinahfgakaa
