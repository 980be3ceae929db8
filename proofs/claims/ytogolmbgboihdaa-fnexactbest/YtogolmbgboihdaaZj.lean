/- symMerge where one of the two runs has one element. -/
import Derived.Test.YtogolmbgboihdaaZi
namespace Go.Proofs.Ytogolmbgboihdaa.Srt
open Go Go.ChangeShapes Go.WideShapes Go.ChangeAt Go.RowKit
set_option linter.unusedVariables false
set_option linter.unusedSimpArgs false
variable {aj : Option Addr} {jk : Nat} {rule : Int} {jc : Nat → JB}

theorem rot_next {α : Type} {f : Nat → α} {a k : Nat} (h : a ≤ k) (j : Nat) : rot a (a + 1) (k + 2) f j = if j = k + 1 then f a else if j = k then f (k + 1) else rot a (a + 1) (k + 1) f j := by
  unfold rot
  repeat' split
  all_goals first | omega | rfl | (congr 1; omega)
theorem rot_one {α : Type} {f : Nat → α} {a : Nat} (j : Nat) : rot a (a + 1) (a + 1) f j = f j := by
  unfold rot
  repeat' split
  all_goals first | omega | rfl | (congr 1; omega)
theorem rot_back {α : Type} {f : Nat → α} {m p : Nat} (h : p + 1 ≤ m) (j : Nat) : rot p m (m + 1) f j = if j = p then f m else if j = p + 1 then f p else rot (p + 1) m (m + 1) f j := by
  unfold rot
  repeat' split
  all_goals first | omega | rfl | (congr 1; omega)
theorem rot_none {α : Type} {f : Nat → α} {m : Nat} (j : Nat) : rot m m (m + 1) f j = f j := by
  unfold rot
  repeat' split
  all_goals first | omega | rfl | (congr 1; omega)
theorem belowN {B : Nat} {w w' : World} (h : But B w w') (q : Nat) : But B w (w'.drewN q) := h.drewN q
/-- Every place of the left run is below every place of the right run. -/
def PLo (a m b : Nat) (f : Nat → Int) : Prop := ∀ i j, a ≤ i → i < m → m ≤ j → j < b → (f i) < (f j)

set_option maxRecDepth 20000 in
set_option maxHeartbeats 4000000 in
theorem symP_left (B N cap a b : Nat) (t : TypeId) (f : Nat → Int) (w : World) (hN : (N : Int) ≤ 1048576) (ha : a + 1 < b) (hb : b ≤ N) (H : RP aj rule jc w B N t f) (D : PLo a (a + 1) b f) (S : SortedOn (ltP jc rule) f (a + 1) b) :
    Calls Try.prog 117 #[.slice (some ⟨B, 0, none⟩) N cap, .int .i64 a, .int .i64 ((a + 1 : Nat) : Int), .int .i64 b, .func (Fn.func 64) #[.agg #[.slice aj N jk, .int .i64 rule]] #[]] w fun e w' => e = .returned (.tuple #[]) ∧ ∃ g, RP aj rule jc w' B N t g ∧ PermOn a b f g ∧ SortedOn (ltP jc rule) g a b ∧ But B w w' := by
  have HR : Hid (RP aj rule jc w B N t f) := H
  have HD : Hid (PLo a (a + 1) b f) := D
  have HS : Hid (SortedOn (ltP jc rule) f (a + 1) b) := S
  clear H D S
  obtain ⟨m, hm⟩ : ∃ m, m = a + 1 := ⟨_, rfl⟩
  have Hm : Hid (m = a + 1) := hm
  rw [← hm]
  have ia : (a : Int) ≤ 1048576 := by omega
  have im : (m : Int) ≤ 1048576 := by omega
  have ib : (b : Int) ≤ 1048576 := by omega
  have em1 : (m : Int) - (a : Int) = 1 := by omega
  have lam : (a : Int) < (m : Int) := by omega
  have lmb : (m : Int) < (b : Int) := by omega
  have lbN : (b : Int) ≤ (N : Int) := by omega
  have laN : (a : Int) < (N : Int) := by omega
  obtain ⟨y1, hy⟩ : ∃ y1, f a = y1 := ⟨_, rfl⟩
  have Hy : Hid (f a = y1) := hy
  clear hm hy
  go_enter Try.func117, Try.ntmps117
  go_wp2
  go_loopw [10, 11] (fun u v wr => ∃ i j : Nat, u = .int .i64 (i : Int) ∧ v = .int .i64 (j : Int) ∧ m ≤ i ∧ i ≤ j ∧ j ≤ b ∧ Hid ((∀ x, m ≤ x → x < i → ltP jc rule (f x) (f a)) ∧ (∀ x, j ≤ x → x < b → ¬ ltP jc rule (f x) (f a))) ∧ Hid (RP aj rule jc wr B N t f ∧ But B w wr)) (fun u v _ => (intOf v).toNat - (intOf u).toNat)
  case atStart => exact ⟨m, b, rfl, rfl, Nat.le_refl _, by omega, Nat.le_refl _, ⟨fun x h1 h2 => by omega, fun x h1 h2 => by omega⟩, HR.out, But.refl _ _⟩
  case round =>
    obtain ⟨i, j, rfl, rfl, hmi, hij, hjb, HP, HW⟩ := hrel
    by_cases hlt : i < j
    · obtain ⟨c, hc⟩ : ∃ c : Nat, (i + j) / 2 = c := ⟨_, rfl⟩
      have ec : ((i : Int) + (j : Int)) / 2 = (c : Int) := by omega
      have c1 : i ≤ c := by omega
      have c2 : c < j := by omega
      have lcN : (c : Int) < (N : Int) := by omega
      have lij : (i : Int) < (j : Int) := by omega
      have ljN : (j : Int) ≤ (N : Int) := by omega
      clear hc
      obtain ⟨hR, hB⟩ := HW.out
      obtain ⟨dx1, dx1r⟩ := hR.cell (j := c) (by omega)
      obtain ⟨dy1, dy1r⟩ := hR.cell (j := a) (by omega)
      obtain ⟨x1, hx⟩ : ∃ x1, f c = x1 := ⟨_, rfl⟩
      rw [hx] at dx1 dx1r
      rw [Hy.out] at dy1 dy1r
      have hRd : RP aj rule jc wr.drew B N t f := hR.drew
      have hBd : But B w wr.drew := hB.drew
      have Hx : Hid (f c = x1) := hx
      have HL : Hid (y1 < x1) := hid (by have := HD.out a c (Nat.le_refl _) (by omega) (by have := Hm.out; omega) (by omega); rw [Hy.out, hx] at this; exact this)
      clear hx hR hB HW
      by_cases hc : ltP jc rule x1 y1
      · obtain ⟨V, hV, HV⟩ : ∃ V, V < 0 ∧ Hid (cvE jc rule x1 y1 = V) := ⟨_, (cm_ltP (a := x1) (b := y1) HL.out).2 hc, rfl⟩
        have dV : decide (V < 0) = true := decide_eq_true hV
        have HP2 : Hid ((∀ x, m ≤ x → x < c + 1 → ltP jc rule (f x) (f a)) ∧ (∀ x, j ≤ x → x < b → ¬ ltP jc rule (f x) (f a))) := ⟨fun x h1 h2 => by
            by_cases e : x = c
            · rw [e, Hx.out, Hy.out]; exact hc
            · have e1 := HS.out x c (by have := Hm.out; omega) (by omega) (by omega)
              rw [Hx.out] at e1; rw [Hy.out]; exact ltP_trans e1 hc, HP.out.2⟩
        clear hc
        go_wp2
        go_region_held3 (fun w' => w'.cell? ⟨B, c, none⟩ = some (.int .i64 x1) ∧ w'.cell? ⟨B, a, none⟩ = some (.int .i64 y1) ∧ RP aj rule jc w' B N t f ∧ But B w w')
          (refine ⟨?_, ?_, ?_, ?_⟩ <;> first | assumption | (simp [*]; done))
          (first | (go_at_call 64; refine (cmp_eq _ _ V (by assumption) (by assumption) (by assumption) HV).mono ?_; rintro e w2 ⟨rfl, b2⟩; have qa0 : w2.cell? ⟨B, c, none⟩ = some (.int .i64 x1) := keep_cell b2 (by simp [*]); have qa1 : w2.cell? ⟨B, a, none⟩ = some (.int .i64 y1) := keep_cell b2 (by simp [*]); have q4 : RP aj rule jc w2 B N t f := rp_on (by assumption) b2; have q5 : But B w w2 := bel_rp (g := f) (N := N) (t := t) (by assumption) (by assumption) b2))
        go_wp2
        go_roundw
        case rel => exact ⟨c + 1, j, by go_num, rfl, by omega, by omega, hjb, HP2, q4, q5⟩
        case measure => simp [intOf]; omega
      · obtain ⟨V, hV, HV⟩ : ∃ V, 0 ≤ V ∧ Hid (cvE jc rule x1 y1 = V) := ⟨_, by have := mt (cm_ltP (a := x1) (b := y1) HL.out).1 hc; omega, rfl⟩
        have dV : decide (V < 0) = false := decide_eq_false (by omega)
        have HP2 : Hid ((∀ x, m ≤ x → x < i → ltP jc rule (f x) (f a)) ∧ (∀ x, c ≤ x → x < b → ¬ ltP jc rule (f x) (f a))) := ⟨HP.out.1, fun x h1 h2 h3 => by
            by_cases e : x = c
            · rw [e, Hx.out, Hy.out] at h3; exact hc h3
            · have e1 := HS.out c x (by have := Hm.out; omega) (by omega) (by omega)
              rw [Hx.out] at e1; rw [Hy.out] at h3; exact hc (ltP_trans e1 h3)⟩
        clear hc
        go_wp2
        go_region_held3 (fun w' => w'.cell? ⟨B, c, none⟩ = some (.int .i64 x1) ∧ w'.cell? ⟨B, a, none⟩ = some (.int .i64 y1) ∧ RP aj rule jc w' B N t f ∧ But B w w')
          (refine ⟨?_, ?_, ?_, ?_⟩ <;> first | assumption | (simp [*]; done))
          (first | (go_at_call 64; refine (cmp_eq _ _ V (by assumption) (by assumption) (by assumption) HV).mono ?_; rintro e w2 ⟨rfl, b2⟩; have qa0 : w2.cell? ⟨B, c, none⟩ = some (.int .i64 x1) := keep_cell b2 (by simp [*]); have qa1 : w2.cell? ⟨B, a, none⟩ = some (.int .i64 y1) := keep_cell b2 (by simp [*]); have q4 : RP aj rule jc w2 B N t f := rp_on (by assumption) b2; have q5 : But B w w2 := bel_rp (g := f) (N := N) (t := t) (by assumption) (by assumption) b2))
        go_wp2
        go_roundw
        case rel => exact ⟨i, c, rfl, by go_num, by omega, by omega, by omega, HP2, q4, q5⟩
        case measure => simp [intOf]; omega
    · obtain rfl : i = j := by omega
      have lii : ¬ (i : Int) < (i : Int) := by omega
      have lib : (i : Int) ≤ (b : Int) := by omega
      have lmi : (m : Int) ≤ (i : Int) := by omega
      go_wp2
      go_loopw [13] (fun u wq => ∃ k : Nat, u = .int .i64 (k : Int) ∧ a ≤ k ∧ k + 1 ≤ i ∧ Hid (RP aj rule jc wq B N t (rot a (a + 1) (k + 1) f) ∧ But B w wq)) (fun u _ => i - (intOf u).toNat)
      case atStart => exact ⟨a, rfl, Nat.le_refl _, by have := Hm.out; omega, HW.out.1.congr (fun j _ => rot_one j), HW.out.2⟩
      case round =>
        clear HW
        rename_i wr0
        obtain ⟨k, rfl, hak, hki, HW⟩ := hrel
        by_cases hk : k + 1 < i
        · have lk : (k : Int) < (i : Int) - 1 := by omega
          have lk2 : (k : Int) + 1 < (N : Int) := by omega
          obtain ⟨hR, hB⟩ := HW.out
          obtain ⟨dx1, dx1r⟩ := hR.cell (j := k) (by omega)
          obtain ⟨dy1, dy1r⟩ := hR.cell (j := k + 1) (by omega)
          have e1 : rot a (a + 1) (k + 1) f k = y1 := by
            rw [rot_hi (by omega) (by omega), ← Hy.out]; congr 1; omega
          have e2 : rot a (a + 1) (k + 1) f (k + 1) = f (k + 1) := rot_out (by omega) (by omega) (by omega)
          obtain ⟨x1, hx⟩ : ∃ x1, f (k + 1) = x1 := ⟨_, rfl⟩
          rw [e1] at dx1 dx1r
          rw [e2, hx] at dy1 dy1r
          have r1 := hR.fr (k)
          have r3 := hR.fr ((k + 1))
          have HN : Hid (RP aj rule jc ((wr.setCell ⟨B, k, none⟩ (.int .i64 x1)).setCell ⟨B, (k + 1), none⟩ (.int .i64 y1)).drew B N t (rot a (a + 1) (k + 1 + 1) f) ∧ But B w ((wr.setCell ⟨B, k, none⟩ (.int .i64 x1)).setCell ⟨B, (k + 1), none⟩ (.int .i64 y1)).drew) := by
            refine ⟨RP.drew (RP.congr ((hR.set (i := k) (by omega) x1).set (i := k + 1) (by omega) y1) (fun j hj => ?_)), ((hB.setCell (Nat.le_refl _) _).setCell (Nat.le_refl _) _).drew⟩
            rw [rot_next hak, Hy.out, hx]
          clear hR hB HW e1 e2 hx
          go_wp2
          go_region
          go_wp2
          go_roundw
          case rel => exact ⟨k + 1, by go_num, by omega, by omega, HN⟩
          case measure => simp [intOf]; omega
        · obtain rfl : i = k + 1 := by omega
          have lk : ¬ (k : Int) < ((k + 1 : Nat) : Int) - 1 := by omega
          have HN : Hid (∃ g, RP aj rule jc wr B N t g ∧ PermOn a b f g ∧ SortedOn (ltP jc rule) g a b ∧ But B w wr) := by
            have hm := Hm.out
            subst hm
            refine ⟨_, HW.out.1, (rot_perm (by omega) (by omega)).mono (Nat.le_refl _) hjb, one_left ⟨by omega, hjb⟩ HS.out HP.out.1 (fun x h1 h2 => ltP_total (by have := HD.out a x (Nat.le_refl _) (by omega) (by omega) (by omega); omega) (HP.out.2 x h1 h2)), HW.out.2⟩
          clear HW HP
          go_wp2
          go_returns
          exact ⟨rfl, HN.out⟩

set_option maxRecDepth 20000 in
set_option maxHeartbeats 4000000 in
theorem symP_right (B N cap a m : Nat) (t : TypeId) (f : Nat → Int) (w : World) (hN : (N : Int) ≤ 1048576) (ha : a + 1 < m) (hb : m + 1 ≤ N) (H : RP aj rule jc w B N t f) (D : PLo a m (m + 1) f) (S : SortedOn (ltP jc rule) f a m) :
    Calls Try.prog 117 #[.slice (some ⟨B, 0, none⟩) N cap, .int .i64 a, .int .i64 m, .int .i64 ((m + 1 : Nat) : Int), .func (Fn.func 64) #[.agg #[.slice aj N jk, .int .i64 rule]] #[]] w fun e w' => e = .returned (.tuple #[]) ∧ ∃ g, RP aj rule jc w' B N t g ∧ PermOn a (m + 1) f g ∧ SortedOn (ltP jc rule) g a (m + 1) ∧ But B w w' := by
  have HR : Hid (RP aj rule jc w B N t f) := H
  have HD : Hid (PLo a m (m + 1) f) := D
  have HS : Hid (SortedOn (ltP jc rule) f a m) := S
  clear H D S
  obtain ⟨b, hm⟩ : ∃ b, b = m + 1 := ⟨_, rfl⟩
  have Hm : Hid (b = m + 1) := hm
  rw [← hm]
  have ia : (a : Int) ≤ 1048576 := by omega
  have im : (m : Int) ≤ 1048576 := by omega
  have ib : (b : Int) ≤ 1048576 := by omega
  have em0 : ((m : Int) - (a : Int) == 1) = false := by simp; omega
  have em1 : (b : Int) - (m : Int) = 1 := by omega
  have lam : (a : Int) + 1 < (m : Int) := by omega
  have lmb : (m : Int) < (b : Int) := by omega
  have lbN : (b : Int) ≤ (N : Int) := by omega
  have laN : (m : Int) < (N : Int) := by omega
  obtain ⟨y1, hy⟩ : ∃ y1, f m = y1 := ⟨_, rfl⟩
  have Hy : Hid (f m = y1) := hy
  clear hm hy
  go_enter Try.func117, Try.ntmps117
  go_wp2
  go_loopw [14, 15] (fun u v wr => ∃ i j : Nat, u = .int .i64 (i : Int) ∧ v = .int .i64 (j : Int) ∧ a ≤ i ∧ i ≤ j ∧ j ≤ m ∧ Hid ((∀ x, a ≤ x → x < i → ¬ ltP jc rule (f m) (f x)) ∧ (∀ x, j ≤ x → x < m → ltP jc rule (f m) (f x))) ∧ Hid (RP aj rule jc wr B N t f ∧ But B w wr)) (fun u v _ => (intOf v).toNat - (intOf u).toNat)
  case atStart => exact ⟨a, m, rfl, rfl, Nat.le_refl _, by omega, Nat.le_refl _, ⟨fun x h1 h2 => by omega, fun x h1 h2 => by omega⟩, HR.out, But.refl _ _⟩
  case round =>
    obtain ⟨i, j, rfl, rfl, hai, hij, hjm, HP, HW⟩ := hrel
    by_cases hlt : i < j
    · obtain ⟨c, hc⟩ : ∃ c : Nat, (i + j) / 2 = c := ⟨_, rfl⟩
      have ec : ((i : Int) + (j : Int)) / 2 = (c : Int) := by omega
      have c1 : i ≤ c := by omega
      have c2 : c < j := by omega
      have lcN : (c : Int) < (N : Int) := by omega
      have lij : (i : Int) < (j : Int) := by omega
      have ljN : (j : Int) ≤ (N : Int) := by omega
      clear hc
      obtain ⟨hR, hB⟩ := HW.out
      obtain ⟨dx1, dx1r⟩ := hR.cell (j := c) (by omega)
      obtain ⟨dy1, dy1r⟩ := hR.cell (j := m) (by omega)
      obtain ⟨x1, hx⟩ : ∃ x1, f c = x1 := ⟨_, rfl⟩
      rw [hx] at dx1 dx1r
      rw [Hy.out] at dy1 dy1r
      have hRd : RP aj rule jc wr.drew B N t f := hR.drew
      have hBd : But B w wr.drew := hB.drew
      have Hx : Hid (f c = x1) := hx
      have HL : Hid (x1 < y1) := hid (by have := HD.out c m (by omega) (by omega) (Nat.le_refl _) (by omega); rw [Hy.out, hx] at this; exact this)
      clear hx hR hB HW
      by_cases hc : ltP jc rule y1 x1
      · obtain ⟨V, hV, HV⟩ : ∃ V, V < 0 ∧ Hid (cvE jc rule y1 x1 = V) := ⟨_, (cm_ltP (a := y1) (b := x1) HL.out).2 hc, rfl⟩
        have dV : decide (V < 0) = true := decide_eq_true hV
        have HP2 : Hid ((∀ x, a ≤ x → x < i → ¬ ltP jc rule (f m) (f x)) ∧ (∀ x, c ≤ x → x < m → ltP jc rule (f m) (f x))) := ⟨HP.out.1, fun x h1 h2 => by
            by_cases e : x = c
            · rw [e, Hx.out, Hy.out]; exact hc
            · have e1 := HS.out c x (by omega) (by omega) (by omega)
              rw [Hx.out] at e1; rw [Hy.out]; exact ltP_trans hc e1⟩
        clear hc
        go_wp2
        go_region_held3 (fun w' => w'.cell? ⟨B, m, none⟩ = some (.int .i64 y1) ∧ w'.cell? ⟨B, c, none⟩ = some (.int .i64 x1) ∧ RP aj rule jc w' B N t f ∧ But B w w')
          (refine ⟨?_, ?_, ?_, ?_⟩ <;> first | assumption | (simp [*]; done))
          (first | (go_at_call 64; refine (cmp_eq _ _ V (by assumption) (by assumption) (by assumption) HV).mono ?_; rintro e w2 ⟨rfl, b2⟩; have qa0 : w2.cell? ⟨B, m, none⟩ = some (.int .i64 y1) := keep_cell b2 (by simp [*]); have qa1 : w2.cell? ⟨B, c, none⟩ = some (.int .i64 x1) := keep_cell b2 (by simp [*]); have q4 : RP aj rule jc w2 B N t f := rp_on (by assumption) b2; have q5 : But B w w2 := bel_rp (g := f) (N := N) (t := t) (by assumption) (by assumption) b2))
        go_wp2
        go_roundw
        case rel => exact ⟨i, c, rfl, by go_num, by omega, by omega, by omega, HP2, q4, q5⟩
        case measure => simp [intOf]; omega
      · obtain ⟨V, hV, HV⟩ : ∃ V, 0 ≤ V ∧ Hid (cvE jc rule y1 x1 = V) := ⟨_, by have := mt (cm_ltP (a := y1) (b := x1) HL.out).1 hc; omega, rfl⟩
        have dV : decide (V < 0) = false := decide_eq_false (by omega)
        have HP2 : Hid ((∀ x, a ≤ x → x < c + 1 → ¬ ltP jc rule (f m) (f x)) ∧ (∀ x, j ≤ x → x < m → ltP jc rule (f m) (f x))) := ⟨fun x h1 h2 h3 => by
            by_cases e : x = c
            · rw [e, Hx.out, Hy.out] at h3; exact hc h3
            · have e1 := HS.out x c (by omega) (by omega) (by omega)
              rw [Hx.out] at e1; rw [Hy.out] at h3; exact hc (ltP_trans h3 e1), HP.out.2⟩
        clear hc
        go_wp2
        go_region_held3 (fun w' => w'.cell? ⟨B, m, none⟩ = some (.int .i64 y1) ∧ w'.cell? ⟨B, c, none⟩ = some (.int .i64 x1) ∧ RP aj rule jc w' B N t f ∧ But B w w')
          (refine ⟨?_, ?_, ?_, ?_⟩ <;> first | assumption | (simp [*]; done))
          (first | (go_at_call 64; refine (cmp_eq _ _ V (by assumption) (by assumption) (by assumption) HV).mono ?_; rintro e w2 ⟨rfl, b2⟩; have qa0 : w2.cell? ⟨B, m, none⟩ = some (.int .i64 y1) := keep_cell b2 (by simp [*]); have qa1 : w2.cell? ⟨B, c, none⟩ = some (.int .i64 x1) := keep_cell b2 (by simp [*]); have q4 : RP aj rule jc w2 B N t f := rp_on (by assumption) b2; have q5 : But B w w2 := bel_rp (g := f) (N := N) (t := t) (by assumption) (by assumption) b2))
        go_wp2
        go_roundw
        case rel => exact ⟨c + 1, j, by go_num, rfl, by omega, by omega, hjm, HP2, q4, q5⟩
        case measure => simp [intOf]; omega
    · obtain rfl : i = j := by omega
      have lii : ¬ (i : Int) < (i : Int) := by omega
      have lib : (i : Int) ≤ (m : Int) := by omega
      go_wp2
      go_loopw [17] (fun u wq => ∃ k : Nat, u = .int .i64 (k : Int) ∧ i ≤ k ∧ k ≤ m ∧ Hid (RP aj rule jc wq B N t (rot k m (m + 1) f) ∧ But B w wq)) (fun u _ => (intOf u).toNat)
      case atStart => exact ⟨m, rfl, hjm, Nat.le_refl _, HW.out.1.congr (fun j _ => rot_none j), HW.out.2⟩
      case round =>
        clear HW
        rename_i wr0
        obtain ⟨k, rfl, hik, hkm, HW⟩ := hrel
        by_cases hk : i < k
        · obtain ⟨p, hkp⟩ : ∃ p, k = p + 1 := ⟨k - 1, by omega⟩
          have lk : (i : Int) < (k : Int) := by omega
          have lkN : (k : Int) < (N : Int) := by omega
          have lpN : (p : Int) < (N : Int) := by omega
          have ew : (k : Int) - 1 = (p : Int) := by omega
          have hwr : IntKind.i64.wrap ((k : Int) - 1) = (p : Int) := by rw [IntWalk.i64_in _ ⟨by omega, by omega⟩]; exact ew
          obtain ⟨hR, hB⟩ := HW.out
          obtain ⟨dx1, dx1r⟩ := hR.cell (j := k) (by omega)
          obtain ⟨dy1, dy1r⟩ := hR.cell (j := p) (by omega)
          have e1 : rot k m (m + 1) f k = y1 := by
            rw [rot_lo (by omega) (by omega), ← Hy.out]; congr 1; omega
          have e2 : rot k m (m + 1) f p = f p := rot_out (by omega) (by omega) (by omega)
          obtain ⟨x1, hx⟩ : ∃ x1, f p = x1 := ⟨_, rfl⟩
          rw [e1] at dx1 dx1r
          rw [e2, hx] at dy1 dy1r
          have r1 := hR.fr (k)
          have r3 := hR.fr (p)
          have HN : Hid (RP aj rule jc ((wr.setCell ⟨B, k, none⟩ (.int .i64 x1)).setCell ⟨B, p, none⟩ (.int .i64 y1)).drew B N t (rot p m (m + 1) f) ∧ But B w ((wr.setCell ⟨B, k, none⟩ (.int .i64 x1)).setCell ⟨B, p, none⟩ (.int .i64 y1)).drew) := by
            refine ⟨RP.drew (RP.congr ((hR.set (i := k) (by omega) x1).set (i := p) (by omega) y1) (fun j hj => ?_)), ((hB.setCell (Nat.le_refl _) _).setCell (Nat.le_refl _) _).drew⟩
            rw [rot_back (by omega), Hy.out, hx, ← hkp]
          have Hkp : Hid (k = p + 1) := hkp
          have lpk : p < k := by omega
          clear hR hB HW e1 e2 hx hkp ew
          go_wp2
          go_region
          go_wp2
          go_roundw
          case rel => exact ⟨p, by go_num, by have := Hkp.out; omega, by have := Hkp.out; omega, HN⟩
          case measure => have := Hkp.out; simp [intOf]; omega
        · obtain rfl : i = k := by omega
          have HN : Hid (∃ g, RP aj rule jc wr B N t g ∧ PermOn a b f g ∧ SortedOn (ltP jc rule) g a b ∧ But B w wr) := by
            have hm := Hm.out
            subst hm
            refine ⟨_, HW.out.1, (rot_perm (by omega) (by omega)).mono hai (Nat.le_refl _), one_right ⟨hai, hkm⟩ HS.out (fun x h1 h2 => ltP_total (by have := HD.out x m (by omega) (by omega) (Nat.le_refl _) (by omega); omega) (HP.out.1 x h1 h2)) HP.out.2, HW.out.2⟩
          clear HW HP
          go_wp2
          go_returns
          exact ⟨rfl, HN.out⟩
end Go.Proofs.Ytogolmbgboihdaa.Srt
