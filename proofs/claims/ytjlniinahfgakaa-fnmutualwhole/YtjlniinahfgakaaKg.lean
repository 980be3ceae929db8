/- insertionSort. -/
import Derived.Test.YtjlniinahfgakaaKf
namespace Go.Proofs.Ytjlniinahfgakaa
open Go.ChangeShapes Go.WideShapes Go.ChangeAt Go.RowKit
set_option linter.unusedVariables false
set_option linter.unusedSimpArgs false

theorem keep_cell' {W W' : World} {a : Addr} {v : Value} (h : Below W.heap.size W W') (hc : W.cell? a = some v) : W'.cell? a = some v := by
  have hlt : a.block < W.heap.size := by
    unfold World.cell? at hc
    rcases Nat.lt_or_ge a.block W.heap.size with r | r
    · exact r
    · rw [Array.getElem?_eq_none r] at hc; simp at hc
  rw [World.cell?_of_block (w := W) (h.block _ hlt)]; exact hc
theorem rb_on {W W' : World} {B N : Nat} {t : TypeId} {g : Nat → Int × Int} (H : RB W B N t g) (k : Below W.heap.size W W') : RB W' B N t g := H.below k H.lt
theorem bel_rb {A W W' : World} {B N : Nat} {t : TypeId} {g : Nat → Int × Int} (H : RB W B N t g) (h : Below B A W) (k : Below W.heap.size W W') : Below B A W' := h.trans (k.mono (Nat.le_of_lt H.lt))

/-- The comparison as told by a number V. -/
theorem compareRests_eq (a1 a2 b1 b2 V : Int) (w : World) (h : Hid (crV (a1, a2) (b1, b2) = V)) :
    Calls Try.prog 52 #[.agg #[.int .i64 a1, .int .i64 a2], .agg #[.int .i64 b1, .int .i64 b2]] w fun e w' => e = .returned (.int .i64 V) ∧ Below w.heap.size w w' := by
  rw [← h.out]; exact compareRests_any (a1, a2) (b1, b2) w

/-- What is apart stays apart. -/
theorem perm_apart {a b N : Nat} {f g : Nat → Int × Int} (x : PermOn a b f g) (hb : b ≤ N) (D : ∀ i j, i < N → j < N → i ≠ j → (f i).2 ≠ (f j).2) {i j : Nat} (h1 : a ≤ i) (h2 : i < b) (h3 : a ≤ j) (h4 : j < b) (h : i ≠ j) : (g i).2 ≠ (g j).2 := by
  obtain ⟨_, π, q1, q2⟩ := x
  obtain ⟨_, u1, u2⟩ := q1 i h1 h2
  obtain ⟨_, v1, v2⟩ := q1 j h3 h4
  rw [u2, v2]
  exact D _ _ (by omega) (by omega) (fun e => h (q2 i j h1 h2 h3 h4 e))

set_option maxHeartbeats 2000000 in
/-- The run from a to b is sorted; what was in it stays in it. -/
theorem insertion_any (B N cap a b : Nat) (t : TypeId) (f : Nat → Int × Int) (w : World) (hN : (N : Int) ≤ 1048576) (ha : a ≤ b) (hb : b ≤ N) (H : RB w B N t f) (D : ∀ i j, i < N → j < N → i ≠ j → (f i).2 ≠ (f j).2) :
    Calls Try.prog 91 #[.slice (some ⟨B, 0, none⟩) N cap, .int .i64 a, .int .i64 b, .func (Fn.func 52) #[] #[]] w fun e w' => e = .returned (.tuple #[]) ∧ ∃ g, RB w' B N t g ∧ PermOn a b f g ∧ SortedOn ltR g a b ∧ Below B w w' := by
  have HR : Hid (RB w B N t f) := H
  have HD : Hid (∀ i j, i < N → j < N → i ≠ j → (f i).2 ≠ (f j).2) := D
  clear H D
  have ia : (a : Int) ≤ 1048576 := by omega
  have ib : (b : Int) ≤ 1048576 := by omega
  go_enter Try.func91, Try.ntmps91
  go_wp2
  go_loopw [8] (fun i wr => ∃ k : Nat, a + 1 ≤ k ∧ (k = a + 1 ∨ k ≤ b) ∧ i = .int .i64 (k : Int) ∧ Hid (∃ g, RB wr B N t g ∧ PermOn a b f g ∧ SortedOn ltR g a k ∧ Below B w wr)) (fun i _ => b - (intOf i).toNat)
  case atStart => exact ⟨a + 1, Nat.le_refl _, .inl rfl, by go_num, f, HR.out, PermOn.refl _ _ _, fun p q _ _ _ => by omega, Below.refl _ _⟩
  case round =>
    obtain ⟨k, hk, hkb, rfl, hP⟩ := hrel
    by_cases hlt : k < b
    · have l1 : (k : Int) < (b : Int) := by omega
      go_wp2
      go_loopw [9] (fun j wq => ∃ m : Nat, a ≤ m ∧ m ≤ k ∧ j = .int .i64 (m : Int) ∧ Hid (∃ g, RB wq B N t g ∧ PermOn a b f g ∧ InsInv ltR g a k m ∧ Below B w wq)) (fun j _ => (intOf j).toNat)
      case atStart =>
        obtain ⟨g, q1, q2, q3, q4⟩ := hP.out
        exact ⟨k, by omega, Nat.le_refl _, rfl, g, q1, q2, InsInv.start q3 (by omega), q4⟩
      case round =>
        clear hP
        rename_i wr0
        obtain ⟨m, hm1, hm2, rfl, hQ⟩ := hrel
        have im : (m : Int) ≤ 1048576 := by omega
        by_cases hg : a < m
        · obtain ⟨p, hmp⟩ : ∃ p, m = p + 1 := ⟨m - 1, by omega⟩
          have dg : decide ((a : Int) < (m : Int)) = true := decide_eq_true (by omega)
          have ew : (m : Int) - 1 = (p : Int) := by omega
          have hwr : IntKind.i64.wrap ((m : Int) - 1) = (p : Int) := by rw [IntWalk.i64_in _ ⟨by omega, by omega⟩]; exact ew
          obtain ⟨g, hR, hp, hi, hB⟩ := hQ.out
          obtain ⟨c1, c2⟩ := hR.cell (j := m) (by omega)
          obtain ⟨c3, c4⟩ := hR.cell (j := p) (by omega)
          obtain ⟨x1, x2, hx⟩ : ∃ x1 x2, g m = (x1, x2) := ⟨_, _, rfl⟩
          obtain ⟨y1, y2, hy⟩ : ∃ y1 y2, g p = (y1, y2) := ⟨_, _, rfl⟩
          rw [hx] at c1 c2
          rw [hy] at c3 c4
          simp only at c1 c2 c3 c4
          have hRd : RB wr.drew B N t g := hR
          have hBd : Below B w wr.drew := hB.drew
          have Hx : Hid (g m = (x1, x2)) := hx
          have Hy : Hid (g p = (y1, y2)) := hy
          have Hp : Hid (PermOn a b f g) := hp
          have Hi : Hid (InsInv ltR g a k m) := hi
          have lm2 : (m : Int) < (N : Int) := by omega
          have lm3 : (p : Int) < (N : Int) := by omega
          have lm4 : (p : Int) ≤ 1048576 := by omega
          have Hmp : Hid (m = p + 1) := hmp
          have Hg : Hid (a < m) := hg
          have lg : (a : Int) < (m : Int) := by omega
          clear hx hy hR hB hp hi hQ hmp ew hg
          by_cases hc : ltR (x1, x2) (y1, y2)
          · obtain ⟨V, hV, HV⟩ : ∃ V, V < 0 ∧ Hid (crV (x1, x2) (y1, y2) = V) := ⟨-1, by omega, crV_lt hc⟩
            have dV : decide (V < 0) = true := decide_eq_true hV
            go_wp2
            go_region_held3 (fun w' => w'.cell? ⟨B, m * 2, none⟩ = some (.int .i64 x1) ∧ w'.cell? ⟨B, m * 2 + 1, none⟩ = some (.int .i64 x2) ∧ w'.cell? ⟨B, p * 2, none⟩ = some (.int .i64 y1) ∧ w'.cell? ⟨B, p * 2 + 1, none⟩ = some (.int .i64 y2) ∧ RB w' B N t g ∧ Below B w w')
              (refine ⟨?_, ?_, ?_, ?_, ?_, ?_⟩ <;> first | assumption | (simp [*]; done))
              (first | (go_at_call 52; refine (compareRests_eq _ _ _ _ V _ HV).mono ?_; rintro e w2 ⟨rfl, b2⟩; have q0 : w2.cell? ⟨B, m * 2, none⟩ = some (.int .i64 x1) := keep_cell' b2 (by simp [*]); have q1 : w2.cell? ⟨B, m * 2 + 1, none⟩ = some (.int .i64 x2) := keep_cell' b2 (by simp [*]); have q2 : w2.cell? ⟨B, p * 2, none⟩ = some (.int .i64 y1) := keep_cell' b2 (by simp [*]); have q3 : w2.cell? ⟨B, p * 2 + 1, none⟩ = some (.int .i64 y2) := keep_cell' b2 (by simp [*]); have q4 : RB w2 B N t g := rb_on (by assumption) b2; have q5 : Below B w w2 := bel_rb (g := g) (N := N) (t := t) (by assumption) (by assumption) b2))
            have HN : Hid (∃ g, RB ((((w2.setCell ⟨B, m * 2, none⟩ (.int .i64 y1)).setCell ⟨B, m * 2 + 1, none⟩ (.int .i64 y2)).setCell ⟨B, p * 2, none⟩ (.int .i64 x1)).setCell ⟨B, p * 2 + 1, none⟩ (.int .i64 x2)).drew B N t g ∧ PermOn a b f g ∧ InsInv ltR g a k p ∧ Below B w ((((w2.setCell ⟨B, m * 2, none⟩ (.int .i64 y1)).setCell ⟨B, m * 2 + 1, none⟩ (.int .i64 y2)).setCell ⟨B, p * 2, none⟩ (.int .i64 x1)).setCell ⟨B, p * 2 + 1, none⟩ (.int .i64 x2)).drew) := by
              have e := Hmp.out
              have hg := Hg.out
              refine ⟨swp g m (m - 1), RB.congr ((q4.set (i := m) (by omega) y1 y2).set (i := p) (by omega) x1 x2) (fun j hj => ?_), Hp.out.trans (swp_perm (by omega) (by omega)), ?_, ((((q5.setCell (Nat.le_refl _) _).setCell (Nat.le_refl _) _).setCell (Nat.le_refl _) _).setCell (Nat.le_refl _) _).drew⟩
              · unfold swp
                rw [show m - 1 = p by omega, Hx.out, Hy.out]
                by_cases z1 : j = p
                · rw [if_neg (by omega), if_pos z1, if_pos z1]
                · rw [if_neg z1, if_neg z1]
              · have := Hi.out.step (by omega) (by rw [show m - 1 = p by omega, Hx.out, Hy.out]; exact hc)
                rw [show m - 1 = p by omega] at this ⊢; exact this
            have r1 := q4.fr (m * 2)
            have r2 := q4.fr (m * 2 + 1)
            have r3 := q4.fr (p * 2)
            have r4 := q4.fr (p * 2 + 1)
            have hz : p + 1 = m := Hmp.out.symm
            have HZ : Hid (p + 1 = m) := hz
            have lpm : p < m := by omega
            clear hz c1 c2 c3 c4 hRd hBd q4 q5 b2
            go_wp2
            go_region
            go_wp2
            go_roundw
            case rel => exact ⟨p, by have := Hmp.out; have := Hg.out; omega, by have := Hmp.out; omega, by go_num, HN⟩
            case measure => have := Hmp.out; simp [intOf]; omega
          · obtain ⟨V, hV, HV⟩ : ∃ V, 0 ≤ V ∧ Hid (crV (x1, x2) (y1, y2) = V) := by
              rcases crV_ge hc with e | e
              · exact ⟨0, by omega, e⟩
              · exact ⟨1, by omega, e⟩
            have dV : decide (V < 0) = false := decide_eq_false (by omega)
            go_wp2
            go_region_held3 (fun w' => w'.cell? ⟨B, m * 2, none⟩ = some (.int .i64 x1) ∧ w'.cell? ⟨B, m * 2 + 1, none⟩ = some (.int .i64 x2) ∧ w'.cell? ⟨B, p * 2, none⟩ = some (.int .i64 y1) ∧ w'.cell? ⟨B, p * 2 + 1, none⟩ = some (.int .i64 y2) ∧ RB w' B N t g ∧ Below B w w')
              (refine ⟨?_, ?_, ?_, ?_, ?_, ?_⟩ <;> first | assumption | (simp [*]; done))
              (first | (go_at_call 52; refine (compareRests_eq _ _ _ _ V _ HV).mono ?_; rintro e w2 ⟨rfl, b2⟩; have q0 : w2.cell? ⟨B, m * 2, none⟩ = some (.int .i64 x1) := keep_cell' b2 (by simp [*]); have q1 : w2.cell? ⟨B, m * 2 + 1, none⟩ = some (.int .i64 x2) := keep_cell' b2 (by simp [*]); have q2 : w2.cell? ⟨B, p * 2, none⟩ = some (.int .i64 y1) := keep_cell' b2 (by simp [*]); have q3 : w2.cell? ⟨B, p * 2 + 1, none⟩ = some (.int .i64 y2) := keep_cell' b2 (by simp [*]); have q4 : RB w2 B N t g := rb_on (by assumption) b2; have q5 : Below B w w2 := bel_rb (g := g) (N := N) (t := t) (by assumption) (by assumption) b2))
            have HN : Hid (∃ g, RB w2 B N t g ∧ PermOn a b f g ∧ SortedOn ltR g a (k + 1) ∧ Below B w w2) := by
              have e := Hmp.out
              have hg := Hg.out
              have ap := perm_apart Hp.out hb HD.out (i := m) (j := p) (by omega) (by omega) (by omega) (by omega) (by omega)
              rw [Hx.out, Hy.out] at ap
              exact ⟨g, q4, Hp.out, Hi.out.done (fun x y z => ltR_trans) (.inr (by rw [show m - 1 = p by omega, Hx.out, Hy.out]; exact ltR_total ap hc)), q5⟩
            go_wp2
            go_roundw
            case rel => exact ⟨k + 1, by omega, .inr (by omega), by go_num, HN⟩
            case measure => simp [intOf]; omega
        · have dg : decide ((a : Int) < (m : Int)) = false := decide_eq_false (by omega)
          have HN : Hid (∀ q, ∃ g, RB (wr.drewN q) B N t g ∧ PermOn a b f g ∧ SortedOn ltR g a (k + 1) ∧ Below B w (wr.drewN q)) := by
            obtain ⟨g, hR, hp, hi, hB⟩ := hQ.out
            exact fun q => ⟨g, hR, hp, hi.done (fun x y z => ltR_trans) (.inl (by omega)), ⟨hB.os, hB.tape, hB.output, hB.size, hB.block⟩⟩
          go_wp2
          go_quiet ((fail))
          go_wp2
          go_roundw
          case rel => exact ⟨k + 1, by omega, .inr (by omega), by go_num, HN.out _⟩
          case measure => simp [intOf]; omega
    · have l1 : ¬ (k : Int) < (b : Int) := by omega
      have HN : Hid (∃ g, RB wr B N t g ∧ PermOn a b f g ∧ SortedOn ltR g a b ∧ Below B w wr) := by
        obtain ⟨g, q1, q2, q3, q4⟩ := hP.out
        exact ⟨g, q1, q2, fun p q r1 r2 r3 => q3 p q r1 r2 (by omega), q4⟩
      go_wp2
      go_returns
      exact ⟨rfl, HN.out⟩
end Go.Proofs.Ytjlniinahfgakaa
