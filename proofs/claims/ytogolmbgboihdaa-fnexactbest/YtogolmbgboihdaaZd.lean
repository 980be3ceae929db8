/- insertionSort over placed bills. -/
import Derived.Test.YtogolmbgboihdaaZb
import Derived.Test.YtogolmbgboihdaaSq
import Derived.Deep.RegionHeld3
namespace Go.Proofs.Ytogolmbgboihdaa.Srt
open Go Go.ChangeShapes Go.WideShapes Go.ChangeAt Go.RowKit
set_option linter.unusedVariables false
set_option linter.unusedSimpArgs false
variable {aj : Option Addr} {jk : Nat} {rule : Int} {jc : Nat → JB}

theorem rp_on {W W' : World} {B N : Nat} {t : TypeId} {g : Nat → Int} (H : RP aj rule jc W B N t g) (k : Below W.heap.size W W') : RP aj rule jc W' B N t g := H.below k H.lt
theorem bel_rp {A W W' : World} {B N : Nat} {t : TypeId} {g : Nat → Int} (H : RP aj rule jc W B N t g) (h : But B A W) (k : Below W.heap.size W W') : But B A W' := h.on k
/-- What has not been inserted yet is as it was, and came behind all that has been. -/
def OuP (a b k : Nat) (f g : Nat → Int) : Prop := (∀ r, k ≤ r → g r = f r) ∧ ∀ q r, a ≤ q → q < k → k ≤ r → r < b → (g q) < (f r)
/-- The one at m came behind the others. -/
def InP (a b k m : Nat) (f g : Nat → Int) : Prop := OuP a b (k + 1) f g ∧ ∀ q, a ≤ q → q ≤ k → q ≠ m → (g q) < (g m)
section
variable {a b k m : Nat} {f g : Nat → Int}
def Asc (a b : Nat) (f : Nat → Int) : Prop := ∀ i j, a ≤ i → i < j → j < b → (f i) < (f j)
theorem OuP.start (A : Asc a b f) : OuP a b (a + 1) f f := ⟨fun _ _ => rfl, fun q r h1 h2 h3 h4 => A q r h1 (by omega) h4⟩
theorem InP.start (A : Asc a b f) (hk : a + 1 ≤ k) (hkb : k < b) (h : OuP a b k f g) : InP a b k k f g := by
  have e := h.1 k (Nat.le_refl _)
  refine ⟨⟨fun r hr => h.1 r (by omega), fun q r h1 h2 h3 h4 => ?_⟩, fun q h1 h2 h3 => by rw [e]; exact h.2 q k h1 (by omega) (Nat.le_refl _) hkb⟩
  by_cases hq : q = k
  · subst hq; rw [e]; exact A q r h1 (by omega) h4
  · exact h.2 q r h1 (by omega) (by omega) h4
theorem InP.step (h : InP a b k m f g) (hm : a < m) (hmk : m ≤ k) : InP a b k (m - 1) f (swp g m (m - 1)) := by
  refine ⟨⟨fun r hr => by rw [swp_o (by omega) (by omega)]; exact h.1.1 r hr, fun q r h1 h2 h3 h4 => ?_⟩, fun q h1 h2 h3 => ?_⟩
  · by_cases q1 : q = m
    · subst q1; rw [swp_l]; exact h.1.2 _ r (by omega) (by omega) h3 h4
    · by_cases q2 : q = m - 1
      · subst q2; rw [swp_r]; exact h.1.2 _ r (by omega) (by omega) h3 h4
      · rw [swp_o q1 q2]; exact h.1.2 q r h1 h2 h3 h4
  · rw [swp_r]
    by_cases q1 : q = m
    · subst q1; rw [swp_l]; exact h.2 _ (by omega) (by omega) (by omega)
    · rw [swp_o q1 h3]; exact h.2 q h1 h2 q1
end
set_option maxRecDepth 20000 in
set_option maxHeartbeats 4000000 in
theorem insertionP_any (B N cap a b : Nat) (t : TypeId) (f : Nat → Int) (w : World) (hN : (N : Int) ≤ 1048576) (ha : a ≤ b) (hb : b ≤ N) (H : RP aj rule jc w B N t f) (A : Asc a b f) :
    Calls Try.prog 116 #[.slice (some ⟨B, 0, none⟩) N cap, .int .i64 a, .int .i64 b, .func (Fn.func 64) #[.agg #[.slice aj N jk, .int .i64 rule]] #[]] w fun e w' => e = .returned (.tuple #[]) ∧ ∃ g, RP aj rule jc w' B N t g ∧ PermOn a b f g ∧ SortedOn (ltP jc rule) g a b ∧ But B w w' := by
  have HR : Hid (RP aj rule jc w B N t f) := H
  have HA : Hid (Asc a b f) := A
  clear H A
  have ia : (a : Int) ≤ 1048576 := by omega
  have ib : (b : Int) ≤ 1048576 := by omega
  go_enter Try.func116, Try.ntmps116
  go_wp2
  go_loopw [8] (fun i wr => ∃ k : Nat, a + 1 ≤ k ∧ (k = a + 1 ∨ k ≤ b) ∧ i = .int .i64 (k : Int) ∧ Hid (∃ g, RP aj rule jc wr B N t g ∧ PermOn a b f g ∧ SortedOn (ltP jc rule) g a k ∧ OuP a b k f g ∧ But B w wr)) (fun i _ => b - (intOf i).toNat)
  case atStart => exact ⟨a + 1, Nat.le_refl _, .inl rfl, by go_num, f, HR.out, PermOn.refl _ _ _, fun p q _ _ _ => by omega, OuP.start HA.out, But.refl _ _⟩
  case round =>
    obtain ⟨k, hk, hkb, rfl, hP⟩ := hrel
    by_cases hlt : k < b
    · have l1 : (k : Int) < (b : Int) := by omega
      go_wp2
      go_loopw [9] (fun j wq => ∃ m : Nat, a ≤ m ∧ m ≤ k ∧ j = .int .i64 (m : Int) ∧ Hid (∃ g, RP aj rule jc wq B N t g ∧ PermOn a b f g ∧ InsInv (ltP jc rule) g a k m ∧ InP a b k m f g ∧ But B w wq)) (fun j _ => (intOf j).toNat)
      case atStart =>
        obtain ⟨g, q1, q2, q3, q5, q4⟩ := hP.out
        exact ⟨k, by omega, Nat.le_refl _, rfl, g, q1, q2, InsInv.start q3 (by omega), InP.start HA.out hk hlt q5, q4⟩
      case round =>
        clear hP
        rename_i wr0
        obtain ⟨m, hm1, hm2, rfl, hQ⟩ := hrel
        have im : (m : Int) ≤ 1048576 := by omega
        by_cases hg : a < m
        · obtain ⟨p, hmp⟩ : ∃ p, m = p + 1 := ⟨m - 1, by omega⟩
          have dg : decide ((a : Int) < (m : Int)) = true := decide_eq_true (by omega)
          have ew : (m : Int) - 1 = (p : Int) := by omega
          have hwr : IntKind.i64.wrap ((m : Int) - 1) = (p : Int) := by rw [IntWalk.i64_in _ ⟨by omega, by omega⟩]; exact ew
          obtain ⟨g, hR, hp, hi, hin, hB⟩ := hQ.out
          obtain ⟨c1, c1r⟩ := hR.cell (j := m) (by omega)
          obtain ⟨d1, d1r⟩ := hR.cell (j := p) (by omega)
          have hpl : (g p) < (g m) := hin.2 p (by omega) (by omega) (by omega)
          obtain ⟨x1, hx⟩ : ∃ x1, g m = x1 := ⟨_, rfl⟩
          obtain ⟨y1, hy⟩ : ∃ y1, g p = y1 := ⟨_, rfl⟩
          rw [hx] at c1 hpl c1r
          rw [hy] at d1 hpl d1r
          have hRd : RP aj rule jc wr.drew B N t g := hR.drew
          have hBd : But B w wr.drew := hB.drew
          have Hx : Hid (g m = x1) := hx
          have Hy : Hid (g p = y1) := hy
          have Hp : Hid (PermOn a b f g) := hp
          have Hi : Hid (InsInv (ltP jc rule) g a k m) := hi
          have HI : Hid (InP a b k m f g) := hin
          have HL : Hid (y1 < x1) := hpl
          have lm2 : (m : Int) < (N : Int) := by omega
          have lm3 : (p : Int) < (N : Int) := by omega
          have lm4 : (p : Int) ≤ 1048576 := by omega
          have Hmp : Hid (m = p + 1) := hmp
          have Hg : Hid (a < m) := hg
          have lg : (a : Int) < (m : Int) := by omega
          clear hx hy hR hB hp hi hin hQ hmp ew hg hpl
          by_cases hc : ltP jc rule x1 y1
          · obtain ⟨V, hV, HV⟩ : ∃ V, V < 0 ∧ Hid (cvE jc rule x1 y1 = V) := ⟨_, (cm_ltP (a := x1) (b := y1) HL.out).2 hc, rfl⟩
            have dV : decide (V < 0) = true := decide_eq_true hV
            go_wp2
            go_region_held3 (fun w' => w'.cell? ⟨B, m, none⟩ = some (.int .i64 x1) ∧ w'.cell? ⟨B, p, none⟩ = some (.int .i64 y1) ∧ RP aj rule jc w' B N t g ∧ But B w w')
              (refine ⟨?_, ?_, ?_, ?_⟩ <;> first | assumption | (simp [*]; done))
              (first | (go_at_call 64; refine (cmp_eq _ _ V (by assumption) (by assumption) (by assumption) HV).mono ?_; rintro e w2 ⟨rfl, b2⟩; have q0 : w2.cell? ⟨B, m, none⟩ = some (.int .i64 x1) := keep_cell b2 (by simp [*]); have q1 : w2.cell? ⟨B, p, none⟩ = some (.int .i64 y1) := keep_cell b2 (by simp [*]); have qR : RP aj rule jc w2 B N t g := rp_on (by assumption) b2; have qB : But B w w2 := bel_rp (g := g) (N := N) (t := t) (by assumption) (by assumption) b2))
            have HN : Hid (∃ g, RP aj rule jc ((w2.setCell ⟨B, m, none⟩ (.int .i64 y1)).setCell ⟨B, p, none⟩ (.int .i64 x1)).drew B N t g ∧ PermOn a b f g ∧ InsInv (ltP jc rule) g a k p ∧ InP a b k p f g ∧ But B w ((w2.setCell ⟨B, m, none⟩ (.int .i64 y1)).setCell ⟨B, p, none⟩ (.int .i64 x1)).drew) := by
              have e := Hmp.out
              have hg := Hg.out
              have hst := HI.out.step (by omega) (by omega)
              rw [show m - 1 = p by omega] at hst
              refine ⟨swp g m p, RP.drew (RP.congr ((qR.set (i := m) (by omega) y1).set (i := p) (by omega) x1) (fun j hj => ?_)), Hp.out.trans (swp_perm (by omega) (by omega)), ?_, hst, ((qB.setCell (Nat.le_refl _) _).setCell (Nat.le_refl _) _).drew⟩
              · unfold swp
                rw [Hx.out, Hy.out]
                by_cases z1 : j = p
                · rw [if_neg (by omega), if_pos z1, if_pos z1]
                · rw [if_neg z1, if_neg z1]
              · have := Hi.out.step (by omega) (by rw [show m - 1 = p by omega, Hx.out, Hy.out]; exact hc)
                rw [show m - 1 = p by omega] at this; exact this
            have r1 := qR.fr (m)
            have r2 := qR.fr (p)
            have hz : p + 1 = m := Hmp.out.symm
            have HZ : Hid (p + 1 = m) := hz
            have lpm : p < m := by omega
            clear hz c1 d1 hRd hBd qR qB b2 c1r d1r
            go_wp2
            go_region
            go_wp2
            go_roundw
            case rel => exact ⟨p, by have := Hmp.out; have := Hg.out; omega, by have := Hmp.out; omega, by go_num, HN⟩
            case measure => have := Hmp.out; simp [intOf]; omega
          · obtain ⟨V, hV, HV⟩ : ∃ V, 0 ≤ V ∧ Hid (cvE jc rule x1 y1 = V) := ⟨_, by have := mt (cm_ltP (a := x1) (b := y1) HL.out).1 hc; omega, rfl⟩
            have dV : decide (V < 0) = false := decide_eq_false (by omega)
            go_wp2
            go_region_held3 (fun w' => w'.cell? ⟨B, m, none⟩ = some (.int .i64 x1) ∧ w'.cell? ⟨B, p, none⟩ = some (.int .i64 y1) ∧ RP aj rule jc w' B N t g ∧ But B w w')
              (refine ⟨?_, ?_, ?_, ?_⟩ <;> first | assumption | (simp [*]; done))
              (first | (go_at_call 64; refine (cmp_eq _ _ V (by assumption) (by assumption) (by assumption) HV).mono ?_; rintro e w2 ⟨rfl, b2⟩; have q0 : w2.cell? ⟨B, m, none⟩ = some (.int .i64 x1) := keep_cell b2 (by simp [*]); have q1 : w2.cell? ⟨B, p, none⟩ = some (.int .i64 y1) := keep_cell b2 (by simp [*]); have qR : RP aj rule jc w2 B N t g := rp_on (by assumption) b2; have qB : But B w w2 := bel_rp (g := g) (N := N) (t := t) (by assumption) (by assumption) b2))
            have HN : Hid (∃ g, RP aj rule jc w2 B N t g ∧ PermOn a b f g ∧ SortedOn (ltP jc rule) g a (k + 1) ∧ OuP a b (k + 1) f g ∧ But B w w2) := by
              have e := Hmp.out
              have hg := Hg.out
              have ap : x1 ≠ y1 := by have := HL.out; omega
              exact ⟨g, qR, Hp.out, Hi.out.done (fun x y z => ltP_trans) (.inr (by rw [show m - 1 = p by omega, Hx.out, Hy.out]; exact ltP_total ap hc)), HI.out.1, qB⟩
            go_wp2
            go_roundw
            case rel => exact ⟨k + 1, by omega, .inr (by omega), by go_num, HN⟩
            case measure => simp [intOf]; omega
        · have dg : decide ((a : Int) < (m : Int)) = false := decide_eq_false (by omega)
          have HN : Hid (∀ q, ∃ g, RP aj rule jc (wr.drewN q) B N t g ∧ PermOn a b f g ∧ SortedOn (ltP jc rule) g a (k + 1) ∧ OuP a b (k + 1) f g ∧ But B w (wr.drewN q)) := by
            obtain ⟨g, hR, hp, hi, hin, hB⟩ := hQ.out
            exact fun q => ⟨g, hR.drewN q, hp, hi.done (fun x y z => ltP_trans) (.inl (by omega)), hin.1, ⟨hB.os, hB.tape, hB.output, hB.size, hB.block⟩⟩
          go_wp2
          go_quiet ((fail))
          go_wp2
          go_roundw
          case rel => exact ⟨k + 1, by omega, .inr (by omega), by go_num, HN.out _⟩
          case measure => simp [intOf]; omega
    · have l1 : ¬ (k : Int) < (b : Int) := by omega
      have HN : Hid (∃ g, RP aj rule jc wr B N t g ∧ PermOn a b f g ∧ SortedOn (ltP jc rule) g a b ∧ But B w wr) := by
        obtain ⟨g, q1, q2, q3, q5, q4⟩ := hP.out
        exact ⟨g, q1, q2, fun p q r1 r2 r3 => q3 p q r1 r2 (by omega), q4⟩
      go_wp2
      go_returns
      exact ⟨rfl, HN.out⟩
end Go.Proofs.Ytogolmbgboihdaa.Srt
