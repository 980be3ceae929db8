/- Rows of places of jobs in a block of their own; swapRange. -/
import Derived.Test.YtogolmbgboihdaaRa
import Derived.Test.YtogolmbgboihdaaSq
import Derived.BigRegion
import Derived.Deep.RegionHeld3
namespace Go.Proofs.Ytogolmbgboihdaa.Srt
open Go Go.ChangeShapes Go.WideShapes Go.ChangeAt Go.RowKit
set_option linter.unusedVariables false
set_option linter.unusedSimpArgs false

variable {aj : Option Addr} {jk : Nat} {rule : Int} {jc : Nat → JB}
/-- All blocks that were there are kept, but for B. -/
structure But (B : Nat) (w w' : World) : Prop where
  os : w'.os = w.os
  tape : w'.tape = w.tape
  output : w'.output = w.output
  size : w.heap.size ≤ w'.heap.size
  block : ∀ k, k < w.heap.size → k ≠ B → w'.heap[k]? = w.heap[k]?
section
variable {w w' w'' : World} {B : Nat}
theorem But.refl (B : Nat) (w : World) : But B w w := ⟨rfl, rfl, rfl, Nat.le_refl _, fun _ _ _ => rfl⟩
theorem But.trans (h : But B w w') (k : But B w' w'') : But B w w'' := ⟨k.os.trans h.os, k.tape.trans h.tape, k.output.trans h.output, Nat.le_trans h.size k.size, fun y h1 h2 => (k.block y (Nat.lt_of_lt_of_le h1 h.size) h2).trans (h.block y h1 h2)⟩
theorem But.of_below (k : Below w.heap.size w w') : But B w w' := ⟨k.os, k.tape, k.output, k.size, fun y h _ => k.block y h⟩
theorem But.on (h : But B w w') (k : Below w'.heap.size w' w'') : But B w w'' := h.trans (But.of_below k)
theorem But.drew (h : But B w w') : But B w w'.drew := h.on (Below.refl _ _).drew
theorem But.setCell (h : But B w w') (_ : B ≤ B) {o : Nat} (v : Value) : But B w (w'.setCell ⟨B, o, none⟩ v) := by
  have b := (Below.refl B w').setCell (p := ⟨B, o, none⟩) (Nat.le_refl B) v
  exact h.trans ⟨b.os, b.tape, b.output, b.size, fun y h1 h2 => Below.heap_setCell _ _ _ _ (by simpa using h2)⟩
theorem But.below (h : But B w w') {L : Nat} (hL : L ≤ B) (hw : L ≤ w.heap.size) : Below L w w' := ⟨h.os, h.tape, h.output, h.size, fun y hy => h.block y (by omega) (by omega)⟩
theorem But.drewN (h : But B w w') (q : Nat) : But B w (w'.drewN q) := ⟨h.os, h.tape, h.output, h.size, h.block⟩
end
/-- What the comparison tells. -/
def cvE (jc : Nat → JB) (rule : Int) (a b : Int) : Int := cm (keyV (jc a.toNat) rule) (keyV (jc b.toNat) rule)
/-- The order, then by the place. -/
def ltP (jc : Nat → JB) (rule : Int) (a b : Int) : Prop := keyV (jc a.toNat) rule < keyV (jc b.toNat) rule ∨ (keyV (jc a.toNat) rule = keyV (jc b.toNat) rule ∧ a < b)
instance (a b : Int) : Decidable (ltP jc rule a b) := by unfold ltP; infer_instance
theorem ltP_trans {a b c : Int} (h1 : ltP jc rule a b) (h2 : ltP jc rule b c) : ltP jc rule a c := by unfold ltP at *; omega
theorem ltP_total {a b : Int} (h : a ≠ b) (h1 : ¬ ltP jc rule a b) : ltP jc rule b a := by unfold ltP at *; omega
theorem cm_ltP {a b : Int} (h : b < a) : cvE jc rule a b < 0 ↔ ltP jc rule a b := by
  unfold cvE cm ltP
  repeat' split
  all_goals omega

/-- Block b holds n places of jobs, f 0, f 1, ..; the jobs lie where they lay, below it. -/
def RP (aj : Option Addr) (rule : Int) (jc : Nat → JB) (w : World) (b n : Nat) (t : TypeId) (f : Nat → Int) : Prop :=
  (∃ cs, CB w b cs t ∧ n ≤ cs.size ∧ ∀ j, j < n → cs[j]? = some (.int .i64 (f j))) ∧ (∀ j, j < n → 0 ≤ f j ∧ f j < (n : Int)) ∧ (∃ w0, JBr w0 aj n jc ∧ w0.heap.size ≤ b ∧ Below w0.heap.size w0 w) ∧ ((n : Int) ≤ 40 ∧ (∀ j, j < n → jbB (jc j) = true) ∧ 1 ≤ rule ∧ rule ≤ 4)
section
variable {w w' : World} {b n : Nat} {t : TypeId} {f g : Nat → Int}
theorem RP.lt (H : RP aj rule jc w b n t f) : b < w.heap.size := by obtain ⟨⟨cs, h, _⟩, _⟩ := H; exact h.lt
theorem RP.cell (H : RP aj rule jc w b n t f) {j : Nat} (h : j < n) : w.cell? ⟨b, j, none⟩ = some (.int .i64 (f j)) ∧ (0 ≤ f j ∧ f j < (n : Int)) := by
  obtain ⟨⟨cs, h1, h2, h3⟩, h4, _⟩ := H
  rw [h1.cell]; exact ⟨h3 j h, h4 j h⟩
theorem RP.fr (H : RP aj rule jc w b n t f) (o : Nat) : w.frozen? ⟨b, o, none⟩ = false := by obtain ⟨⟨cs, h, _⟩, _⟩ := H; exact h.fr o
theorem RP.below {B : Nat} (H : RP aj rule jc w b n t f) (k : Below B w w') (h : b < B) : RP aj rule jc w' b n t f := by
  obtain ⟨⟨cs, h1, h2⟩, h4, ⟨w0, g1, g2, g3⟩, h5⟩ := H; exact ⟨⟨cs, h1.below k h, h2⟩, h4, ⟨w0, g1, g2, g3.trans (k.mono (by omega))⟩, h5⟩
theorem RP.congr (H : RP aj rule jc w b n t f) (h : ∀ j, j < n → g j = f j) : RP aj rule jc w b n t g := by
  obtain ⟨⟨cs, h1, h2, h3⟩, h4, h5⟩ := H; exact ⟨⟨cs, h1, h2, fun j hj => by rw [h j hj]; exact h3 j hj⟩, fun j hj => by rw [h j hj]; exact h4 j hj, h5⟩
theorem RP.drew (H : RP aj rule jc w b n t f) : RP aj rule jc w.drew b n t f := by obtain ⟨h1, h2, ⟨w0, g1, g2, g3⟩, h5⟩ := H; exact ⟨h1, h2, ⟨w0, g1, g2, g3.drew⟩, h5⟩
theorem RP.drewN (H : RP aj rule jc w b n t f) (q : Nat) : RP aj rule jc (w.drewN q) b n t f := by obtain ⟨h1, h2, ⟨w0, g1, g2, g3⟩, h5⟩ := H; exact ⟨h1, h2, ⟨w0, g1, g2, bd_N g3 q⟩, h5⟩
/-- A place is written. -/
theorem RP.set (H : RP aj rule jc w b n t f) {i : Nat} (hi : i < n) (x1 : Int) (hx : 0 ≤ x1 ∧ x1 < (n : Int) := by assumption) :
    RP aj rule jc (w.setCell ⟨b, i, none⟩ (.int .i64 x1)) b n t (fun j => if j = i then x1 else f j) := by
  obtain ⟨⟨cs, h1, h2, h3⟩, h4, ⟨w0, g1, g2, g3⟩, h5⟩ := H
  refine ⟨⟨_, h1.set _ _, by simpa using h2, fun j hj => ?_⟩, fun j hj => ?_, ⟨w0, g1, g2, g3.setCell (by simp; omega) _⟩, h5⟩
  · by_cases e : j = i
    · subst e; simp only [if_true]; rw [Array.getElem?_setIfInBounds_self_of_lt (by omega)]
    · simp only [if_neg e]; rw [Array.getElem?_setIfInBounds_ne (by omega)]; exact h3 j hj
  · by_cases e : j = i
    · subst e; simp only [if_true]; exact hx
    · simp only [if_neg e]; exact h4 j hj
end
theorem cmp_eq {w : World} {B N : Nat} {t : TypeId} {g : Nat → Int} (x1 y1 V : Int) (H : RP aj rule jc w B N t g) (hx : 0 ≤ x1 ∧ x1 < (N : Int)) (hy : 0 ≤ y1 ∧ y1 < (N : Int)) (h : Hid (cvE jc rule x1 y1 = V)) :
    Calls Try.prog 64 #[.agg #[.slice aj N jk, .int .i64 rule], .int .i64 x1, .int .i64 y1] w fun e w' => e = .returned (.int .i64 V) ∧ Below w.heap.size w w' := by
  obtain ⟨h1, h2, ⟨w0, g1, g2, g3⟩, h4, h5, h6⟩ := H
  obtain ⟨i, rfl⟩ : ∃ i : Nat, x1 = (i : Int) := ⟨x1.toNat, by omega⟩
  obtain ⟨j, rfl⟩ : ∃ j : Nat, y1 = (j : Int) := ⟨y1.toNat, by omega⟩
  exact rcompare_any aj N jk jc rule i j V w h4 (by omega) (by omega) h5 (g1.below g3) h6 h.out

/-- The first i of the two runs at a and at b have changed places. -/
def swP (f : Nat → Int) (a b i : Nat) (k : Nat) : Int := if a ≤ k ∧ k < a + i then f (b + (k - a)) else if b ≤ k ∧ k < b + i then f (a + (k - b)) else f k

theorem swP_step {w wr : World} {B N a b n k : Nat} {t : TypeId} {f : Nat → Int} (ha : a + n ≤ b) (hb : b + n ≤ N) (hlt : k < n) (hP : RP aj rule jc wr B N t (swP f a b k) ∧ But B w wr) : RP aj rule jc ((wr.setCell ⟨B, (a + k), none⟩ (.int .i64 (f (b + k)))).setCell ⟨B, (b + k), none⟩ (.int .i64 (f (a + k)))).drew B N t (swP f a b (k + 1)) ∧ But B w ((wr.setCell ⟨B, (a + k), none⟩ (.int .i64 (f (b + k)))).setCell ⟨B, (b + k), none⟩ (.int .i64 (f (a + k)))).drew := by
  have ra : 0 ≤ f (a + k) ∧ f (a + k) < (N : Int) := by
    have := (hP.1.cell (j := a + k) (by omega)).2
    have e : swP f a b k (a + k) = f (a + k) := by unfold swP; rw [if_neg (by omega), if_neg (by omega)]
    rw [e] at this; exact this
  have rb : 0 ≤ f (b + k) ∧ f (b + k) < (N : Int) := by
    have := (hP.1.cell (j := b + k) (by omega)).2
    have e : swP f a b k (b + k) = f (b + k) := by unfold swP; rw [if_neg (by omega), if_neg (by omega)]
    rw [e] at this; exact this
  refine ⟨RP.drew (RP.congr (((hP.1.set (i := a + k) (by omega) (f (b + k))).set (i := b + k) (by omega) (f (a + k)))) (fun j hj => ?_)), ((hP.2.setCell (Nat.le_refl _) _).setCell (Nat.le_refl _) _).drew⟩
  unfold swP
  by_cases q1 : j = b + k
  · subst q1; rw [if_neg (by omega), if_pos (by omega), if_pos rfl, show a + (b + k - b) = a + k by omega]
  · by_cases q2 : j = a + k
    · subst q2; rw [if_pos (by omega), if_neg q1, if_pos rfl, show b + (a + k - a) = b + k by omega]
    · rw [if_neg q1, if_neg q2]
      by_cases q3 : a ≤ j ∧ j < a + k
      · rw [if_pos q3, if_pos (by omega)]
      · rw [if_neg q3, if_neg (by omega)]
        by_cases q4 : b ≤ j ∧ j < b + k
        · rw [if_pos q4, if_pos (by omega)]
        · rw [if_neg q4, if_neg (by omega)]
set_option maxHeartbeats 4000000 in
theorem swapRangeP_any (B N cap a b n : Nat) (t : TypeId) (f : Nat → Int) (fv : Value) (w : World) (hN : (N : Int) ≤ 1048576) (ha : a + n ≤ b) (hb : b + n ≤ N) (H : RP aj rule jc w B N t f) :
    Calls Try.prog 119 #[.slice (some ⟨B, 0, none⟩) N cap, .int .i64 a, .int .i64 b, .int .i64 n, fv] w fun e w' => e = .returned (.tuple #[]) ∧ RP aj rule jc w' B N t (swP f a b n) ∧ But B w w' := by
  have HR : Hid (RP aj rule jc w B N t f) := H
  clear H
  have ia : (a : Int) ≤ 1048576 := by omega
  have ib : (b : Int) ≤ 1048576 := by omega
  have inn : (n : Int) ≤ 1048576 := by omega
  go_enter Try.func119, Try.ntmps119
  go_wp2
  go_loopw [10] (fun i wr => ∃ k : Nat, k ≤ n ∧ i = .int .i64 (k : Int) ∧ Hid (RP aj rule jc wr B N t (swP f a b k) ∧ But B w wr)) (fun i _ => n - (intOf i).toNat)
  case atStart => exact ⟨0, Nat.zero_le _, rfl, HR.out.congr (fun j _ => by unfold swP; rw [if_neg (by omega), if_neg (by omega)]), But.refl _ _⟩
  case round =>
    obtain ⟨k, hk, rfl, hP⟩ := hrel
    by_cases hlt : k < n
    · obtain ⟨u1, u1r⟩ := hP.out.1.cell (j := a + k) (by omega)
      obtain ⟨v1, v1r⟩ := hP.out.1.cell (j := b + k) (by omega)
      have e1 : swP f a b k (a + k) = f (a + k) := by unfold swP; rw [if_neg (by omega), if_neg (by omega)]
      have e2 : swP f a b k (b + k) = f (b + k) := by unfold swP; rw [if_neg (by omega), if_neg (by omega)]
      rw [e1] at u1 u1r
      rw [e2] at v1 v1r
      have r1 := hP.out.1.fr ((a + k))
      have r2 := hP.out.1.fr ((b + k))
      have l1 : (k : Int) < (n : Int) := by omega
      have l2 : (a : Int) + (k : Int) < (N : Int) := by omega
      have l3 : (b : Int) + (k : Int) < (N : Int) := by omega
      have HN : Hid (RP aj rule jc ((wr.setCell ⟨B, (a + k), none⟩ (.int .i64 (f (b + k)))).setCell ⟨B, (b + k), none⟩ (.int .i64 (f (a + k)))).drew B N t (swP f a b (k + 1)) ∧ But B w ((wr.setCell ⟨B, (a + k), none⟩ (.int .i64 (f (b + k)))).setCell ⟨B, (b + k), none⟩ (.int .i64 (f (a + k)))).drew) := hid (swP_step ha hb hlt hP.out)
      clear e1 e2
      go_wp2
      go_region
      go_wp2
      go_roundw
      case rel => exact ⟨k + 1, by omega, by go_num, HN⟩
      case measure => simp [intOf]; omega
    · obtain rfl : k = n := by omega
      go_wp2
      go_returns
      exact ⟨rfl, hP.out⟩
end Go.Proofs.Ytogolmbgboihdaa.Srt
