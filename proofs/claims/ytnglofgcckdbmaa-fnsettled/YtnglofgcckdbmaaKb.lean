/- Rows of placed items in a block of their own; swapRange. -/
import Derived.Test.YtnglofgcckdbmaaKa
import Derived.BigRegion
namespace Go.Proofs.Ytnglofgcckdbmaa
open Go Go.ChangeShapes Go.WideShapes Go.ChangeAt Go.RowKit
set_option linter.unusedVariables false
set_option linter.unusedSimpArgs false

/-- By the day, then by the place. -/
def ltP (a b : Int × Int × Int) : Prop := a.1 < b.1 ∨ (a.1 = b.1 ∧ a.2.2 < b.2.2)
instance (a b : Int × Int × Int) : Decidable (ltP a b) := by unfold ltP; infer_instance
theorem ltP_trans {a b c : Int × Int × Int} (h1 : ltP a b) (h2 : ltP b c) : ltP a c := by unfold ltP at *; omega
theorem ltP_total {a b : Int × Int × Int} (h : a.2.2 ≠ b.2.2) (h1 : ¬ ltP a b) : ltP b a := by unfold ltP at *; omega
/-- What lies further right is compared with what lies further left: the days alone tell the order. -/
theorem cm_ltP {a b : Int × Int × Int} (h : b.2.2 < a.2.2) : cm a.1 b.1 < 0 ↔ ltP a b := by
  unfold cm ltP
  constructor
  · intro q; left; by_cases g : a.1 < b.1
    · exact g
    · rw [if_neg g] at q; split at q <;> omega
  · intro q; rw [if_pos (by omega)]; omega

/-- Block b holds n placed items, f 0, f 1, .. -/
def RP (w : World) (b n : Nat) (t : TypeId) (f : Nat → Int × Int × Int) : Prop :=
  ∃ cs, CB w b cs t ∧ cs.size = n * 3 ∧ ∀ j, j < n → cs[j * 3]? = some (.int .i64 (f j).1) ∧ cs[j * 3 + 1]? = some (.int .i64 (f j).2.1) ∧ cs[j * 3 + 2]? = some (.int .i64 (f j).2.2)
section
variable {w w' : World} {b n : Nat} {t : TypeId} {f g : Nat → Int × Int × Int}
theorem RP.lt (H : RP w b n t f) : b < w.heap.size := by obtain ⟨cs, h, _⟩ := H; exact h.lt
theorem RP.cell (H : RP w b n t f) {j : Nat} (h : j < n) : w.cell? ⟨b, j * 3, none⟩ = some (.int .i64 (f j).1) ∧ w.cell? ⟨b, j * 3 + 1, none⟩ = some (.int .i64 (f j).2.1) ∧ w.cell? ⟨b, j * 3 + 2, none⟩ = some (.int .i64 (f j).2.2) := by
  obtain ⟨cs, h1, h2, h3⟩ := H
  rw [h1.cell, h1.cell, h1.cell]; exact h3 j h
theorem RP.fr (H : RP w b n t f) (o : Nat) : w.frozen? ⟨b, o, none⟩ = false := by obtain ⟨cs, h, _⟩ := H; exact h.fr o
theorem RP.below {B : Nat} (H : RP w b n t f) (k : Below B w w') (h : b < B) : RP w' b n t f := by
  obtain ⟨cs, h1, h2⟩ := H; exact ⟨cs, h1.below k h, h2⟩
theorem RP.alloc (H : RP w b n t f) (o : Obj) : RP (w.alloc o) b n t f := by obtain ⟨cs, h1, h2⟩ := H; exact ⟨cs, h1.alloc o, h2⟩
theorem RP.other (H : RP w b n t f) {c o : Nat} (u : Value) (h : b ≠ c) : RP (w.setCell ⟨c, o, none⟩ u) b n t f := by obtain ⟨cs, h1, h2⟩ := H; exact ⟨cs, h1.other u h, h2⟩
theorem RP.congr (H : RP w b n t f) (h : ∀ j, j < n → g j = f j) : RP w b n t g := by
  obtain ⟨cs, h1, h2, h3⟩ := H; exact ⟨cs, h1, h2, fun j hj => by rw [h j hj]; exact h3 j hj⟩
theorem RP.drew (H : RP w b n t f) : RP w.drew b n t f := H
/-- An item is written. -/
theorem RP.set (H : RP w b n t f) {i : Nat} (hi : i < n) (x y z : Int) :
    RP (((w.setCell ⟨b, i * 3, none⟩ (.int .i64 x)).setCell ⟨b, i * 3 + 1, none⟩ (.int .i64 y)).setCell ⟨b, i * 3 + 2, none⟩ (.int .i64 z)) b n t (fun j => if j = i then (x, y, z) else f j) := by
  obtain ⟨cs, h1, h2, h3⟩ := H
  refine ⟨_, ((h1.set _ _).set _ _).set _ _, by simp [h2], fun j hj => ?_⟩
  by_cases e : j = i
  · subst e
    simp only [if_true]
    refine ⟨?_, ?_, ?_⟩
    · rw [Array.getElem?_setIfInBounds_ne (by omega), Array.getElem?_setIfInBounds_ne (by omega), Array.getElem?_setIfInBounds_self_of_lt (by omega)]
    · rw [Array.getElem?_setIfInBounds_ne (by omega), Array.getElem?_setIfInBounds_self_of_lt (by simp; omega)]
    · rw [Array.getElem?_setIfInBounds_self_of_lt (by simp; omega)]
  · simp only [if_neg e]
    obtain ⟨a0, a1, a2⟩ := h3 j hj
    refine ⟨?_, ?_, ?_⟩ <;> (rw [Array.getElem?_setIfInBounds_ne (by omega), Array.getElem?_setIfInBounds_ne (by omega), Array.getElem?_setIfInBounds_ne (by omega)]; assumption)
end

/-- All blocks that were there are kept, but for B. -/
structure But (B : Nat) (w w' : World) : Prop where
  os : w'.os = w.os
  tape : w'.tape = w.tape
  output : w'.output = w.output
  size : w.heap.size ≤ w'.heap.size
  block : ∀ k, k < w.heap.size → k ≠ B → w'.heap[k]? = w.heap[k]?
section
variable {w w' w'' : World} {B : Nat}
theorem But.refl (B : Nat) (w : World) : But B w w := ⟨rfl, rfl, rfl, Nat.le_refl _, fun _ _ _ => rfl⟩
theorem But.trans (h : But B w w') (k : But B w' w'') : But B w w'' := ⟨k.os.trans h.os, k.tape.trans h.tape, k.output.trans h.output, Nat.le_trans h.size k.size, fun y h1 h2 => (k.block y (Nat.lt_of_lt_of_le h1 h.size) h2).trans (h.block y h1 h2)⟩
theorem But.of_below (k : Below w.heap.size w w') : But B w w' := ⟨k.os, k.tape, k.output, k.size, fun y h _ => k.block y h⟩
theorem But.on (h : But B w w') (k : Below w'.heap.size w' w'') : But B w w'' := h.trans (But.of_below k)
theorem But.drew (h : But B w w') : But B w w'.drew := h.on (Below.refl _ _).drew
theorem But.setCell (h : But B w w') (_ : B ≤ B) {o : Nat} (v : Value) : But B w (w'.setCell ⟨B, o, none⟩ v) := by
  have b := (Below.refl B w').setCell (p := ⟨B, o, none⟩) (Nat.le_refl B) v
  exact h.trans ⟨b.os, b.tape, b.output, b.size, fun y h1 h2 => Below.heap_setCell _ _ _ _ (by simpa using h2)⟩
theorem But.below (h : But B w w') {L : Nat} (hL : L ≤ B) (hw : L ≤ w.heap.size) : Below L w w' := ⟨h.os, h.tape, h.output, h.size, fun y hy => h.block y (by omega) (by omega)⟩
theorem But.drewN (h : But B w w') (q : Nat) : But B w (w'.drewN q) := ⟨h.os, h.tape, h.output, h.size, h.block⟩
end
/-- The first i of the two runs at a and at b have changed places. -/
def swP (f : Nat → Int × Int × Int) (a b i : Nat) (k : Nat) : Int × Int × Int := if a ≤ k ∧ k < a + i then f (b + (k - a)) else if b ≤ k ∧ k < b + i then f (a + (k - b)) else f k

theorem swP_step {w wr : World} {B N a b n k : Nat} {t : TypeId} {f : Nat → Int × Int × Int} (ha : a + n ≤ b) (hb : b + n ≤ N) (hlt : k < n) (hP : RP wr B N t (swP f a b k) ∧ But B w wr) : RP ((((((wr.setCell ⟨B, (a + k) * 3, none⟩ (.int .i64 (f (b + k)).1)).setCell ⟨B, (a + k) * 3 + 1, none⟩ (.int .i64 (f (b + k)).2.1)).setCell ⟨B, (a + k) * 3 + 2, none⟩ (.int .i64 (f (b + k)).2.2)).setCell ⟨B, (b + k) * 3, none⟩ (.int .i64 (f (a + k)).1)).setCell ⟨B, (b + k) * 3 + 1, none⟩ (.int .i64 (f (a + k)).2.1)).setCell ⟨B, (b + k) * 3 + 2, none⟩ (.int .i64 (f (a + k)).2.2)).drew B N t (swP f a b (k + 1)) ∧ But B w ((((((wr.setCell ⟨B, (a + k) * 3, none⟩ (.int .i64 (f (b + k)).1)).setCell ⟨B, (a + k) * 3 + 1, none⟩ (.int .i64 (f (b + k)).2.1)).setCell ⟨B, (a + k) * 3 + 2, none⟩ (.int .i64 (f (b + k)).2.2)).setCell ⟨B, (b + k) * 3, none⟩ (.int .i64 (f (a + k)).1)).setCell ⟨B, (b + k) * 3 + 1, none⟩ (.int .i64 (f (a + k)).2.1)).setCell ⟨B, (b + k) * 3 + 2, none⟩ (.int .i64 (f (a + k)).2.2)).drew := by
  refine ⟨RP.drew (RP.congr (((hP.1.set (i := a + k) (by omega) (f (b + k)).1 (f (b + k)).2.1 (f (b + k)).2.2).set (i := b + k) (by omega) (f (a + k)).1 (f (a + k)).2.1 (f (a + k)).2.2)) (fun j hj => ?_)), ((((((hP.2.setCell (Nat.le_refl _) _).setCell (Nat.le_refl _) _).setCell (Nat.le_refl _) _).setCell (Nat.le_refl _) _).setCell (Nat.le_refl _) _).setCell (Nat.le_refl _) _).drew⟩
  unfold swP
  by_cases q1 : j = b + k
  · subst q1; rw [if_neg (by omega), if_pos (by omega), if_pos rfl, show a + (b + k - b) = a + k by omega]
  · by_cases q2 : j = a + k
    · subst q2; rw [if_pos (by omega), if_neg q1, if_pos rfl, show b + (a + k - a) = b + k by omega]
    · rw [if_neg q1, if_neg q2]
      by_cases q3 : a ≤ j ∧ j < a + k
      · rw [if_pos q3, if_pos (by omega)]
      · rw [if_neg q3, if_neg (by omega)]
        by_cases q4 : b ≤ j ∧ j < b + k
        · rw [if_pos q4, if_pos (by omega)]
        · rw [if_neg q4, if_neg (by omega)]
set_option maxHeartbeats 4000000 in
theorem swapRangeP_any (B N cap a b n : Nat) (t : TypeId) (f : Nat → Int × Int × Int) (fv : Value) (w : World) (hN : (N : Int) ≤ 1048576) (ha : a + n ≤ b) (hb : b + n ≤ N) (H : RP w B N t f) :
    Calls Try.prog 157 #[.slice (some ⟨B, 0, none⟩) N cap, .int .i64 a, .int .i64 b, .int .i64 n, fv] w fun e w' => e = .returned (.tuple #[]) ∧ RP w' B N t (swP f a b n) ∧ But B w w' := by
  have HR : Hid (RP w B N t f) := H
  clear H
  have ia : (a : Int) ≤ 1048576 := by omega
  have ib : (b : Int) ≤ 1048576 := by omega
  have inn : (n : Int) ≤ 1048576 := by omega
  go_enter Try.func157, Try.ntmps157
  go_wp2
  go_loopw [10] (fun i wr => ∃ k : Nat, k ≤ n ∧ i = .int .i64 (k : Int) ∧ Hid (RP wr B N t (swP f a b k) ∧ But B w wr)) (fun i _ => n - (intOf i).toNat)
  case atStart => exact ⟨0, Nat.zero_le _, rfl, HR.out.congr (fun j _ => by unfold swP; rw [if_neg (by omega), if_neg (by omega)]), But.refl _ _⟩
  case round =>
    obtain ⟨k, hk, rfl, hP⟩ := hrel
    by_cases hlt : k < n
    · obtain ⟨x1, y1, z1⟩ := hP.out.1.cell (j := a + k) (by omega)
      obtain ⟨x2, y2, z2⟩ := hP.out.1.cell (j := b + k) (by omega)
      have e1 : swP f a b k (a + k) = f (a + k) := by unfold swP; rw [if_neg (by omega), if_neg (by omega)]
      have e2 : swP f a b k (b + k) = f (b + k) := by unfold swP; rw [if_neg (by omega), if_neg (by omega)]
      rw [e1] at x1 y1 z1
      rw [e2] at x2 y2 z2
      have r1 := hP.out.1.fr ((a + k) * 3)
      have r2 := hP.out.1.fr ((a + k) * 3 + 1)
      have r3 := hP.out.1.fr ((a + k) * 3 + 2)
      have r4 := hP.out.1.fr ((b + k) * 3)
      have r5 := hP.out.1.fr ((b + k) * 3 + 1)
      have r6 := hP.out.1.fr ((b + k) * 3 + 2)
      have l1 : (k : Int) < (n : Int) := by omega
      have l2 : (a : Int) + (k : Int) < (N : Int) := by omega
      have l3 : (b : Int) + (k : Int) < (N : Int) := by omega
      have HN : Hid (RP ((((((wr.setCell ⟨B, (a + k) * 3, none⟩ (.int .i64 (f (b + k)).1)).setCell ⟨B, (a + k) * 3 + 1, none⟩ (.int .i64 (f (b + k)).2.1)).setCell ⟨B, (a + k) * 3 + 2, none⟩ (.int .i64 (f (b + k)).2.2)).setCell ⟨B, (b + k) * 3, none⟩ (.int .i64 (f (a + k)).1)).setCell ⟨B, (b + k) * 3 + 1, none⟩ (.int .i64 (f (a + k)).2.1)).setCell ⟨B, (b + k) * 3 + 2, none⟩ (.int .i64 (f (a + k)).2.2)).drew B N t (swP f a b (k + 1)) ∧ But B w ((((((wr.setCell ⟨B, (a + k) * 3, none⟩ (.int .i64 (f (b + k)).1)).setCell ⟨B, (a + k) * 3 + 1, none⟩ (.int .i64 (f (b + k)).2.1)).setCell ⟨B, (a + k) * 3 + 2, none⟩ (.int .i64 (f (b + k)).2.2)).setCell ⟨B, (b + k) * 3, none⟩ (.int .i64 (f (a + k)).1)).setCell ⟨B, (b + k) * 3 + 1, none⟩ (.int .i64 (f (a + k)).2.1)).setCell ⟨B, (b + k) * 3 + 2, none⟩ (.int .i64 (f (a + k)).2.2)).drew) := hid (swP_step ha hb hlt hP.out)
      clear e1 e2
      go_wp2
      go_region
      go_wp2
      go_roundw
      case rel => exact ⟨k + 1, by omega, by go_num, HN⟩
      case measure => simp [intOf]; omega
    · obtain rfl : k = n := by omega
      go_wp2
      go_returns
      exact ⟨rfl, hP.out⟩
end Go.Proofs.Ytnglofgcckdbmaa
