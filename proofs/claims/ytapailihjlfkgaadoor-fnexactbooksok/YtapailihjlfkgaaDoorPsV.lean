/- Rows of periods in memory, and the laws' own functions over them. -/
import Derived.Test.YtapailihjlfkgaaDoorGa
import Derived.Test.YtapailihjlfkgaaDoorLt
import Derived.Laws.MakeOwn
import Derived.Deep.RegionHeld3
namespace Go.Proofs.YtapailihjlfkgaaDoor
open Go Go.ChangeShapes Go.WideShapes Go.ChangeAt Go.RowKit
set_option linter.unusedVariables false
set_option linter.unusedSimpArgs false

/-- A slice's first 'len' elements are the pairs (x 0, y 0), (x 1, y 1), .. -/
def PR (w : World) (ad : Option Addr) (len : Nat) (x y : Nat → Int) : Prop :=
  len = 0 ∨ ∃ k off, ad = some ⟨k, off, none⟩ ∧ k < w.heap.size ∧ ∀ j, j < len → w.cell? ⟨k, off + j * 2, none⟩ = some (.int .i64 (x j)) ∧ w.cell? ⟨k, off + j * 2 + 1, none⟩ = some (.int .i64 (y j))

theorem PR.below {w w' : World} {ad : Option Addr} {len : Nat} {x y : Nat → Int} (H : PR w ad len x y) (t : Below w.heap.size w w') : PR w' ad len x y := by
  rcases H with h | ⟨k, off, e, hk, hc⟩
  · exact .inl h
  · refine .inr ⟨k, off, e, Nat.lt_of_lt_of_le hk t.size, fun j hj => ?_⟩
    have e : ∀ o, w'.cell? ⟨k, o, none⟩ = w.cell? ⟨k, o, none⟩ := fun o => World.cell?_of_block (w := w) (t.block k hk)
    rw [e, e]; exact hc j hj

theorem PR.alloc {w : World} {ad : Option Addr} {len : Nat} {x y : Nat → Int} (H : PR w ad len x y) (o : Obj) : PR (w.alloc o) ad len x y := H.below ((Below.refl _ _).alloc (Nat.le_refl _) o)
theorem PR.drewN {w : World} {ad : Option Addr} {len : Nat} {x y : Nat → Int} (H : PR w ad len x y) (q : Nat) : PR (w.drewN q) ad len x y := H

theorem PR.cell {w : World} {k off len : Nat} {x y : Nat → Int} (H : PR w (some ⟨k, off, none⟩) len x y) {j : Nat} (hj : j < len) : w.cell? ⟨k, off + j * 2, none⟩ = some (.int .i64 (x j)) ∧ w.cell? ⟨k, off + j * 2 + 1, none⟩ = some (.int .i64 (y j)) := by
  rcases H with h | ⟨k', off', e, hk, hc⟩
  · omega
  · simp only [Option.some.injEq, Addr.mk.injEq] at e
    obtain ⟨rfl, rfl, _⟩ := e
    exact hc j hj

theorem PR.addr {w : World} {ad : Option Addr} {len : Nat} {x y : Nat → Int} (H : PR w ad len x y) (h : 0 < len) : ∃ k off, ad = some ⟨k, off, none⟩ ∧ k < w.heap.size := by
  rcases H with h' | ⟨k', off', e, hk, hc⟩
  · omega
  · exact ⟨k', off', e, hk⟩

theorem PR.of_block {w : World} {b : Nat} {cs : Array Value} {t : TypeId} (H : CB w b cs t) (n : Nat) (x y : Nat → Int) (h : ∀ j, j < n → cs[j * 2]? = some (.int .i64 (x j)) ∧ cs[j * 2 + 1]? = some (.int .i64 (y j))) : PR w (some ⟨b, 0, none⟩) n x y :=
  .inr ⟨b, 0, rfl, H.lt, fun j hj => by rw [Nat.zero_add, H.cell, H.cell]; exact h j hj⟩

/-- A new row of n pairs of noughts. -/
def zeros2 (n : Nat) : Array Value := madeCells #[.int .i64 0, .int .i64 0] (n * 2)
theorem zeros2_size (n : Nat) : (zeros2 n).size = n * 2 := size_madeCells _ _


theorem szPeriodS_any (ad : Option Addr) (len cap : Nat) (r : Int) (w : World) (h0 : 0 ≤ r) (h1 : r ≤ 1048576) (hl : (len : Int) ≤ 9223372036854775807) :
    Calls Tryd.prog 48 #[.slice ad len cap, .int .i64 r] w fun e w' => ∃ v : Int, e = .returned (.int .i64 v) ∧ (v = -1 ∨ (0 ≤ v ∧ v ≤ 1048576 ∧ (len : Int) ≤ 1048576)) ∧ w' = w := by
  by_cases h : r - (len : Int) < 0
  · go_enter Tryd.func48, Tryd.ntmps48
    go_wp2
    go_returns
    exact ⟨_, rfl, .inl rfl, rfl⟩
  · go_enter Tryd.func48, Tryd.ntmps48
    go_wp2
    go_returns
    exact ⟨_, rfl, .inr ⟨by omega, by omega, by omega⟩, rfl⟩
theorem toPeriod_any (a b : Int) (w : World) : Calls Tryd.prog 87 #[.agg #[.int .i64 a, .int .i64 b]] w fun e w' => e = .returned (.agg #[.int .i64 a, .int .i64 b]) ∧ Below w.heap.size w w' := by
  go_enter Tryd.func87, Tryd.ntmps87
  go_wp2
  go_returns
  exact ⟨rfl, by go_grown⟩

theorem eqPeriod_same (a b : Int) (w : World) : Calls Tryd.prog 90 #[.agg #[.int .i64 a, .int .i64 b], .agg #[.int .i64 a, .int .i64 b]] w fun e w' => e = .returned (.bool true) ∧ Below w.heap.size w w' := by
  go_enter Tryd.func90, Tryd.ntmps90
  go_wp2
  go_returns
  exact ⟨rfl, by go_grown⟩

set_option maxRecDepth 100000 in
theorem mkPer (n : Nat) (h : (n : Int) ≤ 1048576) (w : World) : (Instr.makeSlice 30 (.int .i64 (n : Int)) (.int .i64 (n : Int))).run Tryd.prog w = .ok (.slice (some ⟨w.heap.size, 0, none⟩) n n) (w.alloc (.cells (zeros2 n) 102)) := by
  obtain ⟨i, hi⟩ : ∃ i, Tryd.prog.info? 102 = some i := ⟨_, rfl⟩
  have hz : i.zero = some (.agg #[.int .i64 0, .int .i64 0]) := by
    have : (Tryd.prog.info? 102).bind (·.zero) = some (.agg #[.int .i64 0, .int .i64 0]) := by kernel_rfl
    rw [hi] at this; exact this
  have hs : i.size = 2 := by
    have : (Tryd.prog.info? 102).map (·.size) = some 2 := by kernel_rfl
    rw [hi] at this; simpa using this
  have hb : i.bytes = 16 := by
    have : (Tryd.prog.info? 102).map (·.bytes) = some 16 := by kernel_rfl
    rw [hi] at this; simpa using this
  have hr := run_make (P := Tryd.prog) w 30 102 i (.agg #[.int .i64 0, .int .i64 0]) Tryd.underlying30 hi hz .i64 .i64 n n (by omega) (by omega) (by rw [hb]; omega) (by omega)
  simp only [Int.toNat_natCast, hs] at hr
  exact hr

set_option maxHeartbeats 1000000 in
theorem toPeriodS_any (ad : Option Addr) (len cap : Nat) (x y : Nat → Int) (w : World) (h : (len : Int) ≤ 1048576) (hr : PR w ad len x y) :
    Calls Tryd.prog 51 #[.slice ad len cap] w fun e w' => e = .returned (.slice (some ⟨w.heap.size, 0, none⟩) len len) ∧ (PR w' (some ⟨w.heap.size, 0, none⟩) len x y ∧ ∃ cs, CB w' w.heap.size cs 102 ∧ cs.size = len * 2) ∧ Below w.heap.size w w' := by
  have HR : Hid (PR w ad len x y) := hr
  have hmk := mkPer len h
  clear hr
  go_enter Tryd.func51, Tryd.ntmps51
  go_wp2
  go_loopw [4] (fun i wr => ∃ (k : Nat) (cs : Array Value), k ≤ len ∧ i = .int .i64 (k : Int) ∧ CB wr w.heap.size cs 102 ∧ cs.size = len * 2 ∧ (∀ j, j < k → cs[j * 2]? = some (.int .i64 (x j)) ∧ cs[j * 2 + 1]? = some (.int .i64 (y j))) ∧ Below w.heap.size w wr) (fun i _ => len - (intOf i).toNat)
  case atStart => exact ⟨0, zeros2 len, Nat.zero_le _, rfl, CB.new _ _, zeros2_size _, fun j hj => by omega, (Below.refl _ _).alloc (Nat.le_refl _) _⟩
  case round =>
    obtain ⟨k, cs, hk, rfl, hC, hsz, hcs, hB⟩ := hrel
    by_cases hlt : k < len
    · obtain ⟨kb, off, rfl, hkb⟩ := HR.out.addr (by omega)
      obtain ⟨c1, c2⟩ := (HR.out.below hB).cell hlt
      obtain ⟨v1, d1⟩ : ∃ v, cs[k * 2]? = some v := ⟨cs[k * 2]'(by omega), Array.getElem?_eq_getElem (by omega)⟩
      obtain ⟨v2, d2⟩ : ∃ v, cs[k * 2 + 1]? = some v := ⟨cs[k * 2 + 1]'(by omega), Array.getElem?_eq_getElem (by omega)⟩
      have HC : Hid (CB wr w.heap.size cs 102) := hC
      have HS : Hid (cs.size = len * 2) := hsz
      have HCS : Hid (∀ j, j < k → cs[j * 2]? = some (.int .i64 (x j)) ∧ cs[j * 2 + 1]? = some (.int .i64 (y j))) := hcs
      have HB : Hid (Below w.heap.size w wr) := hB
      clear hC hsz hcs hB
      go_wp2_with (go_at_call 87; refine (toPeriod_any _ _ _).mono ?_; rintro e w1 ⟨rfl, b1⟩; have X1 : CB w1 w.heap.size cs 102 := HC.out.below b1 HC.out.lt; have x1 := (X1.cell (k * 2)).trans d1; have x2 := (X1.cell (k * 2 + 1)).trans d2; have f1 := X1.fr (k * 2); have f2 := X1.fr (k * 2 + 1); have HX : Hid (CB w1 w.heap.size cs 102) := X1; have HB1 : Hid (Below w.heap.size w w1) := bel_on HB.out b1; clear X1 b1)
      go_roundw
      case rel =>
        refine ⟨k + 1, (cs.setIfInBounds (k * 2) (.int .i64 (x k))).setIfInBounds (k * 2 + 1) (.int .i64 (y k)), by omega, by go_num, (HX.out.set _ _).set _ _, by simp [HS.out], fun j hj => ?_, (HB1.out.setCell (by simp) _).setCell (by simp) _⟩
        have hs := HS.out
        by_cases hjk : j = k
        · subst hjk
          constructor
          · rw [Array.getElem?_setIfInBounds, if_neg (by omega), Array.getElem?_setIfInBounds, if_pos rfl, if_pos (by omega)]
          · rw [Array.getElem?_setIfInBounds, if_pos rfl, if_pos (by simp; omega)]
        · have hj2 := HCS.out j (by omega)
          constructor
          · rw [Array.getElem?_setIfInBounds, if_neg (by omega), Array.getElem?_setIfInBounds, if_neg (by omega)]; exact hj2.1
          · rw [Array.getElem?_setIfInBounds, if_neg (by omega), Array.getElem?_setIfInBounds, if_neg (by omega)]; exact hj2.2
      case measure => simp [intOf]; omega
    · obtain rfl : k = len := by omega
      have HI : Hid (PR wr (some ⟨w.heap.size, 0, none⟩) k x y ∧ ∃ cs, CB wr w.heap.size cs 102 ∧ cs.size = k * 2) := ⟨PR.of_block hC k x y hcs, cs, hC, hsz⟩
      have HB : Hid (Below w.heap.size w wr) := hB
      clear hC hcs hB
      go_wp2
      go_returns
      exact ⟨rfl, HI.out, HB.out⟩

set_option maxHeartbeats 2000000 in
theorem eqPeriodS_same (ad be : Option Addr) (len cap cap2 : Nat) (x y : Nat → Int) (w : World) (h : (len : Int) ≤ 1048576) (h1 : PR w ad len x y) (h2 : PR w be len x y) :
    Calls Tryd.prog 54 #[.slice ad len cap, .slice be len cap2] w fun e w' => e = .returned (.bool true) ∧ Below w.heap.size w w' := by
  have H1 : Hid (PR w ad len x y) := h1
  have H2 : Hid (PR w be len x y) := h2
  clear h1 h2
  go_enter Tryd.func54, Tryd.ntmps54
  go_wp2
  go_loopw [5] (fun i wr => ∃ (k : Nat), k ≤ len ∧ i = .int .i64 (k : Int) ∧ Below w.heap.size w wr) (fun i _ => len - (intOf i).toNat)
  case atStart => exact ⟨0, Nat.zero_le _, rfl, Below.refl _ _⟩
  case round =>
    obtain ⟨k, hk, rfl, hB⟩ := hrel
    by_cases hlt : k < len
    · obtain ⟨kb, off, rfl, _⟩ := H1.out.addr (by omega)
      obtain ⟨kb2, off2, rfl, _⟩ := H2.out.addr (by omega)
      obtain ⟨c1, c2⟩ := (H1.out.below hB).cell hlt
      obtain ⟨e1, e2⟩ := (H2.out.below hB).cell hlt
      have HB : Hid (Below w.heap.size w wr) := hB
      have hBd : Below w.heap.size w wr.drew := hB.drew
      clear hB
      go_wp2
      go_region_held3 (fun w' => w'.cell? ⟨kb, off + k * 2, none⟩ = some (.int .i64 (x k)) ∧ w'.cell? ⟨kb, off + k * 2 + 1, none⟩ = some (.int .i64 (y k)) ∧ w'.cell? ⟨kb2, off2 + k * 2, none⟩ = some (.int .i64 (x k)) ∧ w'.cell? ⟨kb2, off2 + k * 2 + 1, none⟩ = some (.int .i64 (y k)) ∧ Below w.heap.size w w')
        (refine ⟨?_, ?_, ?_, ?_, ?_⟩ <;> first | assumption | (simp [*]; done))
        (first
        | (go_at_call 90; refine (eqPeriod_same _ _ _).mono ?_; rintro e w2 ⟨rfl, b2⟩; have q0 : w2.cell? ⟨kb, off + k * 2, none⟩ = some (.int .i64 (x k)) := keep_cell b2 (by simp [*]); have q1 : w2.cell? ⟨kb, off + k * 2 + 1, none⟩ = some (.int .i64 (y k)) := keep_cell b2 (by simp [*]); have q2 : w2.cell? ⟨kb2, off2 + k * 2, none⟩ = some (.int .i64 (x k)) := keep_cell b2 (by simp [*]); have q3 : w2.cell? ⟨kb2, off2 + k * 2 + 1, none⟩ = some (.int .i64 (y k)) := keep_cell b2 (by simp [*]); have q4 : Below w.heap.size w w2 := bel_on (by assumption) b2))
      go_wp2
      go_roundw
      case rel => exact ⟨k + 1, by omega, by go_num, q4⟩
      case measure => simp [intOf]; omega
    · have HB : Hid (Below w.heap.size w wr) := hB
      clear hB
      go_wp2
      go_returns
      exact ⟨rfl, HB.out⟩


end Go.Proofs.YtapailihjlfkgaaDoor
