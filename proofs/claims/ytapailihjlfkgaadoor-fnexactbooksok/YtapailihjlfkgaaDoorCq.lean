/- Contracts of the laws' own functions over rows of currencies. -/
import Derived.Test.YtapailihjlfkgaaDoorRr
import Derived.Test.YtapailihjlfkgaaDoorNm
import Derived.Deep.RegionHeld3
import Derived.Outline
import Derived.Deep.QuietTactic
import Derived.Deep.RegionWith
import Derived.WalkSmall
namespace Go.Proofs.YtapailihjlfkgaaDoor
open Go.ChangeShapes Go.WideShapes Go.ChangeAt Go.RowKit
set_option linter.unusedVariables false
set_option linter.unusedSimpArgs false

theorem szCur_in (s : ByteArray) (p q L : Int) (w : World) (h : (s.size : Int) ≤ L) (hL : L ≤ 1048576) :
    Calls Tryd.prog 110 #[.agg #[.string s, .int .i64 p, .int .i64 q], .int .i64 L] w fun e w' => e = .returned (.int .i64 (L - (s.size : Int))) ∧ Below w.heap.size w w' := by
  have h2 : (0 : Int) ≤ L - (s.size : Int) := by omega
  go_enter Tryd.func110, Tryd.ntmps110
  go_wp2
  go_returns
  exact ⟨rfl, by go_grown⟩
theorem szCur_out (s : ByteArray) (p q L : Int) (w : World) (h : L < (s.size : Int)) (h0 : 0 ≤ L) (hs : (s.size : Int) ≤ 9223372036854775807) :
    Calls Tryd.prog 110 #[.agg #[.string s, .int .i64 p, .int .i64 q], .int .i64 L] w fun e w' => e = .returned (.int .i64 (-1)) ∧ Below w.heap.size w w' := by
  have h2 : L - (s.size : Int) < 0 := by omega
  go_enter Tryd.func110, Tryd.ntmps110
  go_wp2
  go_returns
  exact ⟨rfl, by go_grown⟩

set_option maxHeartbeats 1000000 in
theorem szCurS_any (ad : Option Addr) (len cap : Nat) (c : Nat → C3) (w : World) (hl : (len : Int) ≤ 9223372036854775807) (hc : ∀ j, ((c j).code.size : Int) ≤ 9223372036854775807) (hr : CR w ad len c) :
    Calls Tryd.prog 83 #[.slice ad len cap, .int .i64 1048576] w fun e w' => ∃ v : Int, e = .returned (.int .i64 v) ∧ (v = -1 ∨ (0 ≤ v ∧ v ≤ 1048576 ∧ (len : Int) ≤ 1048576)) ∧ Below w.heap.size w w' := by
  have HR : Hid (CR w ad len c) := hr
  have HC : Hid (∀ j, ((c j).code.size : Int) ≤ 9223372036854775807) := hc
  clear hr hc
  by_cases h : (len : Int) ≤ 1048576
  · have h2 : (0 : Int) ≤ 1048576 - (len : Int) := by omega
    go_enter Tryd.func83, Tryd.ntmps83
    go_wp2
    go_loopw [1, 5] (fun l i wr => ∃ (k : Nat) (L : Int), k ≤ len ∧ i = .int .i64 (k : Int) ∧ l = .int .i64 L ∧ 0 ≤ L ∧ L ≤ 1048576 ∧ Below w.heap.size w wr) (fun _ i _ => len - (intOf i).toNat)
    case atStart => exact ⟨0, _, Nat.zero_le _, rfl, rfl, by omega, by omega, Below.refl _ _⟩
    case round =>
      obtain ⟨k, L, hk, rfl, rfl, hL0, hL1, hB⟩ := hrel
      by_cases hlt : k < len
      · obtain ⟨kb, off, rfl, _⟩ := HR.out.addr (by omega)
        obtain ⟨c1, c2, c3⟩ := (HR.out.below hB).cell hlt
        have hs := HC.out k
        have HB : Hid (Below w.heap.size w wr) := hB
        clear hB
        generalize (c k).code = s at c1 hs
        generalize (c k).places = pp at c2
        generalize (c k).step = qq at c3
        by_cases hsL : (s.size : Int) ≤ L
        · go_wp2_with (go_at_call 110; refine (szCur_in _ _ _ _ _ hsL hL1).mono ?_; rintro e w1 ⟨rfl, b1⟩; have h3 : (0 : Int) ≤ L - (s.size : Int) := by omega)
          go_roundw
          case rel => exact ⟨k + 1, L - (s.size : Int), by omega, by go_num, rfl, by omega, by omega, bel_on HB.out b1⟩
          case measure => simp [intOf]; omega
        · go_wp2_with (go_at_call 110; refine (szCur_out _ _ _ _ _ (by omega) hL0 hs).mono ?_; rintro e w1 ⟨rfl, b1⟩)
          go_returns
          exact ⟨-1, rfl, .inl rfl, bel_on HB.out b1⟩
      · have HB : Hid (Below w.heap.size w wr) := hB
        clear hB
        go_wp2
        go_returns
        exact ⟨L, rfl, .inr ⟨hL0, hL1, h⟩, HB.out⟩
  · have h3 : 1048576 - (len : Int) < 0 := by omega
    go_enter Tryd.func83, Tryd.ntmps83
    go_wp2
    go_returns
    exact ⟨-1, rfl, .inl rfl, Below.refl _ _⟩

theorem toCur_any (s : ByteArray) (p q : Int) (w : World) : Calls Tryd.prog 112 #[.agg #[.string s, .int .i64 p, .int .i64 q]] w fun e w' => e = .returned (.agg #[.string s, .int .i64 p, .int .i64 q]) ∧ Below w.heap.size w w' := by
  go_enter Tryd.func112, Tryd.ntmps112
  go_wp2
  go_returns
  exact ⟨rfl, by go_grown⟩

theorem eqCur_same (s : ByteArray) (p q : Int) (w : World) : Calls Tryd.prog 114 #[.agg #[.string s, .int .i64 p, .int .i64 q], .agg #[.string s, .int .i64 p, .int .i64 q]] w fun e w' => e = .returned (.bool true) ∧ Below w.heap.size w w' := by
  go_enter Tryd.func114, Tryd.ntmps114
  go_wp2
  go_returns
  exact ⟨rfl, by go_grown⟩

set_option maxRecDepth 100000 in
theorem mkCurs (n : Nat) (h : (n : Int) ≤ 1048576) (w : World) : (Instr.makeSlice 24 (.int .i64 (n : Int)) (.int .i64 (n : Int))).run Tryd.prog w = .ok (.slice (some ⟨w.heap.size, 0, none⟩) n n) (w.alloc (.cells (zeros3 n) 43)) := by
  obtain ⟨i, hi⟩ : ∃ i, Tryd.prog.info? 43 = some i := ⟨_, rfl⟩
  have hz : i.zero = some (.agg #[.string ByteArray.empty, .int .i64 0, .int .i64 0]) := by
    have : (Tryd.prog.info? 43).bind (·.zero) = some (.agg #[.string ByteArray.empty, .int .i64 0, .int .i64 0]) := by kernel_rfl
    rw [hi] at this; exact this
  have hs : i.size = 3 := by
    have : (Tryd.prog.info? 43).map (·.size) = some 3 := by kernel_rfl
    rw [hi] at this; simpa using this
  have hb : i.bytes = 32 := by
    have : (Tryd.prog.info? 43).map (·.bytes) = some 32 := by kernel_rfl
    rw [hi] at this; simpa using this
  have hr := run_make (P := Tryd.prog) w 24 43 i (.agg #[.string ByteArray.empty, .int .i64 0, .int .i64 0]) Tryd.underlying24 hi hz .i64 .i64 n n (by omega) (by omega) (by rw [hb]; omega) (by omega)
  simp only [Int.toNat_natCast, hs] at hr
  exact hr

set_option maxHeartbeats 1000000 in
theorem toCurS_any (ad : Option Addr) (len cap : Nat) (c : Nat → C3) (w : World) (h : (len : Int) ≤ 1048576) (hr : CR w ad len c) :
    Calls Tryd.prog 85 #[.slice ad len cap] w fun e w' => e = .returned (.slice (some ⟨w.heap.size, 0, none⟩) len len) ∧ CR w' (some ⟨w.heap.size, 0, none⟩) len c ∧ Below w.heap.size w w' := by
  have HR : Hid (CR w ad len c) := hr
  have hmk := mkCurs len h
  clear hr
  go_enter Tryd.func85, Tryd.ntmps85
  go_wp2
  go_loopw [4] (fun i wr => ∃ (k : Nat) (cs : Array Value), k ≤ len ∧ i = .int .i64 (k : Int) ∧ CB wr w.heap.size cs 43 ∧ cs.size = len * 3 ∧ (∀ j, j < k → cs[j * 3]? = some (.string (c j).code) ∧ cs[j * 3 + 1]? = some (.int .i64 (c j).places) ∧ cs[j * 3 + 2]? = some (.int .i64 (c j).step)) ∧ Below w.heap.size w wr) (fun i _ => len - (intOf i).toNat)
  case atStart => exact ⟨0, zeros3 len, Nat.zero_le _, rfl, CB.new _ _, zeros3_size _, fun j hj => by omega, (Below.refl _ _).alloc (Nat.le_refl _) _⟩
  case round =>
    obtain ⟨k, cs, hk, rfl, hC, hsz, hcs, hB⟩ := hrel
    by_cases hlt : k < len
    · obtain ⟨kb, off, rfl, hkb⟩ := HR.out.addr (by omega)
      obtain ⟨c1, c2, c3⟩ := (HR.out.below hB).cell hlt
      obtain ⟨v1, d1⟩ : ∃ v, cs[k * 3]? = some v := ⟨cs[k * 3]'(by omega), Array.getElem?_eq_getElem (by omega)⟩
      obtain ⟨v2, d2⟩ : ∃ v, cs[k * 3 + 1]? = some v := ⟨cs[k * 3 + 1]'(by omega), Array.getElem?_eq_getElem (by omega)⟩
      obtain ⟨v3, d3⟩ : ∃ v, cs[k * 3 + 2]? = some v := ⟨cs[k * 3 + 2]'(by omega), Array.getElem?_eq_getElem (by omega)⟩
      have HC : Hid (CB wr w.heap.size cs 43) := hC
      have HS : Hid (cs.size = len * 3) := hsz
      have HCS : Hid (∀ j, j < k → cs[j * 3]? = some (.string (c j).code) ∧ cs[j * 3 + 1]? = some (.int .i64 (c j).places) ∧ cs[j * 3 + 2]? = some (.int .i64 (c j).step)) := hcs
      have HB : Hid (Below w.heap.size w wr) := hB
      clear hC hsz hcs hB
      go_wp2_with (go_at_call 112; refine (toCur_any _ _ _ _).mono ?_; rintro e w1 ⟨rfl, b1⟩; have X1 : CB w1 w.heap.size cs 43 := HC.out.below b1 HC.out.lt; have x1 := (X1.cell (k * 3)).trans d1; have x2 := (X1.cell (k * 3 + 1)).trans d2; have x3 := (X1.cell (k * 3 + 2)).trans d3; have f1 := X1.fr (k * 3); have f2 := X1.fr (k * 3 + 1); have f3 := X1.fr (k * 3 + 2); have HX : Hid (CB w1 w.heap.size cs 43) := X1; have HB1 : Hid (Below w.heap.size w w1) := bel_on HB.out b1; clear X1 b1)
      go_roundw
      case rel =>
        refine ⟨k + 1, ((cs.setIfInBounds (k * 3) (.string (c k).code)).setIfInBounds (k * 3 + 1) (.int .i64 (c k).places)).setIfInBounds (k * 3 + 2) (.int .i64 (c k).step), by omega, by go_num, ((HX.out.set _ _).set _ _).set _ _, by simp [HS.out], fun j hj => ?_, ((HB1.out.setCell (by simp) _).setCell (by simp) _).setCell (by simp) _⟩
        have hs := HS.out
        by_cases hjk : j = k
        · subst hjk
          refine ⟨?_, ?_, ?_⟩
          · rw [get_set_ne (by omega), get_set_ne (by omega), get_set_eq (by omega)]
          · rw [get_set_ne (by omega), get_set_eq (by simp; omega)]
          · rw [get_set_eq (by simp; omega)]
        · have hj2 := HCS.out j (by omega)
          refine ⟨?_, ?_, ?_⟩ <;> rw [get_set_ne (by omega), get_set_ne (by omega), get_set_ne (by omega)]
          · exact hj2.1
          · exact hj2.2.1
          · exact hj2.2.2
      case measure => simp [intOf]; omega
    · obtain rfl : k = len := by omega
      have HI : Hid (CR wr (some ⟨w.heap.size, 0, none⟩) k c) := CR.of_block hC k c hcs
      have HB : Hid (Below w.heap.size w wr) := hB
      clear hC hcs hB
      go_wp2
      go_returns
      exact ⟨rfl, HI.out, HB.out⟩

set_option maxHeartbeats 4000000 in
theorem eqCurS_same (ad be : Option Addr) (len cap cap2 : Nat) (c : Nat → C3) (w : World) (h : (len : Int) ≤ 1048576) (h1 : CR w ad len c) (h2 : CR w be len c) :
    Calls Tryd.prog 88 #[.slice ad len cap, .slice be len cap2] w fun e w' => e = .returned (.bool true) ∧ Below w.heap.size w w' := by
  have H1 : Hid (CR w ad len c) := h1
  have H2 : Hid (CR w be len c) := h2
  clear h1 h2
  go_enter Tryd.func88, Tryd.ntmps88
  go_wp2
  go_loopw [5] (fun i wr => ∃ (k : Nat), k ≤ len ∧ i = .int .i64 (k : Int) ∧ Below w.heap.size w wr) (fun i _ => len - (intOf i).toNat)
  case atStart => exact ⟨0, Nat.zero_le _, rfl, Below.refl _ _⟩
  case round =>
    obtain ⟨k, hk, rfl, hB⟩ := hrel
    by_cases hlt : k < len
    · obtain ⟨kb, off, rfl, _⟩ := H1.out.addr (by omega)
      obtain ⟨kb2, off2, rfl, _⟩ := H2.out.addr (by omega)
      have A1 := (H1.out.below hB).cell hlt
      have A2 := (H2.out.below hB).cell hlt
      generalize c k = x at A1 A2
      obtain ⟨xd, xf, xn⟩ := x
      obtain ⟨c1, c2, c3⟩ := A1
      obtain ⟨e1, e2, e3⟩ := A2
      simp only at c1 c2 c3 e1 e2 e3
      have hBd : Below w.heap.size w wr.drew := hB.drew
      clear hB
      go_wp2
      go_region_held3 (fun w' => w'.cell? ⟨kb, off + k * 3, none⟩ = some (.string xd) ∧ w'.cell? ⟨kb, off + k * 3 + 1, none⟩ = some (.int .i64 xf) ∧ w'.cell? ⟨kb, off + k * 3 + 2, none⟩ = some (.int .i64 xn) ∧ w'.cell? ⟨kb2, off2 + k * 3, none⟩ = some (.string xd) ∧ w'.cell? ⟨kb2, off2 + k * 3 + 1, none⟩ = some (.int .i64 xf) ∧ w'.cell? ⟨kb2, off2 + k * 3 + 2, none⟩ = some (.int .i64 xn) ∧ Below w.heap.size w w')
        (refine ⟨?_, ?_, ?_, ?_, ?_, ?_, ?_⟩ <;> first | assumption | (simp [*]; done))
        (first
        | (go_at_call 114; refine (eqCur_same _ _ _ _).mono ?_; rintro e w2 ⟨rfl, b2⟩; have q0 : w2.cell? ⟨kb, off + k * 3, none⟩ = some (.string xd) := keep_cell b2 (by simp [*]); have q1 : w2.cell? ⟨kb, off + k * 3 + 1, none⟩ = some (.int .i64 xf) := keep_cell b2 (by simp [*]); have q2 : w2.cell? ⟨kb, off + k * 3 + 2, none⟩ = some (.int .i64 xn) := keep_cell b2 (by simp [*]); have q5 : w2.cell? ⟨kb2, off2 + k * 3, none⟩ = some (.string xd) := keep_cell b2 (by simp [*]); have q6 : w2.cell? ⟨kb2, off2 + k * 3 + 1, none⟩ = some (.int .i64 xf) := keep_cell b2 (by simp [*]); have q7 : w2.cell? ⟨kb2, off2 + k * 3 + 2, none⟩ = some (.int .i64 xn) := keep_cell b2 (by simp [*]); have q4 : Below w.heap.size w w2 := bel_on (by assumption) b2))
      go_wp2
      go_roundw
      case rel => exact ⟨k + 1, by omega, by go_num, q4⟩
      case measure => simp [intOf]; omega
    · have HB : Hid (Below w.heap.size w wr) := hB
      clear hB
      go_wp2
      go_returns
      exact ⟨rfl, HB.out⟩

end Go.Proofs.YtapailihjlfkgaaDoor
