/- Contracts of the laws' own functions over rows of rates. -/
import Derived.Test.YtghphlnpginmhaaVSm
import Derived.Outline
import Derived.Deep.QuietTactic
import Derived.Deep.RegionWith
import Derived.Deep.RegionHeld3
import Derived.WalkSmall
namespace Go.Proofs.Ytghphlnpginmhaa.Rt
open Go.ChangeShapes Go.WideShapes Go.ChangeAt Go.RowKit
set_option linter.unusedVariables false
set_option linter.unusedSimpArgs false
theorem szRateS_in (ad : Option Addr) (len cap : Nat) (w : World) (h : (len : Int) ≤ 1048576) :
    Calls Try.prog 28 #[.slice ad len cap, .int .i64 1048576] w fun e w' => e = .returned (.int .i64 (1048576 - (len : Int))) ∧ w' = w := by
  have h2 : (0 : Int) ≤ 1048576 - (len : Int) := by omega
  go_enter Try.func28, Try.ntmps28
  go_wp2
  go_returns
  exact ⟨rfl, rfl⟩
theorem szRateS_out (ad : Option Addr) (len cap : Nat) (w : World) (h : (1048576 : Int) < (len : Int)) (h2 : (len : Int) ≤ 9223372036854775807) :
    Calls Try.prog 28 #[.slice ad len cap, .int .i64 1048576] w fun e w' => e = .returned (.int .i64 (-1)) ∧ w' = w := by
  have h3 : 1048576 - (len : Int) < 0 := by omega
  go_enter Try.func28, Try.ntmps28
  go_wp2
  go_returns
  exact ⟨rfl, rfl⟩
theorem toRate_any (a b c d : Int) (w : World) : Calls Try.prog 96 #[.agg #[.int .i64 a, .int .i64 b, .int .i64 c, .int .i64 d]] w fun e w' => e = .returned (.agg #[.int .i64 a, .int .i64 b, .int .i64 c, .int .i64 d]) ∧ Below w.heap.size w w' := by
  go_enter Try.func96, Try.ntmps96
  go_wp2
  go_returns
  exact ⟨rfl, by go_grown⟩
theorem eqRate_same (a b c d : Int) (w : World) : Calls Try.prog 97 #[.agg #[.int .i64 a, .int .i64 b, .int .i64 c, .int .i64 d], .agg #[.int .i64 a, .int .i64 b, .int .i64 c, .int .i64 d]] w fun e w' => e = .returned (.bool true) ∧ Below w.heap.size w w' := by
  go_enter Try.func97, Try.ntmps97
  go_wp2
  go_returns
  exact ⟨rfl, by go_grown⟩
set_option maxRecDepth 100000 in
theorem mkRates (n : Nat) (h : (n : Int) ≤ 1048576) (w : World) : (Instr.makeSlice 25 (.int .i64 (n : Int)) (.int .i64 (n : Int))).run Try.prog w = .ok (.slice (some ⟨w.heap.size, 0, none⟩) n n) (w.alloc (.cells (zeros4 n) 144)) := by
  obtain ⟨i, hi⟩ : ∃ i, Try.prog.info? 144 = some i := ⟨_, rfl⟩
  have hz : i.zero = some (.agg #[.int .i64 0, .int .i64 0, .int .i64 0, .int .i64 0]) := by
    have : (Try.prog.info? 144).bind (·.zero) = some (.agg #[.int .i64 0, .int .i64 0, .int .i64 0, .int .i64 0]) := by kernel_rfl
    rw [hi] at this; exact this
  have hs : i.size = 4 := by
    have : (Try.prog.info? 144).map (·.size) = some 4 := by kernel_rfl
    rw [hi] at this; simpa using this
  have hb : i.bytes = 32 := by
    have : (Try.prog.info? 144).map (·.bytes) = some 32 := by kernel_rfl
    rw [hi] at this; simpa using this
  have hr := run_make (P := Try.prog) w 25 144 i (.agg #[.int .i64 0, .int .i64 0, .int .i64 0, .int .i64 0]) Try.underlying25 hi hz .i64 .i64 n n (by omega) (by omega) (by rw [hb]; omega) (by omega)
  simp only [Int.toNat_natCast, hs] at hr
  exact hr
set_option maxHeartbeats 1000000 in
theorem toRateS_any (ad : Option Addr) (len cap : Nat) (r : Nat → R4) (w : World) (h : (len : Int) ≤ 1048576) (hr : RR w ad len r) :
    Calls Try.prog 30 #[.slice ad len cap] w fun e w' => e = .returned (.slice (some ⟨w.heap.size, 0, none⟩) len len) ∧ RR w' (some ⟨w.heap.size, 0, none⟩) len r ∧ Below w.heap.size w w' := by
  have HR : Hid (RR w ad len r) := hr
  have hmk := mkRates len h
  clear hr
  go_enter Try.func30, Try.ntmps30
  go_wp2
  go_loopw [4] (fun i wr => ∃ (k : Nat) (cs : Array Value), k ≤ len ∧ i = .int .i64 (k : Int) ∧ CB wr w.heap.size cs 144 ∧ cs.size = len * 4 ∧ (∀ j, j < k → cs[j * 4]? = some (.int .i64 (r j).day) ∧ cs[j * 4 + 1]? = some (.int .i64 (r j).from_) ∧ cs[j * 4 + 2]? = some (.int .i64 (r j).num) ∧ cs[j * 4 + 3]? = some (.int .i64 (r j).den)) ∧ Below w.heap.size w wr) (fun i _ => len - (intOf i).toNat)
  case atStart => exact ⟨0, zeros4 len, Nat.zero_le _, rfl, CB.new _ _, zeros4_size _, fun j hj => by omega, (Below.refl _ _).alloc (Nat.le_refl _) _⟩
  case round =>
    obtain ⟨k, cs, hk, rfl, hC, hsz, hcs, hB⟩ := hrel
    by_cases hlt : k < len
    · obtain ⟨kb, off, rfl, hkb⟩ := HR.out.addr (by omega)
      obtain ⟨c1, c2, c3, c4⟩ := (HR.out.below hB).cell hlt
      obtain ⟨v1, d1⟩ : ∃ v, cs[k * 4]? = some v := ⟨cs[k * 4]'(by omega), Array.getElem?_eq_getElem (by omega)⟩
      obtain ⟨v2, d2⟩ : ∃ v, cs[k * 4 + 1]? = some v := ⟨cs[k * 4 + 1]'(by omega), Array.getElem?_eq_getElem (by omega)⟩
      obtain ⟨v3, d3⟩ : ∃ v, cs[k * 4 + 2]? = some v := ⟨cs[k * 4 + 2]'(by omega), Array.getElem?_eq_getElem (by omega)⟩
      obtain ⟨v4, d4⟩ : ∃ v, cs[k * 4 + 3]? = some v := ⟨cs[k * 4 + 3]'(by omega), Array.getElem?_eq_getElem (by omega)⟩
      have HC : Hid (CB wr w.heap.size cs 144) := hC
      have HS : Hid (cs.size = len * 4) := hsz
      have HCS : Hid (∀ j, j < k → cs[j * 4]? = some (.int .i64 (r j).day) ∧ cs[j * 4 + 1]? = some (.int .i64 (r j).from_) ∧ cs[j * 4 + 2]? = some (.int .i64 (r j).num) ∧ cs[j * 4 + 3]? = some (.int .i64 (r j).den)) := hcs
      have HB : Hid (Below w.heap.size w wr) := hB
      clear hC hsz hcs hB
      go_wp2_with (go_at_call 96; refine (toRate_any _ _ _ _ _).mono ?_; rintro e w1 ⟨rfl, b1⟩; have X1 : CB w1 w.heap.size cs 144 := HC.out.below b1 HC.out.lt; have x1 := (X1.cell (k * 4)).trans d1; have x2 := (X1.cell (k * 4 + 1)).trans d2; have x3 := (X1.cell (k * 4 + 2)).trans d3; have x4 := (X1.cell (k * 4 + 3)).trans d4; have f1 := X1.fr (k * 4); have f2 := X1.fr (k * 4 + 1); have f3 := X1.fr (k * 4 + 2); have f4 := X1.fr (k * 4 + 3); have HX : Hid (CB w1 w.heap.size cs 144) := X1; have HB1 : Hid (Below w.heap.size w w1) := bel_on HB.out b1; clear X1 b1)
      go_roundw
      case rel =>
        refine ⟨k + 1, (((cs.setIfInBounds (k * 4) (.int .i64 (r k).day)).setIfInBounds (k * 4 + 1) (.int .i64 (r k).from_)).setIfInBounds (k * 4 + 2) (.int .i64 (r k).num)).setIfInBounds (k * 4 + 3) (.int .i64 (r k).den), by omega, by go_num, (((HX.out.set _ _).set _ _).set _ _).set _ _, by simp [HS.out], fun j hj => ?_, (((HB1.out.setCell (by simp) _).setCell (by simp) _).setCell (by simp) _).setCell (by simp) _⟩
        have hs := HS.out
        by_cases hjk : j = k
        · subst hjk
          refine ⟨?_, ?_, ?_, ?_⟩
          · rw [get_set_ne (by omega), get_set_ne (by omega), get_set_ne (by omega), get_set_eq (by omega)]
          · rw [get_set_ne (by omega), get_set_ne (by omega), get_set_eq (by simp; omega)]
          · rw [get_set_ne (by omega), get_set_eq (by simp; omega)]
          · rw [get_set_eq (by simp; omega)]
        · have hj2 := HCS.out j (by omega)
          refine ⟨?_, ?_, ?_, ?_⟩ <;> rw [get_set_ne (by omega), get_set_ne (by omega), get_set_ne (by omega), get_set_ne (by omega)]
          · exact hj2.1
          · exact hj2.2.1
          · exact hj2.2.2.1
          · exact hj2.2.2.2
      case measure => simp [intOf]; omega
    · obtain rfl : k = len := by omega
      have HI : Hid (RR wr (some ⟨w.heap.size, 0, none⟩) k r) := RR.of_block hC k r hcs
      have HB : Hid (Below w.heap.size w wr) := hB
      clear hC hcs hB
      go_wp2
      go_returns
      exact ⟨rfl, HI.out, HB.out⟩
set_option maxHeartbeats 4000000 in
theorem eqRateS_same (ad be : Option Addr) (len cap cap2 : Nat) (r : Nat → R4) (w : World) (h : (len : Int) ≤ 1048576) (h1 : RR w ad len r) (h2 : RR w be len r) :
    Calls Try.prog 32 #[.slice ad len cap, .slice be len cap2] w fun e w' => e = .returned (.bool true) ∧ Below w.heap.size w w' := by
  have H1 : Hid (RR w ad len r) := h1
  have H2 : Hid (RR w be len r) := h2
  clear h1 h2
  go_enter Try.func32, Try.ntmps32
  go_wp2
  go_loopw [5] (fun i wr => ∃ (k : Nat), k ≤ len ∧ i = .int .i64 (k : Int) ∧ Below w.heap.size w wr) (fun i _ => len - (intOf i).toNat)
  case atStart => exact ⟨0, Nat.zero_le _, rfl, Below.refl _ _⟩
  case round =>
    obtain ⟨k, hk, rfl, hB⟩ := hrel
    by_cases hlt : k < len
    · obtain ⟨kb, off, rfl, _⟩ := H1.out.addr (by omega)
      obtain ⟨kb2, off2, rfl, _⟩ := H2.out.addr (by omega)
      have A1 := (H1.out.below hB).cell hlt
      have A2 := (H2.out.below hB).cell hlt
      generalize r k = x at A1 A2
      obtain ⟨xd, xf, xn, xe⟩ := x
      obtain ⟨c1, c2, c3, c4⟩ := A1
      obtain ⟨e1, e2, e3, e4⟩ := A2
      simp only at c1 c2 c3 c4 e1 e2 e3 e4
      have hBd : Below w.heap.size w wr.drew := hB.drew
      clear hB
      go_wp2
      go_region_held3 (fun w' => w'.cell? ⟨kb, off + k * 4, none⟩ = some (.int .i64 xd) ∧ w'.cell? ⟨kb, off + k * 4 + 1, none⟩ = some (.int .i64 xf) ∧ w'.cell? ⟨kb, off + k * 4 + 2, none⟩ = some (.int .i64 xn) ∧ w'.cell? ⟨kb, off + k * 4 + 3, none⟩ = some (.int .i64 xe) ∧ w'.cell? ⟨kb2, off2 + k * 4, none⟩ = some (.int .i64 xd) ∧ w'.cell? ⟨kb2, off2 + k * 4 + 1, none⟩ = some (.int .i64 xf) ∧ w'.cell? ⟨kb2, off2 + k * 4 + 2, none⟩ = some (.int .i64 xn) ∧ w'.cell? ⟨kb2, off2 + k * 4 + 3, none⟩ = some (.int .i64 xe) ∧ Below w.heap.size w w')
        (refine ⟨?_, ?_, ?_, ?_, ?_, ?_, ?_, ?_, ?_⟩ <;> first | assumption | (simp [*]; done))
        (first
        | (go_at_call 97; refine (eqRate_same _ _ _ _ _).mono ?_; rintro e w2 ⟨rfl, b2⟩; have q0 : w2.cell? ⟨kb, off + k * 4, none⟩ = some (.int .i64 xd) := keep_cell b2 (by simp [*]); have q1 : w2.cell? ⟨kb, off + k * 4 + 1, none⟩ = some (.int .i64 xf) := keep_cell b2 (by simp [*]); have q2 : w2.cell? ⟨kb, off + k * 4 + 2, none⟩ = some (.int .i64 xn) := keep_cell b2 (by simp [*]); have q3 : w2.cell? ⟨kb, off + k * 4 + 3, none⟩ = some (.int .i64 xe) := keep_cell b2 (by simp [*]); have q5 : w2.cell? ⟨kb2, off2 + k * 4, none⟩ = some (.int .i64 xd) := keep_cell b2 (by simp [*]); have q6 : w2.cell? ⟨kb2, off2 + k * 4 + 1, none⟩ = some (.int .i64 xf) := keep_cell b2 (by simp [*]); have q7 : w2.cell? ⟨kb2, off2 + k * 4 + 2, none⟩ = some (.int .i64 xn) := keep_cell b2 (by simp [*]); have q8 : w2.cell? ⟨kb2, off2 + k * 4 + 3, none⟩ = some (.int .i64 xe) := keep_cell b2 (by simp [*]); have q4 : Below w.heap.size w w2 := bel_on (by assumption) b2))
      go_wp2
      go_roundw
      case rel => exact ⟨k + 1, by omega, by go_num, q4⟩
      case measure => simp [intOf]; omega
    · have HB : Hid (Below w.heap.size w wr) := hB
      clear hB
      go_wp2
      go_returns
      exact ⟨rfl, HB.out⟩
end Go.Proofs.Ytghphlnpginmhaa.Rt
