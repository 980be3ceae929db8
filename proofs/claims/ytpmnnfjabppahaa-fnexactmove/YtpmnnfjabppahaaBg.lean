/- The marks and likenesses of rows of cells once more, for rows longer than a drawn one. -/
import Derived.Test.YtpmnnfjabppahaaBf
import Derived.Test.YtpmnnfjabppahaaCn
namespace Go.Proofs.Ytpmnnfjabppahaa
open Go.ChangeShapes Go.WideShapes Go.ChangeAt Go.RowKit
set_option linter.unusedVariables false
set_option linter.unusedSimpArgs false
set_option maxRecDepth 20000 in
set_option maxHeartbeats 4000000 in
theorem eqCE6S_big (ad be : Option Addr) (len cap cap2 : Nat) (c : Nat → CE6) (w : World) (h : (len : Int) ≤ 1073741824) (h1 : CEr w ad len c) (h2 : CEr w be len c) :
    Calls Try.prog 37 #[.slice ad len cap, .slice be len cap2] w fun e w' => e = .returned (.bool true) ∧ Below w.heap.size w w' := by
  have H1 : Hid (CEr w ad len c) := h1
  have H2 : Hid (CEr w be len c) := h2
  clear h1 h2
  go_enter Try.func37, Try.ntmps37
  go_wp2
  go_loopw [5] (fun i wr => ∃ (k : Nat), k ≤ len ∧ i = .int .i64 (k : Int) ∧ Below w.heap.size w wr) (fun i _ => len - (intOf i).toNat)
  case atStart => exact ⟨0, Nat.zero_le _, rfl, Below.refl _ _⟩
  case round =>
    obtain ⟨k, hk, rfl, hB⟩ := hrel
    by_cases hlt : k < len
    · have hlt2 : (k : Int) < (len : Int) := by omega
      obtain ⟨kb, off, rfl, _⟩ := H1.out.addr (by omega)
      obtain ⟨kb2, off2, rfl, _⟩ := H2.out.addr (by omega)
      have A1 := (H1.out.below hB).cell hlt
      have A2 := (H2.out.below hB).cell hlt
      generalize c k = x at A1 A2
      obtain ⟨x0, x1, x2, x3, x4, x5⟩ := x
      obtain ⟨c0, c1, c2, c3, c4, c5⟩ := A1
      obtain ⟨e0, e1, e2, e3, e4, e5⟩ := A2
      simp only at c0 c1 c2 c3 c4 c5 e0 e1 e2 e3 e4 e5
      have hBd : Below w.heap.size w wr.drew := hB.drew
      clear hB
      go_wp2
      go_region_held3 (fun w' => (w'.cell? ⟨kb, off + k * 6, none⟩ = some (.string x0) ∧ w'.cell? ⟨kb, off + k * 6 + 1, none⟩ = some (.string x1) ∧ w'.cell? ⟨kb, off + k * 6 + 2, none⟩ = some (.string x2) ∧ w'.cell? ⟨kb, off + k * 6 + 3, none⟩ = some (.int .i64 x3) ∧ w'.cell? ⟨kb, off + k * 6 + 4, none⟩ = some (.int .i64 x4) ∧ w'.cell? ⟨kb, off + k * 6 + 5, none⟩ = some (.int .i64 x5)) ∧ (w'.cell? ⟨kb2, off2 + k * 6, none⟩ = some (.string x0) ∧ w'.cell? ⟨kb2, off2 + k * 6 + 1, none⟩ = some (.string x1) ∧ w'.cell? ⟨kb2, off2 + k * 6 + 2, none⟩ = some (.string x2) ∧ w'.cell? ⟨kb2, off2 + k * 6 + 3, none⟩ = some (.int .i64 x3) ∧ w'.cell? ⟨kb2, off2 + k * 6 + 4, none⟩ = some (.int .i64 x4) ∧ w'.cell? ⟨kb2, off2 + k * 6 + 5, none⟩ = some (.int .i64 x5)) ∧ Below w.heap.size w w')
        (refine ⟨⟨?_, ?_, ?_, ?_, ?_, ?_⟩, ⟨?_, ?_, ?_, ?_, ?_, ?_⟩, ?_⟩ <;> first | assumption | (simp [*]; done))
        (first
        | (go_at_call 99; refine (eqCE6_same _ _ _ _ _ _ _).mono ?_; rintro e w2 ⟨rfl, b2⟩; have q0_0 : w2.cell? ⟨kb, off + k * 6, none⟩ = some (.string x0) := keep_cell b2 (by simp [*]); have q0_1 : w2.cell? ⟨kb, off + k * 6 + 1, none⟩ = some (.string x1) := keep_cell b2 (by simp [*]); have q0_2 : w2.cell? ⟨kb, off + k * 6 + 2, none⟩ = some (.string x2) := keep_cell b2 (by simp [*]); have q0_3 : w2.cell? ⟨kb, off + k * 6 + 3, none⟩ = some (.int .i64 x3) := keep_cell b2 (by simp [*]); have q0_4 : w2.cell? ⟨kb, off + k * 6 + 4, none⟩ = some (.int .i64 x4) := keep_cell b2 (by simp [*]); have q0_5 : w2.cell? ⟨kb, off + k * 6 + 5, none⟩ = some (.int .i64 x5) := keep_cell b2 (by simp [*]); have q1_0 : w2.cell? ⟨kb2, off2 + k * 6, none⟩ = some (.string x0) := keep_cell b2 (by simp [*]); have q1_1 : w2.cell? ⟨kb2, off2 + k * 6 + 1, none⟩ = some (.string x1) := keep_cell b2 (by simp [*]); have q1_2 : w2.cell? ⟨kb2, off2 + k * 6 + 2, none⟩ = some (.string x2) := keep_cell b2 (by simp [*]); have q1_3 : w2.cell? ⟨kb2, off2 + k * 6 + 3, none⟩ = some (.int .i64 x3) := keep_cell b2 (by simp [*]); have q1_4 : w2.cell? ⟨kb2, off2 + k * 6 + 4, none⟩ = some (.int .i64 x4) := keep_cell b2 (by simp [*]); have q1_5 : w2.cell? ⟨kb2, off2 + k * 6 + 5, none⟩ = some (.int .i64 x5) := keep_cell b2 (by simp [*]); have q4 : Below w.heap.size w w2 := bel_on (by assumption) b2))
      go_wp2
      go_roundw
      case rel => exact ⟨k + 1, by omega, by go_num, q4⟩
      case measure => simp [intOf]; omega
    · obtain rfl : k = len := by omega
      have lkk : ¬ (k : Int) < (k : Int) := by omega
      have HB : Hid (Below w.heap.size w wr) := hB
      clear hB
      go_wp2
      go_returns
      exact ⟨rfl, HB.out⟩
set_option maxRecDepth 20000 in
set_option maxHeartbeats 4000000 in
theorem markCE6S_big (b len cap : Nat) (k0 : Int) (cs0 : Array Value) (w : World) (h : (len : Int) ≤ 1073741824) (g0 : 0 < k0) (g1 : k0 ≤ 1000000000) (hC0 : CB w b cs0 28) (hs0 : len * 6 ≤ cs0.size) :
    Calls Try.prog 38 #[.slice (some ⟨b, 0, none⟩) len cap, .int .i64 k0] w fun e w' => e = .returned (.int .i64 (k0 + 6 * (len : Int))) ∧ CEr w' (some ⟨b, 0, none⟩) len (mkCE6M k0) ∧ (∃ cs, CB w' b cs 28 ∧ len * 6 ≤ cs.size) ∧ (∀ y, y < w.heap.size → y ≠ b → w'.heap[y]? = w.heap[y]?) ∧ Below b w w' := by
  have HC : Hid (CB w b cs0 28) := hC0
  have hblt := hC0.lt
  clear hC0
  go_enter Try.func38, Try.ntmps38
  go_wp2
  go_loopw [1, 5] (fun u i wr => ∃ (k : Nat) (cs : Array Value), k ≤ len ∧ i = .int .i64 (k : Int) ∧ u = .int .i64 (k0 + 6 * (k : Int)) ∧ CB wr b cs 28 ∧ len * 6 ≤ cs.size ∧ (∀ j, j < k → cs[j * 6]? = some (.string (mkCE6M k0 j).item) ∧ cs[j * 6 + 1]? = some (.string (mkCE6M k0 j).place) ∧ cs[j * 6 + 2]? = some (.string (mkCE6M k0 j).lot) ∧ cs[j * 6 + 3]? = some (.int .i64 (mkCE6M k0 j).exp) ∧ cs[j * 6 + 4]? = some (.int .i64 (mkCE6M k0 j).qty) ∧ cs[j * 6 + 5]? = some (.int .i64 (mkCE6M k0 j).hld)) ∧ (∀ y, y < w.heap.size → y ≠ b → wr.heap[y]? = w.heap[y]?) ∧ Below b w wr) (fun u i _ => len - (intOf i).toNat)
  case atStart => exact ⟨0, cs0, Nat.zero_le _, rfl, by simp, HC.out, hs0, fun j hj => by omega, fun y _ hy => rfl, Below.refl _ _⟩
  case round =>
    obtain ⟨k, cs, hk, rfl, rfl, hC, hs, hm, hkeep, hB⟩ := hrel
    by_cases hlt : k < len
    · have hlt2 : (k : Int) < (len : Int) := by omega
      obtain ⟨v0, d0⟩ : ∃ v, cs[k * 6]? = some v := ⟨cs[k * 6]'(by omega), Array.getElem?_eq_getElem (by omega)⟩
      obtain ⟨v1, d1⟩ : ∃ v, cs[k * 6 + 1]? = some v := ⟨cs[k * 6 + 1]'(by omega), Array.getElem?_eq_getElem (by omega)⟩
      obtain ⟨v2, d2⟩ : ∃ v, cs[k * 6 + 2]? = some v := ⟨cs[k * 6 + 2]'(by omega), Array.getElem?_eq_getElem (by omega)⟩
      obtain ⟨v3, d3⟩ : ∃ v, cs[k * 6 + 3]? = some v := ⟨cs[k * 6 + 3]'(by omega), Array.getElem?_eq_getElem (by omega)⟩
      obtain ⟨v4, d4⟩ : ∃ v, cs[k * 6 + 4]? = some v := ⟨cs[k * 6 + 4]'(by omega), Array.getElem?_eq_getElem (by omega)⟩
      obtain ⟨v5, d5⟩ : ∃ v, cs[k * 6 + 5]? = some v := ⟨cs[k * 6 + 5]'(by omega), Array.getElem?_eq_getElem (by omega)⟩
      have hsz := hB.size
      have HCC : Hid (CB wr b cs 28) := hC
      have HS : Hid (len * 6 ≤ cs.size) := hs
      have HM : Hid (∀ j, j < k → cs[j * 6]? = some (.string (mkCE6M k0 j).item) ∧ cs[j * 6 + 1]? = some (.string (mkCE6M k0 j).place) ∧ cs[j * 6 + 2]? = some (.string (mkCE6M k0 j).lot) ∧ cs[j * 6 + 3]? = some (.int .i64 (mkCE6M k0 j).exp) ∧ cs[j * 6 + 4]? = some (.int .i64 (mkCE6M k0 j).qty) ∧ cs[j * 6 + 5]? = some (.int .i64 (mkCE6M k0 j).hld)) := hm
      have HK : Hid (∀ y, y < w.heap.size → y ≠ b → wr.heap[y]? = w.heap[y]?) := hkeep
      have HB : Hid (Below b w wr) := hB
      obtain ⟨T0, ht0⟩ : ∃ T, T = mt (k0 + 6 * (k : Int)) := ⟨_, rfl⟩
      have HT0 : Hid (T0 = mt (k0 + 6 * (k : Int))) := ht0
      clear ht0
      obtain ⟨T1, ht1⟩ : ∃ T, T = mt (k0 + 6 * (k : Int) + 1) := ⟨_, rfl⟩
      have HT1 : Hid (T1 = mt (k0 + 6 * (k : Int) + 1)) := ht1
      clear ht1
      obtain ⟨T2, ht2⟩ : ∃ T, T = mt (k0 + 6 * (k : Int) + 2) := ⟨_, rfl⟩
      have HT2 : Hid (T2 = mt (k0 + 6 * (k : Int) + 2)) := ht2
      clear ht2
      clear hC hs hm hkeep hB
      have tok0 : True := trivial
      have tok1 : True := trivial
      have tok2 : True := trivial
      go_wp2_with (first
        | (go_at_call 100; clear tok0; refine (markText_eq _ T0 _ (by omega) (by omega) ((congrArg mt (by omega)).trans HT0.out.symm)).mono ?_; rintro e w1 ⟨rfl, b1⟩; have X1 : CB w1 b cs 28 := HCC.out.below b1 HCC.out.lt; have y0 := (X1.cell (k * 6)).trans d0; have f0_0 := X1.fr (k * 6); have y1 := (X1.cell (k * 6 + 1)).trans d1; have f0_1 := X1.fr (k * 6 + 1); have y2 := (X1.cell (k * 6 + 2)).trans d2; have f0_2 := X1.fr (k * 6 + 2); have y3 := (X1.cell (k * 6 + 3)).trans d3; have f0_3 := X1.fr (k * 6 + 3); have y4 := (X1.cell (k * 6 + 4)).trans d4; have f0_4 := X1.fr (k * 6 + 4); have y5 := (X1.cell (k * 6 + 5)).trans d5; have f0_5 := X1.fr (k * 6 + 5); have HX1 : Hid (CB w1 b cs 28) := X1; have HK1 : Hid (∀ y, y < w.heap.size → y ≠ b → w1.heap[y]? = w.heap[y]?) := (fun y h1 h2 => (b1.block y (by omega)).trans (HK.out y h1 h2)); have HB1 : Hid (Below b w w1) := HB.out.trans (b1.mono (by have := HCC.out.lt; omega)); clear X1 b1)
        | (go_at_call 100; clear tok1; refine (markText_eq _ T1 _ (by omega) (by omega) ((congrArg mt (by omega)).trans HT1.out.symm)).mono ?_; rintro e w2 ⟨rfl, b2⟩; have X2 : CB w2 b (cs.setIfInBounds (k * 6) (.string T0)) 28 := (HX1.out.set _ _).below b2 (HX1.out.set _ _).lt; have y1_1 := (X2.cell (k * 6 + 1)).trans (show _ = some v1 by rw [get_set_ne (by omega)]; exact d1); have f1_1 := X2.fr (k * 6 + 1); have y1_2 := (X2.cell (k * 6 + 2)).trans (show _ = some v2 by rw [get_set_ne (by omega)]; exact d2); have f1_2 := X2.fr (k * 6 + 2); have y1_3 := (X2.cell (k * 6 + 3)).trans (show _ = some v3 by rw [get_set_ne (by omega)]; exact d3); have f1_3 := X2.fr (k * 6 + 3); have y1_4 := (X2.cell (k * 6 + 4)).trans (show _ = some v4 by rw [get_set_ne (by omega)]; exact d4); have f1_4 := X2.fr (k * 6 + 4); have y1_5 := (X2.cell (k * 6 + 5)).trans (show _ = some v5 by rw [get_set_ne (by omega)]; exact d5); have f1_5 := X2.fr (k * 6 + 5); have HX2 : Hid (CB w2 b (cs.setIfInBounds (k * 6) (.string T0)) 28) := X2; have HK2 : Hid (∀ y, y < w.heap.size → y ≠ b → w2.heap[y]? = w.heap[y]?) := (fun y h1 h2 => (b2.block y (by have := HB1.out.size; simp; omega)).trans ((hs_set h2).trans (HK1.out y h1 h2))); have HB2 : Hid (Below b w w2) := (HB1.out.setCell (Nat.le_refl _) _).trans (b2.mono (Nat.le_of_lt (HX1.out.set _ _).lt)); clear X2 b2)
        | (go_at_call 100; clear tok2; refine (markText_eq _ T2 _ (by omega) (by omega) ((congrArg mt (by omega)).trans HT2.out.symm)).mono ?_; rintro e w3 ⟨rfl, b3⟩; have X3 : CB w3 b ((cs.setIfInBounds (k * 6) (.string T0)).setIfInBounds (k * 6 + 1) (.string T1)) 28 := (HX2.out.set _ _).below b3 (HX2.out.set _ _).lt; have y2_2 := (X3.cell (k * 6 + 2)).trans (show _ = some v2 by rw [get_set_ne (by omega), get_set_ne (by omega)]; exact d2); have f2_2 := X3.fr (k * 6 + 2); have y2_3 := (X3.cell (k * 6 + 3)).trans (show _ = some v3 by rw [get_set_ne (by omega), get_set_ne (by omega)]; exact d3); have f2_3 := X3.fr (k * 6 + 3); have y2_4 := (X3.cell (k * 6 + 4)).trans (show _ = some v4 by rw [get_set_ne (by omega), get_set_ne (by omega)]; exact d4); have f2_4 := X3.fr (k * 6 + 4); have y2_5 := (X3.cell (k * 6 + 5)).trans (show _ = some v5 by rw [get_set_ne (by omega), get_set_ne (by omega)]; exact d5); have f2_5 := X3.fr (k * 6 + 5); have HX3 : Hid (CB w3 b ((cs.setIfInBounds (k * 6) (.string T0)).setIfInBounds (k * 6 + 1) (.string T1)) 28) := X3; have HK3 : Hid (∀ y, y < w.heap.size → y ≠ b → w3.heap[y]? = w.heap[y]?) := (fun y h1 h2 => (b3.block y (by have := HB2.out.size; simp; omega)).trans ((hs_set h2).trans (HK2.out y h1 h2))); have HB3 : Hid (Below b w w3) := (HB2.out.setCell (Nat.le_refl _) _).trans (b3.mono (Nat.le_of_lt (HX2.out.set _ _).lt)); clear X3 b3))
      go_roundw
      case rel =>
        refine ⟨k + 1, _, by omega, by go_num, by go_num, ((((HX3.out.set _ _).set _ _).set _ _).set _ _), by simpa using HS.out, fun j hj => ?_, fun y h1 h2 => (hs_set h2).trans ((hs_set h2).trans ((hs_set h2).trans ((hs_set h2).trans (HK3.out y h1 h2)))), ((((HB3.out.setCell (Nat.le_refl _) _).setCell (Nat.le_refl _) _).setCell (Nat.le_refl _) _).setCell (Nat.le_refl _) _)⟩
        have hs := HS.out
        by_cases hjk : j = k
        · subst hjk
          refine ⟨?_, ?_, ?_, ?_, ?_, ?_⟩
          · rw [get_set_ne (by omega), get_set_ne (by omega), get_set_ne (by omega), get_set_ne (by omega), get_set_ne (by omega), get_set_eq (by (try simp); omega)]; exact congrArg (fun x => some (Value.string x)) HT0.out
          · rw [get_set_ne (by omega), get_set_ne (by omega), get_set_ne (by omega), get_set_ne (by omega), get_set_eq (by (try simp); omega)]; exact congrArg (fun x => some (Value.string x)) HT1.out
          · rw [get_set_ne (by omega), get_set_ne (by omega), get_set_ne (by omega), get_set_eq (by (try simp); omega)]; exact congrArg (fun x => some (Value.string x)) HT2.out
          · rw [get_set_ne (by omega), get_set_ne (by omega), get_set_eq (by (try simp); omega)]; exact congrArg (fun x => some (Value.int .i64 x)) (by simp only [mkCE6M] <;> omega)
          · rw [get_set_ne (by omega), get_set_eq (by (try simp); omega)]; exact congrArg (fun x => some (Value.int .i64 x)) (by simp only [mkCE6M] <;> omega)
          · rw [get_set_eq (by (try simp); omega)]; exact congrArg (fun x => some (Value.int .i64 x)) (by simp only [mkCE6M] <;> omega)
        · obtain ⟨y0, y1, y2, y3, y4, y5⟩ := HM.out j (by omega)
          refine ⟨?_, ?_, ?_, ?_, ?_, ?_⟩ <;> (rw [get_set_ne (by omega), get_set_ne (by omega), get_set_ne (by omega), get_set_ne (by omega), get_set_ne (by omega), get_set_ne (by omega)]; assumption)
      case measure => simp [intOf]; omega
    · obtain rfl : k = len := by omega
      have lkk : ¬ (k : Int) < (k : Int) := by omega
      have HN : Hid (CEr wr (some ⟨b, 0, none⟩) k (mkCE6M k0) ∧ (∃ cs, CB wr b cs 28 ∧ k * 6 ≤ cs.size) ∧ (∀ y, y < w.heap.size → y ≠ b → wr.heap[y]? = w.heap[y]?) ∧ Below b w wr) := ⟨CEr.of_block hC k _ hm, ⟨cs, hC, hs⟩, hkeep, hB⟩
      clear hC hs hm hkeep hB
      go_wp2
      go_returns
      exact ⟨rfl, HN.out⟩
set_option maxRecDepth 20000 in
set_option maxHeartbeats 4000000 in
theorem heldCE6S_big (ad : Option Addr) (len cap : Nat) (k0 : Int) (w : World) (h : (len : Int) ≤ 1073741824) (g0 : 0 < k0) (g1 : k0 ≤ 1000000000) (hr : CEr w ad len (mkCE6M k0)) :
    Calls Try.prog 39 #[.slice ad len cap, .int .i64 k0] w fun e w' => e = .returned (.int .i64 (k0 + 6 * (len : Int))) ∧ Below w.heap.size w w' := by
  have HR : Hid (CEr w ad len (mkCE6M k0)) := hr
  clear hr
  go_enter Try.func39, Try.ntmps39
  go_wp2
  go_loopw [1, 5] (fun u i wr => ∃ (k : Nat), k ≤ len ∧ i = .int .i64 (k : Int) ∧ u = .int .i64 (k0 + 6 * (k : Int)) ∧ Below w.heap.size w wr) (fun u i _ => len - (intOf i).toNat)
  case atStart => exact ⟨0, Nat.zero_le _, rfl, by simp, Below.refl _ _⟩
  case round =>
    obtain ⟨k, hk, rfl, rfl, hB⟩ := hrel
    by_cases hlt : k < len
    · have hlt2 : (k : Int) < (len : Int) := by omega
      obtain ⟨kb, off, rfl, _⟩ := HR.out.addr (by omega)
      obtain ⟨c0, c1, c2, c3, c4, c5⟩ := (HR.out.below hB).cell hlt
      simp only [mkCE6M] at c0 c1 c2 c3 c4 c5
      obtain ⟨T0, ht0⟩ : ∃ T, T = mt (k0 + 6 * (k : Int)) := ⟨_, rfl⟩
      have HT0 : Hid (T0 = mt (k0 + 6 * (k : Int))) := ht0
      clear ht0
      obtain ⟨T1, ht1⟩ : ∃ T, T = mt (k0 + 6 * (k : Int) + 1) := ⟨_, rfl⟩
      have HT1 : Hid (T1 = mt (k0 + 6 * (k : Int) + 1)) := ht1
      clear ht1
      obtain ⟨T2, ht2⟩ : ∃ T, T = mt (k0 + 6 * (k : Int) + 2) := ⟨_, rfl⟩
      have HT2 : Hid (T2 = mt (k0 + 6 * (k : Int) + 2)) := ht2
      clear ht2
      rw [← HT0.out] at c0
      rw [← HT1.out] at c1
      rw [← HT2.out] at c2
      have hBd : Below w.heap.size w wr.drew := hB.drew
      clear hB
      go_wp2
      go_region_held3 (fun w' => (w'.cell? ⟨kb, off + k * 6, none⟩ = some (.string T0) ∧ w'.cell? ⟨kb, off + k * 6 + 1, none⟩ = some (.string T1) ∧ w'.cell? ⟨kb, off + k * 6 + 2, none⟩ = some (.string T2) ∧ w'.cell? ⟨kb, off + k * 6 + 3, none⟩ = some (.int .i64 (k0 + 6 * (k : Int) + 3)) ∧ w'.cell? ⟨kb, off + k * 6 + 4, none⟩ = some (.int .i64 (k0 + 6 * (k : Int) + 4)) ∧ w'.cell? ⟨kb, off + k * 6 + 5, none⟩ = some (.int .i64 (k0 + 6 * (k : Int) + 5))) ∧ Below w.heap.size w w')
        (refine ⟨⟨?_, ?_, ?_, ?_, ?_, ?_⟩, ?_⟩ <;> first | assumption | (simp [*]; done))
        (first
        | (go_at_call 100; refine (markText_eq _ T0 _ (by omega) (by omega) ((congrArg mt (by omega)).trans HT0.out.symm)).mono ?_; rintro e w2 ⟨rfl, b2⟩; have q2_0 : w2.cell? ⟨kb, off + k * 6, none⟩ = some (.string T0) := keep_cell b2 (by simp [*]); have q2_1 : w2.cell? ⟨kb, off + k * 6 + 1, none⟩ = some (.string T1) := keep_cell b2 (by simp [*]); have q2_2 : w2.cell? ⟨kb, off + k * 6 + 2, none⟩ = some (.string T2) := keep_cell b2 (by simp [*]); have q2_3 : w2.cell? ⟨kb, off + k * 6 + 3, none⟩ = some (.int .i64 (k0 + 6 * (k : Int) + 3)) := keep_cell b2 (by simp [*]); have q2_4 : w2.cell? ⟨kb, off + k * 6 + 4, none⟩ = some (.int .i64 (k0 + 6 * (k : Int) + 4)) := keep_cell b2 (by simp [*]); have q2_5 : w2.cell? ⟨kb, off + k * 6 + 5, none⟩ = some (.int .i64 (k0 + 6 * (k : Int) + 5)) := keep_cell b2 (by simp [*]); have p2 : Below w.heap.size w w2 := bel_on (by assumption) b2))
      have hB3 : Below w.heap.size w w2.drew := p2.drew
      go_wp2
      go_region_held3 (fun w' => (w'.cell? ⟨kb, off + k * 6, none⟩ = some (.string T0) ∧ w'.cell? ⟨kb, off + k * 6 + 1, none⟩ = some (.string T1) ∧ w'.cell? ⟨kb, off + k * 6 + 2, none⟩ = some (.string T2) ∧ w'.cell? ⟨kb, off + k * 6 + 3, none⟩ = some (.int .i64 (k0 + 6 * (k : Int) + 3)) ∧ w'.cell? ⟨kb, off + k * 6 + 4, none⟩ = some (.int .i64 (k0 + 6 * (k : Int) + 4)) ∧ w'.cell? ⟨kb, off + k * 6 + 5, none⟩ = some (.int .i64 (k0 + 6 * (k : Int) + 5))) ∧ Below w.heap.size w w')
        (refine ⟨⟨?_, ?_, ?_, ?_, ?_, ?_⟩, ?_⟩ <;> first | assumption | (simp [*]; done))
        (first
        | (go_at_call 100; refine (markText_eq _ T1 _ (by omega) (by omega) ((congrArg mt (by omega)).trans HT1.out.symm)).mono ?_; rintro e w3 ⟨rfl, b3⟩; have q3_0 : w3.cell? ⟨kb, off + k * 6, none⟩ = some (.string T0) := keep_cell b3 (by simp [*]); have q3_1 : w3.cell? ⟨kb, off + k * 6 + 1, none⟩ = some (.string T1) := keep_cell b3 (by simp [*]); have q3_2 : w3.cell? ⟨kb, off + k * 6 + 2, none⟩ = some (.string T2) := keep_cell b3 (by simp [*]); have q3_3 : w3.cell? ⟨kb, off + k * 6 + 3, none⟩ = some (.int .i64 (k0 + 6 * (k : Int) + 3)) := keep_cell b3 (by simp [*]); have q3_4 : w3.cell? ⟨kb, off + k * 6 + 4, none⟩ = some (.int .i64 (k0 + 6 * (k : Int) + 4)) := keep_cell b3 (by simp [*]); have q3_5 : w3.cell? ⟨kb, off + k * 6 + 5, none⟩ = some (.int .i64 (k0 + 6 * (k : Int) + 5)) := keep_cell b3 (by simp [*]); have p3 : Below w.heap.size w w3 := bel_on (by assumption) b3))
      have hB4 : Below w.heap.size w w3.drew := p3.drew
      go_wp2
      go_region_held3 (fun w' => (w'.cell? ⟨kb, off + k * 6, none⟩ = some (.string T0) ∧ w'.cell? ⟨kb, off + k * 6 + 1, none⟩ = some (.string T1) ∧ w'.cell? ⟨kb, off + k * 6 + 2, none⟩ = some (.string T2) ∧ w'.cell? ⟨kb, off + k * 6 + 3, none⟩ = some (.int .i64 (k0 + 6 * (k : Int) + 3)) ∧ w'.cell? ⟨kb, off + k * 6 + 4, none⟩ = some (.int .i64 (k0 + 6 * (k : Int) + 4)) ∧ w'.cell? ⟨kb, off + k * 6 + 5, none⟩ = some (.int .i64 (k0 + 6 * (k : Int) + 5))) ∧ Below w.heap.size w w')
        (refine ⟨⟨?_, ?_, ?_, ?_, ?_, ?_⟩, ?_⟩ <;> first | assumption | (simp [*]; done))
        (first
        | (go_at_call 100; refine (markText_eq _ T2 _ (by omega) (by omega) ((congrArg mt (by omega)).trans HT2.out.symm)).mono ?_; rintro e w4 ⟨rfl, b4⟩; have q4_0 : w4.cell? ⟨kb, off + k * 6, none⟩ = some (.string T0) := keep_cell b4 (by simp [*]); have q4_1 : w4.cell? ⟨kb, off + k * 6 + 1, none⟩ = some (.string T1) := keep_cell b4 (by simp [*]); have q4_2 : w4.cell? ⟨kb, off + k * 6 + 2, none⟩ = some (.string T2) := keep_cell b4 (by simp [*]); have q4_3 : w4.cell? ⟨kb, off + k * 6 + 3, none⟩ = some (.int .i64 (k0 + 6 * (k : Int) + 3)) := keep_cell b4 (by simp [*]); have q4_4 : w4.cell? ⟨kb, off + k * 6 + 4, none⟩ = some (.int .i64 (k0 + 6 * (k : Int) + 4)) := keep_cell b4 (by simp [*]); have q4_5 : w4.cell? ⟨kb, off + k * 6 + 5, none⟩ = some (.int .i64 (k0 + 6 * (k : Int) + 5)) := keep_cell b4 (by simp [*]); have p4 : Below w.heap.size w w4 := bel_on (by assumption) b4))
      go_wp2
      go_roundw
      case rel => exact ⟨k + 1, by omega, by go_num, by go_num, p4⟩
      case measure => simp [intOf]; omega
    · obtain rfl : k = len := by omega
      have lkk : ¬ (k : Int) < (k : Int) := by omega
      have HB : Hid (Below w.heap.size w wr) := hB
      clear hB
      go_wp2
      go_returns
      exact ⟨rfl, HB.out⟩
set_option maxRecDepth 20000 in
set_option maxHeartbeats 4000000 in
theorem markM_big (lo hi : Nat) (ad : Option Addr) (n cap : Nat) (c : Nat → CE6) (w : World) (h : (n : Int) ≤ 1073741824) (H : OwnM w lo hi ad n c) :
    Calls Try.prog 38 #[.slice ad n cap, .int .i64 1] w fun e w' => e = .returned (.int .i64 (1 + 6 * (n : Int))) ∧ CEr w' ad n (mkCE6M 1) ∧ (∀ y, y < w.heap.size → (y < lo ∨ hi ≤ y) → w'.heap[y]? = w.heap[y]?) ∧ Below lo w w' := by
  rcases H with rfl | ⟨g, cs, rfl, h2, h3, h4, h5, h6⟩
  · refine (markCE6S_no ad cap 1 w).mono ?_
    rintro e w' ⟨rfl, rfl⟩
    exact ⟨by simp, .inl rfl, fun _ _ _ => rfl, Below.refl _ _⟩
  · refine (markCE6S_big g n cap 1 cs w h (by omega) (by omega) h4 h5).mono ?_
    rintro e w' ⟨rfl, hr, _, kk, b⟩
    exact ⟨rfl, hr, fun y hy hq => kk y hy (by omega), b.mono h2⟩
end Go.Proofs.Ytpmnnfjabppahaa
