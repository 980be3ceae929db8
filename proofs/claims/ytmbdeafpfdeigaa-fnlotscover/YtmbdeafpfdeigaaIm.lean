/- The laws' mark over rows of Item. -/
import Derived.Test.YtmbdeafpfdeigaaIt
import Derived.Test.YtmbdeafpfdeigaaPb
namespace Go.Proofs.Ytmbdeafpfdeigaa
open Go.ChangeShapes Go.WideShapes Go.ChangeAt Go.RowKit
set_option linter.unusedVariables false
set_option linter.unusedSimpArgs false

def MRow (w : World) (b n : Nat) : Prop := ∃ d, CB w b d 28 ∧ d.size = n * 6
theorem MRow.keep {w w' : World} {b n : Nat} (H : MRow w b n) (h : w'.heap[b]? = w.heap[b]?) : MRow w' b n := by obtain ⟨d, h1, h2⟩ := H; exact ⟨d, h1.keep h, h2⟩
theorem MRow.below {w w' : World} {b n : Nat} (H : MRow w b n) (h : Below w.heap.size w w') : MRow w' b n := by obtain ⟨d, h1, h2⟩ := H; exact ⟨d, h1.below h h1.lt, h2⟩
theorem MRow.lt {w : World} {b n : Nat} (H : MRow w b n) : b < w.heap.size := by obtain ⟨d, h1, h2⟩ := H; exact h1.lt
/-- The rows from j on, for the marks. -/
structure MO (w : World) (B m j : Nat) (c : Nat → IT) (bt bw : Nat → Nat) : Prop where
  main : ∃ cs, CB w B cs 31 ∧ cs.size = m * 5 ∧ ∀ i, j ≤ i → i < m → cs[i * 5 + 3]? = some (.slice (some ⟨bt i, 0, none⟩) (c i).parn (c i).parn) ∧ cs[i * 5 + 4]? = some (.slice (some ⟨bw i, 0, none⟩) (c i).alsn (c i).alsn)
  t : ∀ i, j ≤ i → i < m → MRow w (bt i) (c i).parn
  u : ∀ i, j ≤ i → i < m → MRow w (bw i) (c i).alsn
theorem heap_st {w : World} {b o x : Nat} {u : Value} (hne : x ≠ b) : (w.setCell ⟨b, o, none⟩ u).heap[x]? = w.heap[x]? := hs_set hne
set_option maxRecDepth 20000 in
set_option maxHeartbeats 4000000 in
theorem markITS_any (B m cap : Nat) (c : Nat → IT) (bt bw : Nat → Nat) (lo hi : Nat) (s : Int) (w : World) (h : (m : Int) ≤ 1048576) (hl : ∀ j, j < m → ((c j).parn : Int) ≤ 1048576 ∧ ((c j).alsn : Int) ≤ 1048576) (hs0 : 0 < s) (hs1 : s ≤ 2000000) (H : OIT w B m m c bt bw) (hB : lo ≤ B) (hhi : w.heap.size ≤ hi ∨ ((∀ j, j < m → bw j < hi) ∧ B < hi)) :
    Calls Try.prog 41 #[.slice (some ⟨B, 0, none⟩) m cap, .int .i64 s] w fun e w' => ∃ v : Int, e = .returned (.int .i64 v) ∧ (0 ≤ v ∧ v ≤ 20000000000000) ∧ (∀ y, y < w.heap.size → (y < lo ∨ hi ≤ y) → w'.heap[y]? = w.heap[y]?) ∧ Below lo w w' := by
  have HL : Hid (∀ j, j < m → ((c j).parn : Int) ≤ 1048576 ∧ ((c j).alsn : Int) ≤ 1048576) := hl
  have HAP : Hid (∀ j, j < m → B < bt j ∧ bt j < bw j) := H.ap
  have HIN : Hid (∀ i j, i < j → j < m → bw i < bt j) := H.inc
  have HHI : Hid (∀ j, j < m → bw j < hi ∧ B < hi) := fun j hj => by
    rcases hhi with q | q
    · have := (H.u j hj).lt; have := H.lt; omega
    · exact ⟨q.1 j hj, q.2⟩
  have HLT : Hid (∀ j, j < m → bw j < w.heap.size) := fun j hj => (H.u j hj).lt
  have HM0 : Hid (MO w B m 0 c bt bw) := by
    obtain ⟨cs, c1, c2, c3⟩ := H.main
    exact ⟨⟨cs, c1, c2, fun i _ hi => ⟨(c3 i hi).2.2.2.1, (c3 i hi).2.2.2.2⟩⟩, fun i _ hi => (H.t i hi).2, fun i _ hi => (H.u i hi).2⟩
  have hBlt := H.lt
  clear hl H hhi
  go_enter Try.func41, Try.ntmps41
  go_wp2
  go_loopw [1, 5] (fun u i wr => ∃ (j : Nat) (K : Int), j ≤ m ∧ i = .int .i64 (j : Int) ∧ u = .int .i64 K ∧ 0 < K ∧ K ≤ 2000000 + 12582915 * (j : Int) ∧ Hid (MO wr B m j c bt bw ∧ (∀ y, y < w.heap.size → (y < lo ∨ hi ≤ y) → wr.heap[y]? = w.heap[y]?) ∧ Below lo w wr)) (fun u i _ => m - (intOf i).toNat)
  case atStart => exact ⟨0, s, Nat.zero_le _, rfl, rfl, hs0, by omega, HM0.out, fun y _ _ => rfl, Below.refl _ _⟩
  case round =>
    clear HM0
    obtain ⟨j, K, hj, rfl, rfl, hK0, hK1, HW⟩ := hrel
    by_cases hlt : j < m
    · have hlt2 : (j : Int) < (m : Int) := by omega
      obtain ⟨cs, c1, c2, c3⟩ := HW.out.1.main
      obtain ⟨v0, d0⟩ : ∃ v, cs[j * 5]? = some v := ⟨cs[j * 5]'(by omega), Array.getElem?_eq_getElem (by omega)⟩
      obtain ⟨v1, d1⟩ : ∃ v, cs[j * 5 + 1]? = some v := ⟨cs[j * 5 + 1]'(by omega), Array.getElem?_eq_getElem (by omega)⟩
      obtain ⟨v2, d2⟩ : ∃ v, cs[j * 5 + 2]? = some v := ⟨cs[j * 5 + 2]'(by omega), Array.getElem?_eq_getElem (by omega)⟩
      have hap := HAP.out j hlt
      have hhi := HHI.out j hlt
      have hll := HL.out j hlt
      have HC : Hid (CB wr B cs 31) := c1
      have HCS : Hid (cs.size = m * 5 ∧ ∀ i, j ≤ i → i < m → cs[i * 5 + 3]? = some (.slice (some ⟨bt i, 0, none⟩) (c i).parn (c i).parn) ∧ cs[i * 5 + 4]? = some (.slice (some ⟨bw i, 0, none⟩) (c i).alsn (c i).alsn)) := ⟨c2, c3⟩
      have HMW : Hid ((∀ i, j ≤ i → i < m → MRow wr (bt i) (c i).parn) ∧ (∀ i, j ≤ i → i < m → MRow wr (bw i) (c i).alsn)) := ⟨HW.out.1.t, HW.out.1.u⟩
      have HKB : Hid ((∀ y, y < w.heap.size → (y < lo ∨ hi ≤ y) → wr.heap[y]? = w.heap[y]?) ∧ Below lo w wr) := HW.out.2
      have hsz0 := HW.out.2.2.size
      have HD0 : Hid (cs[j * 5]? = some v0) := d0
      have HD1 : Hid (cs[j * 5 + 1]? = some v1) := d1
      have HD2 : Hid (cs[j * 5 + 2]? = some v2) := d2
      clear c1 c2 c3 d0 d1 d2 HW
      have tok1 : True := trivial
      go_wp2_with (first
        | (go_at_call 93; go_loud (refine (markText_is _ _ (by omega) (by omega)).mono ?_; rintro e w1 ⟨rfl, b1⟩; have C1 : CB w1 B cs 31 := HC.out.below b1 HC.out.lt; have y0 := (C1.cell (j * 5)).trans HD0.out; have f0 := C1.fr (j * 5); have y1 := (C1.cell (j * 5 + 1)).trans HD1.out; have f1 := C1.fr (j * 5 + 1); have y2 := (C1.cell (j * 5 + 2)).trans HD2.out; have f2 := C1.fr (j * 5 + 2); have hs1 := b1.size; have HC0 : Hid (CB w1 B cs 31) := C1; have HMW1 : Hid ((∀ i, j ≤ i → i < m → MRow w1 (bt i) (c i).parn) ∧ (∀ i, j ≤ i → i < m → MRow w1 (bw i) (c i).alsn)) := ⟨fun i h1 h2 => (HMW.out.1 i h1 h2).below b1, fun i h1 h2 => (HMW.out.2 i h1 h2).below b1⟩; have HB1 : Hid ((∀ y, y < w.heap.size → (y < lo ∨ hi ≤ y) → w1.heap[y]? = w.heap[y]?) ∧ Below lo w w1) := ⟨fun y h1 h2 => (b1.block y (by omega)).trans (HKB.out.1 y h1 h2), HKB.out.2.trans (b1.mono (by omega))⟩; have HCX : Hid (CB (((w1.setCell ⟨B, j * 5, none⟩ (.string (mt (K)))).setCell ⟨B, j * 5 + 1, none⟩ (.int .i64 (K + 1))).setCell ⟨B, j * 5 + 2, none⟩ (.bool ((K + 1 + 1) % 3 == 0))) B (((cs.setIfInBounds (j * 5) (.string (mt (K)))).setIfInBounds (j * 5 + 1) (.int .i64 (K + 1))).setIfInBounds (j * 5 + 2) (.bool ((K + 1 + 1) % 3 == 0))) 31) := (((HC0.out.set _ _).set _ _).set _ _); have x1 : (((w1.setCell ⟨B, j * 5, none⟩ (.string (mt (K)))).setCell ⟨B, j * 5 + 1, none⟩ (.int .i64 (K + 1))).setCell ⟨B, j * 5 + 2, none⟩ (.bool ((K + 1 + 1) % 3 == 0))).cell? ⟨B, j * 5 + 3, none⟩ = some (.slice (some ⟨bt j, 0, none⟩) (c j).parn (c j).parn) := (by rw [HCX.out.cell, get_set_ne (by omega), get_set_ne (by omega), get_set_ne (by omega)]; exact (HCS.out.2 j (Nat.le_refl _) hlt).1); have HMR : Hid (∀ i, j ≤ i → i < m → MRow (((w1.setCell ⟨B, j * 5, none⟩ (.string (mt (K)))).setCell ⟨B, j * 5 + 1, none⟩ (.int .i64 (K + 1))).setCell ⟨B, j * 5 + 2, none⟩ (.bool ((K + 1 + 1) % 3 == 0))) (bt i) (c i).parn ∧ MRow (((w1.setCell ⟨B, j * 5, none⟩ (.string (mt (K)))).setCell ⟨B, j * 5 + 1, none⟩ (.int .i64 (K + 1))).setCell ⟨B, j * 5 + 2, none⟩ (.bool ((K + 1 + 1) % 3 == 0))) (bw i) (c i).alsn) := hid (fun i h1 h2 => (by have := HAP.out i h2; exact ⟨(HMW1.out.1 i h1 h2).keep ((heap_st (by omega)).trans ((heap_st (by omega)).trans ((heap_st (by omega)).trans (rfl)))), (HMW1.out.2 i h1 h2).keep ((heap_st (by omega)).trans ((heap_st (by omega)).trans ((heap_st (by omega)).trans (rfl))))⟩)); have HSM : Hid ((∀ y, y < w.heap.size → (y < lo ∨ hi ≤ y) → (((w1.setCell ⟨B, j * 5, none⟩ (.string (mt (K)))).setCell ⟨B, j * 5 + 1, none⟩ (.int .i64 (K + 1))).setCell ⟨B, j * 5 + 2, none⟩ (.bool ((K + 1 + 1) % 3 == 0))).heap[y]? = w.heap[y]?) ∧ Below lo w (((w1.setCell ⟨B, j * 5, none⟩ (.string (mt (K)))).setCell ⟨B, j * 5 + 1, none⟩ (.int .i64 (K + 1))).setCell ⟨B, j * 5 + 2, none⟩ (.bool ((K + 1 + 1) % 3 == 0)))) := ⟨fun y h1 h2 => (heap_st (by omega)).trans ((heap_st (by omega)).trans ((heap_st (by omega)).trans (HB1.out.1 y h1 h2))), (((HB1.out.2.setCell hB _).setCell hB _).setCell hB _)⟩; clear b1 C1))
        | (go_at_call 94; clear tok1; go_loud (obtain ⟨dd, hdd, hds⟩ := (HMR.out j (Nat.le_refl _) hlt).1; refine (markPA6S_is (bt j) (c j).parn _ (K + 1 + 1 + 1) dd _ hll.1 (by omega) (by omega) hdd (by omega)).mono ?_; rintro e w2 ⟨rfl, _, _, kk2, b2⟩; have hs2 := b2.size; have HC2 : Hid (CB w2 B (((cs.setIfInBounds (j * 5) (.string (mt (K)))).setIfInBounds (j * 5 + 1) (.int .i64 (K + 1))).setIfInBounds (j * 5 + 2) (.bool ((K + 1 + 1) % 3 == 0))) 31) := HCX.out.keep (kk2 B HCX.out.lt (by omega)); have x3 : w2.cell? ⟨B, j * 5 + 4, none⟩ = some (.slice (some ⟨bw j, 0, none⟩) (c j).alsn (c j).alsn) := (by rw [HC2.out.cell, get_set_ne (by omega), get_set_ne (by omega), get_set_ne (by omega)]; exact (HCS.out.2 j (Nat.le_refl _) hlt).2); have HMR2 : Hid (∀ i, j < i → i < m → MRow w2 (bt i) (c i).parn ∧ MRow w2 (bw i) (c i).alsn) := hid (fun i h1 h2 => (by have := HAP.out i h2; have := HIN.out j i h1 h2; have r := HMR.out i (by omega) h2; exact ⟨r.1.keep (kk2 _ r.1.lt (by omega)), r.2.keep (kk2 _ r.2.lt (by omega))⟩)); have HMJ : Hid (MRow w2 (bw j) (c j).alsn) := hid (by have r := (HMR.out j (Nat.le_refl _) hlt).2; exact r.keep (kk2 _ r.lt (by omega))); have HSM2 : Hid ((∀ y, y < w.heap.size → (y < lo ∨ hi ≤ y) → w2.heap[y]? = w.heap[y]?) ∧ Below lo w w2) := ⟨fun y h1 h2 => (kk2 y (by have := HSM.out.2.size; omega) (by omega)).trans (HSM.out.1 y h1 h2), HSM.out.2.trans (b2.mono (by omega))⟩; clear hdd hds kk2 b2))
        | (go_at_call 94; go_loud (obtain ⟨dd, hdd, hds⟩ := HMJ.out; refine (markPA6S_is (bw j) (c j).alsn _ (K + 1 + 1 + 1 + 6 * ((c j).parn : Int)) dd _ hll.2 (by omega) (by omega) hdd (by omega)).mono ?_; rintro e w3 ⟨rfl, _, _, kk3, b3⟩; have HC3 : Hid (CB w3 B (((cs.setIfInBounds (j * 5) (.string (mt (K)))).setIfInBounds (j * 5 + 1) (.int .i64 (K + 1))).setIfInBounds (j * 5 + 2) (.bool ((K + 1 + 1) % 3 == 0))) 31) := HC2.out.keep (kk3 B HC2.out.lt (by omega)); have HMR3 : Hid (∀ i, j < i → i < m → MRow w3 (bt i) (c i).parn ∧ MRow w3 (bw i) (c i).alsn) := hid (fun i h1 h2 => (by have := HAP.out i h2; have := HIN.out j i h1 h2; have r := HMR2.out i h1 h2; exact ⟨r.1.keep (kk3 _ r.1.lt (by omega)), r.2.keep (kk3 _ r.2.lt (by omega))⟩)); have HSM3 : Hid ((∀ y, y < w.heap.size → (y < lo ∨ hi ≤ y) → w3.heap[y]? = w.heap[y]?) ∧ Below lo w w3) := ⟨fun y h1 h2 => (kk3 y (by have := HSM2.out.2.size; omega) (by omega)).trans (HSM2.out.1 y h1 h2), HSM2.out.2.trans (b3.mono (by omega))⟩; clear hdd hds kk3 b3)))
      go_roundw
      case rel =>
        exact ⟨j + 1, _, by omega, by go_num, rfl, by omega, by omega, ⟨⟨_, HC3.out, by simpa using HCS.out.1, fun i h1 h2 => by rw [get_set_ne (by omega), get_set_ne (by omega), get_set_ne (by omega), get_set_ne (by omega), get_set_ne (by omega), get_set_ne (by omega)]; exact HCS.out.2 i (by omega) h2⟩, fun i h1 h2 => (HMR3.out i (by omega) h2).1, fun i h1 h2 => (HMR3.out i (by omega) h2).2⟩, HSM3.out⟩
      case measure => simp [intOf]; omega
    · obtain rfl : j = m := by omega
      have lkk : ¬ (j : Int) < (j : Int) := by omega
      have HF : Hid (0 ≤ K ∧ K ≤ 20000000000000) := ⟨by omega, by omega⟩
      go_wp2
      go_returns
      exact ⟨K, rfl, by first | exact HF.out | exact HF.out.2, HW.out.2.1, HW.out.2.2⟩
end Go.Proofs.Ytmbdeafpfdeigaa
