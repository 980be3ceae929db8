/- The laws' mark over rows of Job. -/
import Derived.Test.YtogolmbgboihdaaJa
import Derived.Test.YtogolmbgboihdaaTb
namespace Go.Proofs.Ytogolmbgboihdaa
open Go.ChangeShapes Go.WideShapes Go.ChangeAt Go.RowKit
set_option linter.unusedVariables false
set_option linter.unusedSimpArgs false

def MRow (w : World) (b n : Nat) : Prop := ∃ d, CB w b d 38 ∧ d.size = n * 3
theorem MRow.keep {w w' : World} {b n : Nat} (H : MRow w b n) (h : w'.heap[b]? = w.heap[b]?) : MRow w' b n := by obtain ⟨d, h1, h2⟩ := H; exact ⟨d, h1.keep h, h2⟩
theorem MRow.below {w w' : World} {b n : Nat} (H : MRow w b n) (h : Below w.heap.size w w') : MRow w' b n := by obtain ⟨d, h1, h2⟩ := H; exact ⟨d, h1.below h h1.lt, h2⟩
theorem MRow.lt {w : World} {b n : Nat} (H : MRow w b n) : b < w.heap.size := by obtain ⟨d, h1, h2⟩ := H; exact h1.lt
/-- The rows from j on, for the marks. -/
structure MO (w : World) (B m j : Nat) (c : Nat → JB) (bt : Nat → Nat) : Prop where
  main : ∃ cs, CB w B cs 34 ∧ cs.size = m * 4 ∧ ∀ i, j ≤ i → i < m → cs[i * 4 + 3]? = some (.slice (some ⟨bt i, 0, none⟩) (c i).rn (c i).rn)
  t : ∀ i, j ≤ i → i < m → MRow w (bt i) (c i).rn
theorem heap_st {w : World} {b o x : Nat} {u : Value} (hne : x ≠ b) : (w.setCell ⟨b, o, none⟩ u).heap[x]? = w.heap[x]? := hs_set hne
set_option maxRecDepth 20000 in
set_option maxHeartbeats 4000000 in
theorem markJBS_any (B m cap : Nat) (c : Nat → JB) (bt : Nat → Nat) (lo hi : Nat) (s : Int) (w : World) (h : (m : Int) ≤ 1048576) (hl : ∀ j, j < m → ((c j).rn : Int) ≤ 1048576) (hs0 : 0 < s) (hs1 : s ≤ 8000000) (H : OJB w B m m c bt) (hB : lo ≤ B) (hhi : w.heap.size ≤ hi ∨ ((∀ j, j < m → bt j < hi) ∧ B < hi)) :
    Calls Try.prog 38 #[.slice (some ⟨B, 0, none⟩) m cap, .int .i64 s] w fun e w' => ∃ v : Int, e = .returned (.int .i64 v) ∧ (0 < v ∧ v ≤ 20000000000000) ∧ (∀ y, y < w.heap.size → (y < lo ∨ hi ≤ y) → w'.heap[y]? = w.heap[y]?) ∧ Below lo w w' := by
  have HL : Hid (∀ j, j < m → ((c j).rn : Int) ≤ 1048576) := hl
  have HAP : Hid (∀ j, j < m → B < bt j) := H.ap
  have HIN : Hid (∀ i j, i < j → j < m → bt i < bt j) := H.inc
  have HHI : Hid (∀ j, j < m → bt j < hi ∧ B < hi) := fun j hj => by
    rcases hhi with q | q
    · have := (H.t j hj).lt; have := H.lt; omega
    · exact ⟨q.1 j hj, q.2⟩
  have HLT : Hid (∀ j, j < m → bt j < w.heap.size) := fun j hj => (H.t j hj).lt
  have HM0 : Hid (MO w B m 0 c bt) := by
    obtain ⟨cs, c1, c2, c3⟩ := H.main
    exact ⟨⟨cs, c1, c2, fun i _ hi => (c3 i hi).2.2.2⟩, fun i _ hi => (H.t i hi).2⟩
  have hBlt := H.lt
  clear hl H hhi
  go_enter Try.func38, Try.ntmps38
  go_wp2
  go_loopw [1, 5] (fun u i wr => ∃ (j : Nat) (K : Int), j ≤ m ∧ i = .int .i64 (j : Int) ∧ u = .int .i64 K ∧ 0 < K ∧ K ≤ 8000000 + 3145731 * (j : Int) ∧ Hid (MO wr B m j c bt ∧ (∀ y, y < w.heap.size → (y < lo ∨ hi ≤ y) → wr.heap[y]? = w.heap[y]?) ∧ Below lo w wr)) (fun u i _ => m - (intOf i).toNat)
  case atStart => exact ⟨0, s, Nat.zero_le _, rfl, rfl, hs0, by omega, HM0.out, fun y _ _ => rfl, Below.refl _ _⟩
  case round =>
    clear HM0
    obtain ⟨j, K, hj, rfl, rfl, hK0, hK1, HW⟩ := hrel
    by_cases hlt : j < m
    · have hlt2 : (j : Int) < (m : Int) := by omega
      obtain ⟨cs, c1, c2, c3⟩ := HW.out.1.main
      obtain ⟨v0, d0⟩ : ∃ v, cs[j * 4]? = some v := ⟨cs[j * 4]'(by omega), Array.getElem?_eq_getElem (by omega)⟩
      obtain ⟨v1, d1⟩ : ∃ v, cs[j * 4 + 1]? = some v := ⟨cs[j * 4 + 1]'(by omega), Array.getElem?_eq_getElem (by omega)⟩
      obtain ⟨v2, d2⟩ : ∃ v, cs[j * 4 + 2]? = some v := ⟨cs[j * 4 + 2]'(by omega), Array.getElem?_eq_getElem (by omega)⟩
      have hap := HAP.out j hlt
      have hhi := HHI.out j hlt
      have hll := HL.out j hlt
      have y0 := (c1.cell (j * 4)).trans d0
      have f0 := c1.fr (j * 4)
      have y1 := (c1.cell (j * 4 + 1)).trans d1
      have f1 := c1.fr (j * 4 + 1)
      have y2 := (c1.cell (j * 4 + 2)).trans d2
      have f2 := c1.fr (j * 4 + 2)
      have HCS : Hid (cs.size = m * 4 ∧ ∀ i, j ≤ i → i < m → cs[i * 4 + 3]? = some (.slice (some ⟨bt i, 0, none⟩) (c i).rn (c i).rn)) := ⟨c2, c3⟩
      have HMW : Hid (∀ i, j ≤ i → i < m → MRow wr (bt i) (c i).rn) := HW.out.1.t
      have HKB : Hid ((∀ y, y < w.heap.size → (y < lo ∨ hi ≤ y) → wr.heap[y]? = w.heap[y]?) ∧ Below lo w wr) := HW.out.2
      have hsz0 := HW.out.2.2.size
      have HCX : Hid (CB (((wr.setCell ⟨B, j * 4, none⟩ (.int .i64 (K))).setCell ⟨B, j * 4 + 1, none⟩ (.int .i64 (K + 1))).setCell ⟨B, j * 4 + 2, none⟩ (.int .i64 (K + 1 + 1))) B (((cs.setIfInBounds (j * 4) (.int .i64 (K))).setIfInBounds (j * 4 + 1) (.int .i64 (K + 1))).setIfInBounds (j * 4 + 2) (.int .i64 (K + 1 + 1))) 34) := (((c1.set _ _).set _ _).set _ _)
      have x1 : (((wr.setCell ⟨B, j * 4, none⟩ (.int .i64 (K))).setCell ⟨B, j * 4 + 1, none⟩ (.int .i64 (K + 1))).setCell ⟨B, j * 4 + 2, none⟩ (.int .i64 (K + 1 + 1))).cell? ⟨B, j * 4 + 3, none⟩ = some (.slice (some ⟨bt j, 0, none⟩) (c j).rn (c j).rn) := by rw [HCX.out.cell, get_set_ne (by omega), get_set_ne (by omega), get_set_ne (by omega)]; exact HCS.out.2 j (Nat.le_refl _) hlt
      have HMR : Hid (∀ i, j ≤ i → i < m → MRow (((wr.setCell ⟨B, j * 4, none⟩ (.int .i64 (K))).setCell ⟨B, j * 4 + 1, none⟩ (.int .i64 (K + 1))).setCell ⟨B, j * 4 + 2, none⟩ (.int .i64 (K + 1 + 1))) (bt i) (c i).rn) := hid (fun i h1 h2 => (by have := HAP.out i h2; exact (HMW.out i h1 h2).keep ((heap_st (by omega)).trans ((heap_st (by omega)).trans ((heap_st (by omega)).trans (rfl))))))
      have HSM : Hid ((∀ y, y < w.heap.size → (y < lo ∨ hi ≤ y) → (((wr.setCell ⟨B, j * 4, none⟩ (.int .i64 (K))).setCell ⟨B, j * 4 + 1, none⟩ (.int .i64 (K + 1))).setCell ⟨B, j * 4 + 2, none⟩ (.int .i64 (K + 1 + 1))).heap[y]? = w.heap[y]?) ∧ Below lo w (((wr.setCell ⟨B, j * 4, none⟩ (.int .i64 (K))).setCell ⟨B, j * 4 + 1, none⟩ (.int .i64 (K + 1))).setCell ⟨B, j * 4 + 2, none⟩ (.int .i64 (K + 1 + 1)))) := ⟨fun y h1 h2 => (heap_st (by omega)).trans ((heap_st (by omega)).trans ((heap_st (by omega)).trans (HKB.out.1 y h1 h2))), (((HKB.out.2.setCell hB _).setCell hB _).setCell hB _)⟩
      clear c1 c2 c3 d0 d1 d2 HW
      go_wp2_with (go_at_call 79; go_loud (obtain ⟨dd, hdd, hds⟩ := (HMR.out j (Nat.le_refl _) hlt); refine (markTK3S_is (bt j) (c j).rn _ (K + 1 + 1 + 1) dd _ hll (by omega) (by omega) hdd (by omega)).mono ?_; rintro e w2 ⟨rfl, _, _, kk2, b2⟩; have hs2 := b2.size; have HC2 : Hid (CB w2 B (((cs.setIfInBounds (j * 4) (.int .i64 (K))).setIfInBounds (j * 4 + 1) (.int .i64 (K + 1))).setIfInBounds (j * 4 + 2) (.int .i64 (K + 1 + 1))) 34) := HCX.out.keep (kk2 B HCX.out.lt (by omega)); have HMR2 : Hid (∀ i, j < i → i < m → MRow w2 (bt i) (c i).rn) := hid (fun i h1 h2 => (by have := HAP.out i h2; have := HIN.out j i h1 h2; have r := HMR.out i (by omega) h2; exact r.keep (kk2 _ r.lt (by omega)))); have HSM2 : Hid ((∀ y, y < w.heap.size → (y < lo ∨ hi ≤ y) → w2.heap[y]? = w.heap[y]?) ∧ Below lo w w2) := ⟨fun y h1 h2 => (kk2 y (by have := HSM.out.2.size; omega) (by omega)).trans (HSM.out.1 y h1 h2), HSM.out.2.trans (b2.mono (by omega))⟩; clear hdd hds kk2 b2))
      go_roundw
      case rel =>
        exact ⟨j + 1, _, by omega, by go_num, rfl, by omega, by omega, ⟨⟨_, HC2.out, by simpa using HCS.out.1, fun i h1 h2 => by rw [get_set_ne (by omega), get_set_ne (by omega), get_set_ne (by omega)]; exact HCS.out.2 i (by omega) h2⟩, fun i h1 h2 => HMR2.out i (by omega) h2⟩, HSM2.out⟩
      case measure => simp [intOf]; omega
    · obtain rfl : j = m := by omega
      have lkk : ¬ (j : Int) < (j : Int) := by omega
      have HF : Hid (0 < K ∧ K ≤ 20000000000000) := ⟨by omega, by omega⟩
      go_wp2
      go_returns
      exact ⟨K, rfl, HF.out, HW.out.2.1, HW.out.2.2⟩
end Go.Proofs.Ytogolmbgboihdaa
