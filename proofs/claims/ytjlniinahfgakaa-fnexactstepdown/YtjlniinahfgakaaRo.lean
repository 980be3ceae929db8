/- The laws over rules: marks, likeness of lists. -/
import Derived.Test.YtjlniinahfgakaaRn
namespace Go.Proofs.Ytjlniinahfgakaa
open Go.ChangeShapes Go.WideShapes Go.ChangeAt Go.RowKit
set_option linter.unusedVariables false
set_option linter.unusedSimpArgs false

def MRow (w : World) (b n : Nat) : Prop := ∃ d, CB w b d 3 ∧ d.size = n
theorem MRow.keep {w w' : World} {b n : Nat} (H : MRow w b n) (h : w'.heap[b]? = w.heap[b]?) : MRow w' b n := by obtain ⟨d, h1, h2⟩ := H; exact ⟨d, h1.keep h, h2⟩
set_option maxRecDepth 20000 in
set_option maxHeartbeats 2000000 in
theorem markIntS_row (b len : Nat) (s : Int) (w : World) (h : (len : Int) ≤ 1048576) (hs0 : 0 ≤ s) (hs1 : s ≤ 10000000000000) (h1 : MRow w b len) :
    Calls Try.prog 25 #[.slice (some ⟨b, 0, none⟩) len len, .int .i64 s] w fun e w' => e = .returned (.int .i64 (s + (len : Int))) ∧ (∀ y, y ≠ b → w'.heap[y]? = w.heap[y]?) ∧ Below b w w' := by
  obtain ⟨cur, hC, hsz⟩ := h1
  have HC : Hid (CB w b cur 3) := hC
  clear hC
  go_enter Try.func25, Try.ntmps25
  go_wp2
  go_loopw [1, 5] (fun u i wr => ∃ (k : Nat) (cs : Array Value), k ≤ len ∧ i = .int .i64 (k : Int) ∧ u = .int .i64 (s + (k : Int)) ∧ Hid (CB wr b cs 3 ∧ len ≤ cs.size ∧ (∀ y, y ≠ b → wr.heap[y]? = w.heap[y]?) ∧ Below b w wr)) (fun u i _ => len - (intOf i).toNat)
  case atStart => exact ⟨0, cur, Nat.zero_le _, rfl, by simp, HC.out, by omega, fun y hy => rfl, Below.refl _ _⟩
  case round =>
    obtain ⟨k, cs, hk, rfl, rfl, HW⟩ := hrel
    by_cases hlt : k < len
    · have hlt2 : (k : Int) < (len : Int) := by omega
      obtain ⟨v1, d1⟩ : ∃ v, cs[k]? = some v := ⟨cs[k]'(by have := HW.out.2.1; omega), Array.getElem?_eq_getElem (by have := HW.out.2.1; omega)⟩
      have x1 := (HW.out.1.cell k).trans d1
      have f1 := HW.out.1.fr k
      have HN : Hid (CB (wr.setCell ⟨b, k, none⟩ (.int .i64 (s + (k : Int)))) b (cs.setIfInBounds k (.int .i64 (s + (k : Int)))) 3 ∧ len ≤ (cs.setIfInBounds k (.int .i64 (s + (k : Int)))).size ∧ (∀ y, y ≠ b → (wr.setCell ⟨b, k, none⟩ (.int .i64 (s + (k : Int)))).heap[y]? = w.heap[y]?) ∧ Below b w (wr.setCell ⟨b, k, none⟩ (.int .i64 (s + (k : Int))))) :=
        ⟨HW.out.1.set _ _, by simpa using HW.out.2.1, fun y hy => (heap_set hy).trans (HW.out.2.2.1 y hy), HW.out.2.2.2.setCell (by show b ≤ b; omega) _⟩
      clear HW d1
      go_wp2
      go_roundw
      case rel => exact ⟨k + 1, _, by omega, by go_num, by go_num, HN⟩
      case measure => simp [intOf]; omega
    · obtain rfl : k = len := by omega
      have lkk : ¬ (k : Int) < (k : Int) := by omega
      go_wp2
      go_returns
      exact ⟨rfl, HW.out.2.2.1, HW.out.2.2.2⟩

/-- The rules from j on, for the marks. -/
structure MR3 (w : World) (B m j : Nat) (rs : Nat → R3) (bt bw : Nat → Nat) : Prop where
  main : ∃ cs, CB w B cs 36 ∧ cs.size = m * 3 ∧ ∀ i, j ≤ i → i < m → cs[i * 3 + 1]? = some (.slice (some ⟨bt i, 0, none⟩) (rs i).tn (rs i).tn) ∧ cs[i * 3 + 2]? = some (.slice (some ⟨bw i, 0, none⟩) (rs i).wn (rs i).wn)
  t : ∀ i, j ≤ i → i < m → MRow w (bt i) (rs i).tn
  u : ∀ i, j ≤ i → i < m → MRow w (bw i) (rs i).wn
set_option maxRecDepth 20000 in
set_option maxHeartbeats 4000000 in
theorem markRuleS_any (B m cap : Nat) (rs : Nat → R3) (bt bw : Nat → Nat) (lo hi : Nat) (s : Int) (w : World) (h : (m : Int) ≤ 1048576) (hl : ∀ j, j < m → ((rs j).tn : Int) ≤ 1048576 ∧ ((rs j).wn : Int) ≤ 1048576) (hs0 : 0 ≤ s) (hs1 : s ≤ 2000000) (H : OR3 w B m m rs bt bw) (hB : lo ≤ B) (hhi : w.heap.size ≤ hi ∨ ((∀ j, j < m → bw j < hi) ∧ B < hi)) :
    Calls Try.prog 30 #[.slice (some ⟨B, 0, none⟩) m cap, .int .i64 s] w fun e w' => ∃ v : Int, e = .returned (.int .i64 v) ∧ (0 ≤ v ∧ v ≤ 9000000000000) ∧ (∀ y, y < w.heap.size → (y < lo ∨ hi ≤ y) → w'.heap[y]? = w.heap[y]?) ∧ Below lo w w' := by
  have HL : Hid (∀ j, j < m → ((rs j).tn : Int) ≤ 1048576 ∧ ((rs j).wn : Int) ≤ 1048576) := hl
  have HAP : Hid (∀ j, j < m → B < bt j ∧ bt j < bw j) := H.ap
  have HIN : Hid (∀ i j, i < j → j < m → bw i < bt j) := H.inc
  have HHI : Hid (∀ j, j < m → bw j < hi ∧ B < hi) := fun j hj => by
    rcases hhi with q | q
    · have := (H.u j hj).lt; have := H.lt; omega
    · exact ⟨q.1 j hj, q.2⟩
  have HM0 : Hid (MR3 w B m 0 rs bt bw) := by
    obtain ⟨cs, c1, c2, c3⟩ := H.main
    exact ⟨⟨cs, c1, c2, fun i _ hi => (c3 i hi).2⟩, fun i _ hi => (H.t i hi).2, fun i _ hi => (H.u i hi).2⟩
  clear hl H hhi
  go_enter Try.func30, Try.ntmps30
  go_wp2
  go_loopw [1, 5] (fun u i wr => ∃ (j : Nat) (K : Int), j ≤ m ∧ i = .int .i64 (j : Int) ∧ u = .int .i64 K ∧ 0 ≤ K ∧ K ≤ 2000000 + 2097153 * (j : Int) ∧ Hid (MR3 wr B m j rs bt bw ∧ (∀ y, y < w.heap.size → (y < lo ∨ hi ≤ y) → wr.heap[y]? = w.heap[y]?) ∧ Below lo w wr)) (fun u i _ => m - (intOf i).toNat)
  case atStart => exact ⟨0, s, Nat.zero_le _, rfl, rfl, hs0, by omega, HM0.out, fun y _ _ => rfl, Below.refl _ _⟩
  case round =>
    clear HM0
    obtain ⟨j, K, hj, rfl, rfl, hK0, hK1, HW⟩ := hrel
    by_cases hlt : j < m
    · have hlt2 : (j : Int) < (m : Int) := by omega
      obtain ⟨cs, c1, c2, c3⟩ := HW.out.1.main
      obtain ⟨v1, d1⟩ : ∃ v, cs[j * 3]? = some v := ⟨cs[j * 3]'(by omega), Array.getElem?_eq_getElem (by omega)⟩
      have x1 := (c1.cell (j * 3)).trans d1
      have f1 := c1.fr (j * 3)
      have hap := HAP.out j hlt
      have hhi := HHI.out j hlt
      have hll := HL.out j hlt
      obtain ⟨q1, q2⟩ := c3 j (Nat.le_refl _) hlt
      have HC1 : Hid (CB (wr.setCell ⟨B, j * 3, none⟩ (.int .i64 K)) B (cs.setIfInBounds (j * 3) (.int .i64 K)) 36) := c1.set _ _
      have HCS : Hid (cs.size = m * 3 ∧ ∀ i, j ≤ i → i < m → cs[i * 3 + 1]? = some (.slice (some ⟨bt i, 0, none⟩) (rs i).tn (rs i).tn) ∧ cs[i * 3 + 2]? = some (.slice (some ⟨bw i, 0, none⟩) (rs i).wn (rs i).wn)) := ⟨c2, c3⟩
      have x2 : (wr.setCell ⟨B, j * 3, none⟩ (.int .i64 K)).cell? ⟨B, j * 3 + 1, none⟩ = some (.slice (some ⟨bt j, 0, none⟩) (rs j).tn (rs j).tn) := by rw [HC1.out.cell, get_set_ne (by omega)]; exact q1
      have HMT : Hid (MRow (wr.setCell ⟨B, j * 3, none⟩ (.int .i64 K)) (bt j) (rs j).tn) := (HW.out.1.t j (Nat.le_refl _) hlt).keep (heap_set (by omega))
      have HQ2 : Hid (cs[j * 3 + 2]? = some (.slice (some ⟨bw j, 0, none⟩) (rs j).wn (rs j).wn)) := q2
      have HMR : Hid (∀ i, j ≤ i → i < m → MRow (wr.setCell ⟨B, j * 3, none⟩ (.int .i64 K)) (bt i) (rs i).tn ∧ MRow (wr.setCell ⟨B, j * 3, none⟩ (.int .i64 K)) (bw i) (rs i).wn) := fun i h1 h2 => by
        have := HAP.out i h2
        exact ⟨(HW.out.1.t i h1 h2).keep (heap_set (by omega)), (HW.out.1.u i h1 h2).keep (heap_set (by omega))⟩
      have HSM : Hid ((∀ y, y < w.heap.size → (y < lo ∨ hi ≤ y) → (wr.setCell ⟨B, j * 3, none⟩ (.int .i64 K)).heap[y]? = w.heap[y]?) ∧ Below lo w (wr.setCell ⟨B, j * 3, none⟩ (.int .i64 K))) := ⟨fun y h1 h2 => (heap_set (by omega)).trans (HW.out.2.1 y h1 h2), HW.out.2.2.setCell hB _⟩
      clear c1 c2 c3 d1 q1 q2 HW
      have tok1 : True := trivial
      go_wp2_with (first
        | (go_at_call 25; clear tok1; go_loud (refine (markIntS_row (bt j) (rs j).tn (K + 1) _ hll.1 (by omega) (by omega) HMT.out).mono ?_; rintro e w2 ⟨rfl, k2, b2⟩; have HC2 : Hid (CB w2 B (cs.setIfInBounds (j * 3) (.int .i64 K)) 36) := HC1.out.keep (k2 B (by omega)); have x3 : w2.cell? ⟨B, j * 3 + 2, none⟩ = some (.slice (some ⟨bw j, 0, none⟩) (rs j).wn (rs j).wn) := (by rw [HC2.out.cell, get_set_ne (by omega)]; exact HQ2.out); have HMW : Hid (MRow w2 (bw j) (rs j).wn) := (HMR.out j (Nat.le_refl _) hlt).2.keep (k2 _ (by omega)); have HK2 : Hid ((∀ y, y ≠ bt j → w2.heap[y]? = (wr.setCell ⟨B, j * 3, none⟩ (.int .i64 K)).heap[y]?) ∧ Below (bt j) (wr.setCell ⟨B, j * 3, none⟩ (.int .i64 K)) w2) := ⟨k2, b2⟩; clear k2 b2))
        | (go_at_call 25; go_loud (refine (markIntS_row (bw j) (rs j).wn (K + 1 + ((rs j).tn : Int)) _ hll.2 (by omega) (by omega) HMW.out).mono ?_; rintro e w3 ⟨rfl, k3, b3⟩; have HK3 : Hid ((∀ y, y ≠ bw j → w3.heap[y]? = w2.heap[y]?) ∧ Below (bw j) w2 w3) := ⟨k3, b3⟩; clear k3 b3)))
      go_roundw
      case rel =>
        refine ⟨j + 1, _, by omega, by go_num, rfl, by omega, by omega, ⟨⟨_, (HC2.out.keep (HK3.out.1 B (by omega))), by simpa using HCS.out.1, fun i h1 h2 => ?_⟩, fun i h1 h2 => ?_, fun i h1 h2 => ?_⟩, fun y h1 h2 => ?_, ?_⟩
        · rw [get_set_ne (by omega), get_set_ne (by omega)]; exact HCS.out.2 i (by omega) h2
        · have := HIN.out j i (by omega) h2
          have := HAP.out i h2
          exact ((HMR.out i (by omega) h2).1.keep (HK2.out.1 _ (by omega))).keep (HK3.out.1 _ (by omega))
        · have := HIN.out j i (by omega) h2
          have := HAP.out i h2
          exact ((HMR.out i (by omega) h2).2.keep (HK2.out.1 _ (by omega))).keep (HK3.out.1 _ (by omega))
        · exact ((HK3.out.1 y (by omega)).trans (HK2.out.1 y (by omega))).trans (HSM.out.1 y h1 h2)
        · exact (HSM.out.2.trans (HK2.out.2.mono (by omega))).trans (HK3.out.2.mono (by omega))
      case measure => simp [intOf]; omega
    · obtain rfl : j = m := by omega
      have lkk : ¬ (j : Int) < (j : Int) := by omega
      have HF : Hid (0 ≤ K ∧ K ≤ 9000000000000) := ⟨hK0, by omega⟩
      go_wp2
      go_returns
      exact ⟨K, rfl, by first | exact HF.out | exact HF.out.2, HW.out.2.1, HW.out.2.2⟩

set_option maxRecDepth 20000 in
set_option maxHeartbeats 4000000 in
theorem eqRuleS_same (ra rb : Option Addr) (m cap cap2 : Nat) (rs : Nat → R3) (w : World) (h : (m : Int) ≤ 1048576) (hl : ∀ j, j < m → ((rs j).tn : Int) ≤ 1048576 ∧ ((rs j).wn : Int) ≤ 1048576) (h1 : RU w ra m rs) (h2 : RU w rb m rs) :
    Calls Try.prog 29 #[.slice ra m cap, .slice rb m cap2] w fun e w' => e = .returned (.bool true) ∧ Below w.heap.size w w' := by
  have H1 : Hid (RU w ra m rs) := h1
  have H2 : Hid (RU w rb m rs) := h2
  have HN : Hid (∀ j, j < m → ((rs j).tn : Int) ≤ 1048576 ∧ ((rs j).wn : Int) ≤ 1048576) := hl
  clear h1 h2 hl
  go_enter Try.func29, Try.ntmps29
  go_wp2
  go_loopw [5] (fun i wr => ∃ (k : Nat), k ≤ m ∧ i = .int .i64 (k : Int) ∧ Hid (Below w.heap.size w wr)) (fun i _ => m - (intOf i).toNat)
  case atStart => exact ⟨0, Nat.zero_le _, rfl, Below.refl _ _⟩
  case round =>
    obtain ⟨k, hk, rfl, HB⟩ := hrel
    by_cases hlt : k < m
    · have hlt2 : (k : Int) < (m : Int) := by omega
      obtain ⟨kb, off, rfl, hkb, hru⟩ : ∃ kb off, ra = some ⟨kb, off, none⟩ ∧ kb < w.heap.size ∧ RuAt w kb (off + k * 3) (rs k) := by
        rcases H1.out with h | ⟨kb, off, e, hkb, hc⟩
        · omega
        · exact ⟨kb, off, e, hkb, hc k hlt⟩
      obtain ⟨kb2, off2, rfl, hkb2, hru2⟩ : ∃ kb off, rb = some ⟨kb, off, none⟩ ∧ kb < w.heap.size ∧ RuAt w kb (off + k * 3) (rs k) := by
        rcases H2.out with h | ⟨kb, off, e, hkb, hc⟩
        · omega
        · exact ⟨kb, off, e, hkb, hc k hlt⟩
      obtain ⟨ta, tc, wa, wc', r1, r2, r3, r4, r5, _⟩ := hru
      obtain ⟨tb, td, wb, wd, s1, s2, s3, s4, s5, _⟩ := hru2
      have c1 : wr.cell? ⟨kb, off + k * 3, none⟩ = some (.int .i64 (rs k).frm) := by rw [World.cell?_of_block (w := w) (HB.out.block kb hkb)]; exact r1
      have c2 : wr.cell? ⟨kb, off + k * 3 + 1, none⟩ = some (.slice ta (rs k).tn tc) := by rw [World.cell?_of_block (w := w) (HB.out.block kb hkb)]; exact r2
      have c3 : wr.cell? ⟨kb, off + k * 3 + 2, none⟩ = some (.slice wa (rs k).wn wc') := by rw [World.cell?_of_block (w := w) (HB.out.block kb hkb)]; exact r3
      have e1 : wr.cell? ⟨kb2, off2 + k * 3, none⟩ = some (.int .i64 (rs k).frm) := by rw [World.cell?_of_block (w := w) (HB.out.block kb2 hkb2)]; exact s1
      have e2 : wr.cell? ⟨kb2, off2 + k * 3 + 1, none⟩ = some (.slice tb (rs k).tn td) := by rw [World.cell?_of_block (w := w) (HB.out.block kb2 hkb2)]; exact s2
      have e3 : wr.cell? ⟨kb2, off2 + k * 3 + 2, none⟩ = some (.slice wb (rs k).wn wd) := by rw [World.cell?_of_block (w := w) (HB.out.block kb2 hkb2)]; exact s3
      have hBd : Below w.heap.size w wr.drew := HB.out.drew
      have hnk := HN.out k hlt
      have HEQ : Hid (Calls Try.prog 67 #[.agg #[.int .i64 (rs k).frm, .slice ta (rs k).tn tc, .slice wa (rs k).wn wc'], .agg #[.int .i64 (rs k).frm, .slice tb (rs k).tn td, .slice wb (rs k).wn wd]] wr.drew fun e w' => e = .returned (.bool true) ∧ Below wr.drew.heap.size wr.drew w') := eqRule_same _ _ _ _ _ _ _ _ _ _ _ (rs k).to (rs k).wt _ hnk.1 hnk.2 (r4.below hBd) (r5.below hBd) (s4.below hBd) (s5.below hBd)
      clear r1 r2 r3 r4 r5 s1 s2 s3 s4 s5
      obtain ⟨f, hf⟩ : ∃ f, (rs k).frm = f := ⟨_, rfl⟩
      obtain ⟨tn, ht⟩ : ∃ t, (rs k).tn = t := ⟨_, rfl⟩
      obtain ⟨wn, hw⟩ : ∃ t, (rs k).wn = t := ⟨_, rfl⟩
      rw [hf, ht, hw] at HEQ
      rw [hf] at c1 e1
      rw [ht] at c2 e2
      rw [hw] at c3 e3
      clear hf ht hw hnk
      go_wp2
      go_region_held3 (fun w' => (w'.cell? ⟨kb, off + k * 3, none⟩ = some (.int .i64 f) ∧ w'.cell? ⟨kb, off + k * 3 + 1, none⟩ = some (.slice ta tn tc) ∧ w'.cell? ⟨kb, off + k * 3 + 2, none⟩ = some (.slice wa wn wc')) ∧ (w'.cell? ⟨kb2, off2 + k * 3, none⟩ = some (.int .i64 f) ∧ w'.cell? ⟨kb2, off2 + k * 3 + 1, none⟩ = some (.slice tb tn td) ∧ w'.cell? ⟨kb2, off2 + k * 3 + 2, none⟩ = some (.slice wb wn wd)) ∧ Below w.heap.size w w')
        (refine ⟨⟨?_, ?_, ?_⟩, ⟨?_, ?_, ?_⟩, ?_⟩ <;> first | assumption | (simp [*]; done))
        (first
        | (go_at_call 67; refine HEQ.out.mono ?_; rintro e w2 ⟨rfl, b2⟩; have q0 : w2.cell? ⟨kb, off + k * 3, none⟩ = some (.int .i64 f) := keep_cell' b2 (by simp [*]); have q1 : w2.cell? ⟨kb, off + k * 3 + 1, none⟩ = some (.slice ta tn tc) := keep_cell' b2 (by simp [*]); have q2 : w2.cell? ⟨kb, off + k * 3 + 2, none⟩ = some (.slice wa wn wc') := keep_cell' b2 (by simp [*]); have r0 : w2.cell? ⟨kb2, off2 + k * 3, none⟩ = some (.int .i64 f) := keep_cell' b2 (by simp [*]); have r1 : w2.cell? ⟨kb2, off2 + k * 3 + 1, none⟩ = some (.slice tb tn td) := keep_cell' b2 (by simp [*]); have r2 : w2.cell? ⟨kb2, off2 + k * 3 + 2, none⟩ = some (.slice wb wn wd) := keep_cell' b2 (by simp [*]); have q4 : Below w.heap.size w w2 := bel_on hBd b2))
      go_wp2
      go_roundw
      case rel => exact ⟨k + 1, by omega, by go_num, q4⟩
      case measure => simp [intOf]; omega
    · obtain rfl : k = m := by omega
      have lkk : ¬ (k : Int) < (k : Int) := by omega
      go_wp2
      go_returns
      exact ⟨rfl, HB.out⟩
end Go.Proofs.Ytjlniinahfgakaa
