/- The laws' marks over groups. -/
import Derived.Test.YtoihiamafbokbaaDoorGm
namespace Go.Proofs.YtoihiamafbokbaaDoor
open Go.ChangeShapes Go.WideShapes Go.ChangeAt Go.RowKit
set_option linter.unusedVariables false
set_option linter.unusedSimpArgs false

theorem CB.keep {w w' : World} {b : Nat} {cs : Array Value} {t : TypeId} (H : CB w b cs t) (h : w'.heap[b]? = w.heap[b]?) : CB w' b cs t := by unfold CB at H ⊢; rw [h]; exact H
def mtF : Nat → Int → ByteArray → ByteArray
  | 0, _, s => s
  | f + 1, k, s => if 0 < k then mtF f (k / 10) (⟨#[UInt8.ofNat (48 + k % 10).toNat]⟩ ++ s) else s
def mt (x : Int) : ByteArray := ⟨#[109]⟩ ++ mtF (x.toNat + 1) x ByteArray.empty
theorem mtF_step {f : Nat} {k : Int} {s : ByteArray} (h : 0 < k) : mtF (f + 1) k s = mtF f (k / 10) (⟨#[UInt8.ofNat (48 + k % 10).toNat]⟩ ++ s) := by simp [mtF, h]
theorem mtF_end {f : Nat} {k : Int} {s : ByteArray} (h : ¬ 0 < k) : mtF f k s = s := by cases f <;> simp [mtF, h]
set_option maxRecDepth 20000 in
set_option maxHeartbeats 2000000 in
theorem markText_is (x : Int) (w : World) (h0 : 0 < x) (h1 : x ≤ 10000000000000) :
    Calls Tryd.prog 46 #[.int .i64 x] w fun e w' => e = .returned (.string (mt x)) ∧ Below w.heap.size w w' := by
  go_enter Tryd.func46, Tryd.ntmps46
  go_wp2
  go_loopw [0, 3] (fun u v wr => ∃ (k : Int) (s : ByteArray) (f : Nat), 0 ≤ k ∧ k ≤ x ∧ u = .int .i64 k ∧ v = .string s ∧ (s.size : Int) + k ≤ x ∧ k < (f : Int) ∧ Hid (mtF f k s = mtF (x.toNat + 1) x ByteArray.empty) ∧ Below w.heap.size w wr) (fun u v _ => (intOf u).toNat)
  case atStart => exact ⟨x, _, x.toNat + 1, by omega, by omega, rfl, rfl, by show ((0 : Nat) : Int) + x ≤ x; omega, by omega, rfl, Below.refl _ _⟩
  case round =>
    obtain ⟨k, s, f, hk0, hkx, rfl, rfl, hsz, hf, HF, hB⟩ := hrel
    by_cases hk : 0 < k
    · have hw : w.heap.size ≤ wr.heap.size := hB.size
      obtain ⟨f', rfl⟩ : ∃ f', f = f' + 1 := ⟨f - 1, by omega⟩
      have HB : Hid (Below w.heap.size w (wr.alloc (.cells #[.int .u8 (48 + k % 10)] 5 (0, 0)))) := hB.alloc hw _
      have hm1 : 0 ≤ k % 10 := by omega
      have hm2 : k % 10 < 10 := by omega
      have hd : k / 10 < k := by omega
      have HF2 : Hid (mtF f' (k / 10) ((⟨#[UInt8.ofNat (48 + k % 10).toNat]⟩ : ByteArray) ++ s) = mtF (x.toNat + 1) x ByteArray.empty) := (mtF_step hk).symm.trans HF.out
      obtain ⟨d, hdd⟩ : ∃ d : UInt8, d = UInt8.ofNat (48 + k % 10).toNat := ⟨_, rfl⟩
      have hd' : (d.toNat : Int) = 48 + k % 10 := by
        rw [hdd]
        simp
        omega
      rw [← hdd] at HF2
      have hconv : (convert 97 9 (.slice (some ⟨wr.heap.size, 0, none⟩) 1 1)).run Tryd.prog (wr.alloc (.cells #[.int .u8 (48 + k % 10)] 5 (0, 0))) = .ok (.string ⟨#[d]⟩) (wr.alloc (.cells #[.int .u8 (48 + k % 10)] 5 (0, 0))) := by
        have := run_convert_bytes_back (P := Tryd.prog) (wr.alloc (.cells #[.int .u8 (48 + k % 10)] 5 (0, 0))) 97 9 5 ⟨wr.heap.size, 0, none⟩ 1 [d] Tryd.underlying97 Tryd.underlying5 Tryd.underlying9 (fun j hj => by
          obtain rfl : j = 0 := by simp at hj; omega
          rw [← hd']
          exact ((CB.new (w := wr) #[.int .u8 (d.toNat : Int)] 5).cell 0).trans rfl)
        exact this
      have hsz2 : ((⟨#[d]⟩ : ByteArray) ++ s).size = s.size + 1 := by rw [ByteArray.size_append]; show 1 + s.size = _; omega
      have HSZ : Hid (((⟨#[d]⟩ : ByteArray) ++ s).size = s.size + 1) := hsz2
      have hs1 : (⟨#[d]⟩ : ByteArray).size = 1 := rfl
      have hs4 : (s.size : Int) ≤ 10000000000000 := by omega
      clear hB hd' hsz2 hdd HF
      go_wp2
      go_roundw
      case rel => exact ⟨k / 10, (⟨#[d]⟩ : ByteArray) ++ s, f', by omega, by omega, by go_num, rfl, by have := HSZ.out; rw [this]; omega, by omega, HF2, HB.out⟩
      case measure => simp [intOf]; omega
    · have hk1 : k = 0 := by omega
      subst hk1
      have HB : Hid (Below w.heap.size w wr) := hB
      have HE : Hid (s = mtF (x.toNat + 1) x ByteArray.empty) := (mtF_end (by omega)).symm.trans HF.out
      clear hB HF
      have hs4 : (s.size : Int) ≤ 10000000000000 := by omega
      go_wp2
      go_returns
      exact ⟨by unfold mt; rw [← HE.out]; rfl, HB.out⟩
set_option maxRecDepth 20000 in
set_option maxHeartbeats 2000000 in
theorem markAccS_any (b len cap base : Nat) (cs0 : Array Value) (w : World) (h : (len : Int) ≤ 1048576) (hC0 : CB w b cs0 71) (hs0 : cs0.size = len * 3) (hb : base ≤ b) :
    Calls Tryd.prog 29 #[.slice (some ⟨b, 0, none⟩) len cap, .int .i64 1] w fun e w' => e = .returned (.int .i64 (3 * (len : Int) + 1)) ∧ (∀ y, y < w.heap.size → y ≠ b → w'.heap[y]? = w.heap[y]?) ∧ Below base w w' := by
  have HC : Hid (CB w b cs0 71) := hC0
  have hblt := hC0.lt
  clear hC0
  go_enter Tryd.func29, Tryd.ntmps29
  go_wp2
  go_loopw [1, 5] (fun u i wr => ∃ (k : Nat) (cs : Array Value), k ≤ len ∧ i = .int .i64 (k : Int) ∧ u = .int .i64 (3 * (k : Int) + 1) ∧ CB wr b cs 71 ∧ cs.size = len * 3 ∧ (∀ y, y < w.heap.size → y ≠ b → wr.heap[y]? = w.heap[y]?) ∧ Below base w wr) (fun u i _ => len - (intOf i).toNat)
  case atStart => exact ⟨0, cs0, Nat.zero_le _, rfl, by simp, HC.out, hs0, fun y _ hy => rfl, Below.refl _ _⟩
  case round =>
    obtain ⟨k, cs, hk, rfl, rfl, hC, hs, hkeep, hB⟩ := hrel
    by_cases hlt : k < len
    · have hlt2 : (k : Int) < (len : Int) := by omega
      obtain ⟨v1, d1⟩ : ∃ v, cs[k * 3]? = some v := ⟨cs[k * 3]'(by omega), Array.getElem?_eq_getElem (by omega)⟩
      obtain ⟨v2, d2⟩ : ∃ v, cs[k * 3 + 1]? = some v := ⟨cs[k * 3 + 1]'(by omega), Array.getElem?_eq_getElem (by omega)⟩
      obtain ⟨v3, d3⟩ : ∃ v, cs[k * 3 + 2]? = some v := ⟨cs[k * 3 + 2]'(by omega), Array.getElem?_eq_getElem (by omega)⟩
      have hsz := hB.size
      have HCC : Hid (CB wr b cs 71) := hC
      have HS : Hid (cs.size = len * 3) := hs
      have HK : Hid (∀ y, y < w.heap.size → y ≠ b → wr.heap[y]? = w.heap[y]?) := hkeep
      have HB : Hid (Below base w wr) := hB
      clear hC hs hkeep hB
      go_wp2_with (go_at_call 46; refine (markText_is _ _ (by omega) (by omega)).mono ?_; rintro e w1 ⟨rfl, b1⟩; obtain ⟨TX, htx⟩ : ∃ TX, TX = mt (3 * (k : Int) + 1) := ⟨_, rfl⟩; rw [← htx]; clear htx; have X1 : CB w1 b cs 71 := HCC.out.below b1 HCC.out.lt; have x1 := (X1.cell (k * 3)).trans d1; have x2 := (X1.cell (k * 3 + 1)).trans d2; have x3 := (X1.cell (k * 3 + 2)).trans d3; have f1 := X1.fr (k * 3); have f2 := X1.fr (k * 3 + 1); have f3 := X1.fr (k * 3 + 2); have HX : Hid (CB w1 b cs 71) := X1; have HK1 : Hid (∀ y, y < w.heap.size → y ≠ b → w1.heap[y]? = w.heap[y]?) := (fun y h1 h2 => (b1.block y (by omega)).trans (HK.out y h1 h2)); have HB1 : Hid (Below base w w1) := HB.out.trans (b1.mono (by omega)); clear X1 b1)
      go_roundw
      case rel => exact ⟨k + 1, _, by omega, by go_num, by go_num, ((HX.out.set _ _).set _ _).set _ _, by simp [HS.out], fun y h1 h2 => (heap_set h2).trans ((heap_set h2).trans ((heap_set h2).trans (HK1.out y h1 h2))), ((HB1.out.setCell hb _).setCell hb _).setCell hb _⟩
      case measure => simp [intOf]; omega
    · obtain rfl : k = len := by omega
      have HN : Hid ((∀ y, y < w.heap.size → y ≠ b → wr.heap[y]? = w.heap[y]?) ∧ Below base w wr) := ⟨hkeep, hB⟩
      clear hC hs hkeep hB
      go_wp2
      go_returns
      exact ⟨rfl, HN.out.1, HN.out.2⟩
def MRow (w : World) (b n : Nat) : Prop := ∃ d, CB w b d 3 ∧ d.size = n
theorem MRow.keep {w w' : World} {b n : Nat} (H : MRow w b n) (h : w'.heap[b]? = w.heap[b]?) : MRow w' b n := by obtain ⟨d, h1, h2⟩ := H; exact ⟨d, h1.keep h, h2⟩
set_option maxRecDepth 20000 in
set_option maxHeartbeats 2000000 in
theorem markIntS_row (b len : Nat) (s : Int) (w : World) (h : (len : Int) ≤ 1048576) (hs0 : 0 ≤ s) (hs1 : s ≤ 10000000000000) (h1 : MRow w b len) :
    Calls Tryd.prog 14 #[.slice (some ⟨b, 0, none⟩) len len, .int .i64 s] w fun e w' => e = .returned (.int .i64 (s + (len : Int))) ∧ (∀ y, y ≠ b → w'.heap[y]? = w.heap[y]?) ∧ Below b w w' := by
  obtain ⟨cur, hC, hsz⟩ := h1
  have HC : Hid (CB w b cur 3) := hC
  clear hC
  go_enter Tryd.func14, Tryd.ntmps14
  go_wp2
  go_loopw [1, 5] (fun u i wr => ∃ (k : Nat) (cs : Array Value), k ≤ len ∧ i = .int .i64 (k : Int) ∧ u = .int .i64 (s + (k : Int)) ∧ Hid (CB wr b cs 3 ∧ len ≤ cs.size ∧ (∀ y, y ≠ b → wr.heap[y]? = w.heap[y]?) ∧ Below b w wr)) (fun u i _ => len - (intOf i).toNat)
  case atStart => exact ⟨0, cur, Nat.zero_le _, rfl, by simp, HC.out, by omega, fun y hy => rfl, Below.refl _ _⟩
  case round =>
    obtain ⟨k, cs, hk, rfl, rfl, HW⟩ := hrel
    by_cases hlt : k < len
    · have hlt2 : (k : Int) < (len : Int) := by omega
      obtain ⟨v1, d1⟩ : ∃ v, cs[k]? = some v := ⟨cs[k]'(by have := HW.out.2.1; omega), Array.getElem?_eq_getElem (by have := HW.out.2.1; omega)⟩
      have x1 := (HW.out.1.cell k).trans d1
      have f1 := HW.out.1.fr k
      have HN : Hid (CB (wr.setCell ⟨b, k, none⟩ (.int .i64 (s + (k : Int)))) b (cs.setIfInBounds k (.int .i64 (s + (k : Int)))) 3 ∧ len ≤ (cs.setIfInBounds k (.int .i64 (s + (k : Int)))).size ∧ (∀ y, y ≠ b → (wr.setCell ⟨b, k, none⟩ (.int .i64 (s + (k : Int)))).heap[y]? = w.heap[y]?) ∧ Below b w (wr.setCell ⟨b, k, none⟩ (.int .i64 (s + (k : Int))))) :=
        ⟨HW.out.1.set _ _, by simpa using HW.out.2.1, fun y hy => (heap_set hy).trans (HW.out.2.2.1 y hy), HW.out.2.2.2.setCell (by show b ≤ b; omega) _⟩
      clear HW d1
      go_wp2
      go_roundw
      case rel => exact ⟨k + 1, _, by omega, by go_num, by go_num, HN⟩
      case measure => simp [intOf]; omega
    · obtain rfl : k = len := by omega
      have lkk : ¬ (k : Int) < (k : Int) := by omega
      go_wp2
      go_returns
      exact ⟨rfl, HW.out.2.2.1, HW.out.2.2.2⟩

/-- The members from j on, for the marks. -/
structure MM4 (w : World) (B m j : Nat) (ms : Nat → M4) (bt : Nat → Nat) : Prop where
  main : ∃ cs, CB w B cs 46 ∧ cs.size = m * 4 ∧ ∀ i, j ≤ i → i < m → cs[i * 4 + 3]? = some (.slice (some ⟨bt i, 0, none⟩) (ms i).tn (ms i).tn)
  t : ∀ i, j ≤ i → i < m → MRow w (bt i) (ms i).tn
set_option maxRecDepth 20000 in
set_option maxHeartbeats 4000000 in
theorem markMemberS_any (B m cap : Nat) (ms : Nat → M4) (bt : Nat → Nat) (lo hi : Nat) (s : Int) (w : World) (h : (m : Int) ≤ 1048576) (hl : ∀ j, j < m → ((ms j).tn : Int) ≤ 1048576) (hs0 : 0 ≤ s) (hs1 : s ≤ 4000000) (H : MM4 w B m 0 ms bt) (HAP0 : ∀ j, j < m → B < bt j) (HIN0 : ∀ i j, i < j → j < m → bt i < bt j) (hB : lo ≤ B) (hBh : B < hi) (hhi : ∀ j, j < m → bt j < hi) :
    Calls Tryd.prog 30 #[.slice (some ⟨B, 0, none⟩) m cap, .int .i64 s] w fun e w' => ∃ v : Int, e = .returned (.int .i64 v) ∧ (0 ≤ v ∧ v ≤ 9000000000000) ∧ (∀ y, y < w.heap.size → (y < lo ∨ hi ≤ y) → w'.heap[y]? = w.heap[y]?) ∧ Below lo w w' := by
  have HL : Hid (∀ j, j < m → ((ms j).tn : Int) ≤ 1048576) := hl
  have HAP : Hid (∀ j, j < m → B < bt j) := HAP0
  have HIN : Hid (∀ i j, i < j → j < m → bt i < bt j) := HIN0
  have HHI : Hid (∀ j, j < m → bt j < hi) := hhi
  have HM0 : Hid (MM4 w B m 0 ms bt) := H
  clear hl H hhi HAP0 HIN0
  go_enter Tryd.func30, Tryd.ntmps30
  go_wp2
  go_loopw [1, 5] (fun u i wr => ∃ (j : Nat) (K : Int), j ≤ m ∧ i = .int .i64 (j : Int) ∧ u = .int .i64 K ∧ 0 ≤ K ∧ K ≤ 4000000 + 1048579 * (j : Int) ∧ Hid (MM4 wr B m j ms bt ∧ (∀ y, y < w.heap.size → (y < lo ∨ hi ≤ y) → wr.heap[y]? = w.heap[y]?) ∧ Below lo w wr)) (fun u i _ => m - (intOf i).toNat)
  case atStart => exact ⟨0, s, Nat.zero_le _, rfl, rfl, hs0, by omega, HM0.out, fun y _ _ => rfl, Below.refl _ _⟩
  case round =>
    clear HM0
    obtain ⟨j, K, hj, rfl, rfl, hK0, hK1, HW⟩ := hrel
    by_cases hlt : j < m
    · have hlt2 : (j : Int) < (m : Int) := by omega
      obtain ⟨cs, c1, c2, c3⟩ := HW.out.1.main
      obtain ⟨v1, d1⟩ : ∃ v, cs[j * 4]? = some v := ⟨cs[j * 4]'(by omega), Array.getElem?_eq_getElem (by omega)⟩
      obtain ⟨v2, d2⟩ : ∃ v, cs[j * 4 + 1]? = some v := ⟨cs[j * 4 + 1]'(by omega), Array.getElem?_eq_getElem (by omega)⟩
      obtain ⟨v3, d3⟩ : ∃ v, cs[j * 4 + 2]? = some v := ⟨cs[j * 4 + 2]'(by omega), Array.getElem?_eq_getElem (by omega)⟩
      have x1 := (c1.cell (j * 4)).trans d1
      have x2 := (c1.cell (j * 4 + 1)).trans d2
      have x3 := (c1.cell (j * 4 + 2)).trans d3
      have x4 := (c1.cell (j * 4 + 3)).trans (c3 j (Nat.le_refl _) hlt)
      have f1 := c1.fr (j * 4)
      have f2 := c1.fr (j * 4 + 1)
      have f3 := c1.fr (j * 4 + 2)
      have hap := HAP.out j hlt
      have hhi := HHI.out j hlt
      have hll := HL.out j hlt
      have HC1 : Hid (CB (((wr.setCell ⟨B, j * 4, none⟩ (.int .i64 K)).setCell ⟨B, j * 4 + 1, none⟩ (.int .i64 (K + 1))).setCell ⟨B, j * 4 + 2, none⟩ (.int .i64 (K + 1 + 1))) B (((cs.setIfInBounds (j * 4) (.int .i64 K)).setIfInBounds (j * 4 + 1) (.int .i64 (K + 1))).setIfInBounds (j * 4 + 2) (.int .i64 (K + 1 + 1))) 46) := ((c1.set _ _).set _ _).set _ _
      have HCS : Hid (cs.size = m * 4 ∧ ∀ i, j ≤ i → i < m → cs[i * 4 + 3]? = some (.slice (some ⟨bt i, 0, none⟩) (ms i).tn (ms i).tn)) := ⟨c2, c3⟩
      have HMR : Hid (∀ i, j ≤ i → i < m → MRow (((wr.setCell ⟨B, j * 4, none⟩ (.int .i64 K)).setCell ⟨B, j * 4 + 1, none⟩ (.int .i64 (K + 1))).setCell ⟨B, j * 4 + 2, none⟩ (.int .i64 (K + 1 + 1))) (bt i) (ms i).tn) := fun i h1 h2 => by
        have := HAP.out i h2
        exact (((HW.out.1.t i h1 h2).keep (heap_set (by omega))).keep (heap_set (by omega))).keep (heap_set (by omega))
      have HSM : Hid ((∀ y, y < w.heap.size → (y < lo ∨ hi ≤ y) → (((wr.setCell ⟨B, j * 4, none⟩ (.int .i64 K)).setCell ⟨B, j * 4 + 1, none⟩ (.int .i64 (K + 1))).setCell ⟨B, j * 4 + 2, none⟩ (.int .i64 (K + 1 + 1))).heap[y]? = w.heap[y]?) ∧ Below lo w (((wr.setCell ⟨B, j * 4, none⟩ (.int .i64 K)).setCell ⟨B, j * 4 + 1, none⟩ (.int .i64 (K + 1))).setCell ⟨B, j * 4 + 2, none⟩ (.int .i64 (K + 1 + 1)))) := ⟨fun y h1 h2 => (heap_set (by omega)).trans ((heap_set (by omega)).trans ((heap_set (by omega)).trans (HW.out.2.1 y h1 h2))), ((HW.out.2.2.setCell hB _).setCell hB _).setCell hB _⟩
      clear c1 c2 c3 d1 d2 d3 HW
      go_wp2_with (go_at_call 14; go_loud (refine (markIntS_row (bt j) (ms j).tn (K + 1 + 1 + 1) _ hll (by omega) (by omega) (HMR.out j (Nat.le_refl _) hlt)).mono ?_; rintro e w2 ⟨rfl, k2, b2⟩; have HK2 : Hid ((∀ y, y ≠ bt j → w2.heap[y]? = (((wr.setCell ⟨B, j * 4, none⟩ (.int .i64 K)).setCell ⟨B, j * 4 + 1, none⟩ (.int .i64 (K + 1))).setCell ⟨B, j * 4 + 2, none⟩ (.int .i64 (K + 1 + 1))).heap[y]?) ∧ Below (bt j) (((wr.setCell ⟨B, j * 4, none⟩ (.int .i64 K)).setCell ⟨B, j * 4 + 1, none⟩ (.int .i64 (K + 1))).setCell ⟨B, j * 4 + 2, none⟩ (.int .i64 (K + 1 + 1))) w2) := ⟨k2, b2⟩; clear k2 b2))
      go_roundw
      case rel =>
        refine ⟨j + 1, _, by omega, by go_num, rfl, by omega, by omega, ⟨⟨_, (HC1.out.keep (HK2.out.1 B (by omega))), by simpa using HCS.out.1, fun i h1 h2 => ?_⟩, fun i h1 h2 => ?_⟩, fun y h1 h2 => ?_, ?_⟩
        · rw [get_set_ne (by omega), get_set_ne (by omega), get_set_ne (by omega)]; exact HCS.out.2 i (by omega) h2
        · have := HIN.out j i (by omega) h2
          exact (HMR.out i (by omega) h2).keep (HK2.out.1 _ (by omega))
        · exact (HK2.out.1 y (by omega)).trans (HSM.out.1 y h1 h2)
        · exact HSM.out.2.trans (HK2.out.2.mono (by omega))
      case measure => simp [intOf]; omega
    · obtain rfl : j = m := by omega
      have lkk : ¬ (j : Int) < (j : Int) := by omega
      have HF : Hid (0 ≤ K ∧ K ≤ 9000000000000) := ⟨hK0, by omega⟩
      go_wp2
      go_returns
      exact ⟨K, rfl, by first | exact HF.out | exact HF.out.2, HW.out.2.1, HW.out.2.2⟩

theorem OM4.marks {w w' : World} {B m bc : Nat} {ms : Nat → M4} {bt : Nat → Nat} (H : OM4 w B m m ms bt) (hk : ∀ y, y < w.heap.size → y ≠ bc → w'.heap[y]? = w.heap[y]?) (hlt : bc < B) : MM4 w' B m 0 ms bt := by
  obtain ⟨cs, c1, c2, c3⟩ := H.main
  refine ⟨⟨cs, c1.keep (hk B c1.lt (by omega)), c2, fun i _ hi => (c3 i hi).2.2.2⟩, fun i _ hi => ?_⟩
  have h1 := H.t i hi
  have h2 := H.ap i hi
  exact MRow.keep h1.2 (hk _ h1.lt (by omega))

set_option maxRecDepth 20000 in
set_option maxHeartbeats 2000000 in
theorem markGroup_any (bc bm len m : Nat) (c : Nat → C3) (u : Int) (ms : Nat → M4) (mi sf : Int) (bt : Nat → Nat) (hi : Nat) (w : World) (h : (len : Int) ≤ 1048576) (hm : (m : Int) ≤ 1048576) (hl : ∀ j, j < m → ((ms j).tn : Int) ≤ 1048576) (H : GrAt w bc bm len m c ms bt) (hbm : bm < hi) (hbt : ∀ j, j < m → bt j < hi) :
    Calls Tryd.prog 13 #[gAgg (some ⟨bc, 0, none⟩) len len u (some ⟨bm, 0, none⟩) m m mi sf, .int .i64 1] w fun e w' => ∃ v : Int, e = .returned (.int .i64 v) ∧ (0 ≤ v ∧ v ≤ 9000000000000) ∧ (∀ y, y < w.heap.size → (y < bc ∨ hi ≤ y) → w'.heap[y]? = w.heap[y]?) ∧ Below bc w w' := by
  unfold gAgg
  obtain ⟨cs, c1, c2⟩ := H.cb
  have hlt := H.lt
  have HCB : Hid (CB (w.alloc (.cells #[.slice (some ⟨bc, 0, none⟩) len len, .int .i64 u, .slice (some ⟨bm, 0, none⟩) m m, .int .i64 mi, .int .i64 sf] 31 (0, 0))) bc cs 71) := c1.alloc _
  have HOM : Hid (OM4 (w.alloc (.cells #[.slice (some ⟨bc, 0, none⟩) len len, .int .i64 u, .slice (some ⟨bm, 0, none⟩) m m, .int .i64 mi, .int .i64 sf] 31 (0, 0))) bm m m ms bt) := H.om.below ((Below.refl _ _).alloc (Nat.le_refl _) _)
  have HL : Hid (∀ j, j < m → ((ms j).tn : Int) ≤ 1048576) := hl
  have HBT : Hid (∀ j, j < m → bt j < hi) := hbt
  have hbml := H.om.lt
  have hbcl := c1.lt
  have HAL : Hid (∀ y, y < w.heap.size → (w.alloc (.cells #[.slice (some ⟨bc, 0, none⟩) len len, .int .i64 u, .slice (some ⟨bm, 0, none⟩) m m, .int .i64 mi, .int .i64 sf] 31 (0, 0))).heap[y]? = w.heap[y]?) := fun y hy => heap_alloc_old _ _ hy
  have HB0 : Hid (Below bc w (w.alloc (.cells #[.slice (some ⟨bc, 0, none⟩) len len, .int .i64 u, .slice (some ⟨bm, 0, none⟩) m m, .int .i64 mi, .int .i64 sf] 31 (0, 0)))) := (Below.refl _ _).alloc (by omega) _
  clear c1 H hl hbt
  go_enter Tryd.func13, Tryd.ntmps13
  go_wp2_with (first
    | (go_at_call 29; go_loud (refine (markAccS_any bc len len bc cs _ h HCB.out c2 (Nat.le_refl _)).mono ?_; rintro e w1 ⟨rfl, hk, b1⟩; have X0 : CB w1 w.heap.size #[.slice (some ⟨bc, 0, none⟩) len len, .int .i64 u, .slice (some ⟨bm, 0, none⟩) m m, .int .i64 mi, .int .i64 sf] 31 := (CB.new (w := w) _ _).keep (hk w.heap.size (by simp) (by omega)); have x2 := (X0.cell 2).trans rfl; have HK1 : Hid (∀ y, y < w.heap.size + 1 → y ≠ bc → w1.heap[y]? = (w.alloc (.cells #[.slice (some ⟨bc, 0, none⟩) len len, .int .i64 u, .slice (some ⟨bm, 0, none⟩) m m, .int .i64 mi, .int .i64 sf] 31 (0, 0))).heap[y]?) := (fun y h1 h2 => hk y (by simpa using h1) h2); have HB1 : Hid (Below bc w w1) := HB0.out.trans b1; have hs1 : w.heap.size ≤ w1.heap.size := HB1.out.size; clear hk b1 X0))
    | (go_at_call 30; go_loud (refine (markMemberS_any bm m m ms bt bc hi _ _ hm HL.out (by omega) (by omega) (OM4.marks HOM.out (fun y hy1 hy2 => HK1.out y (by simpa using hy1) hy2) hlt) HOM.out.ap HOM.out.inc (by omega) hbm HBT.out).mono ?_; rintro e w2 ⟨v, rfl, hv, hk2, b2⟩; have HK2 : Hid (∀ y, y < w1.heap.size → (y < bc ∨ hi ≤ y) → w2.heap[y]? = w1.heap[y]?) := hk2; have HB2 : Hid (Below bc w w2) := HB1.out.trans b2; have HV : Hid (0 ≤ v ∧ v ≤ 9000000000000) := hv; clear hv hk2 b2)))
  go_returns
  exact ⟨v, rfl, HV.out, fun y h1 h2 => (HK2.out y (by omega) h2).trans ((HK1.out y (by omega) (by omega)).trans (HAL.out y h1)), HB2.out⟩
end Go.Proofs.YtoihiamafbokbaaDoor
