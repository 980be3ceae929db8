/- The laws' marks over rows of Series: what they write, and that it is found again. -/
import Derived.Test.YtdhpadcihlmhiaaDoorTm
import Derived.Test.YtdhpadcihlmhiaaDoorSp
namespace Go.Proofs.YtdhpadcihlmhiaaDoor
open Go.ChangeShapes Go.WideShapes Go.ChangeAt Go.RowKit
set_option linter.unusedVariables false
set_option linter.unusedSimpArgs false

def mkS2M (k : Int) (j : Nat) : S2 := ⟨mt (k + 2 * (j : Int)), k + 2 * (j : Int) + 1⟩
set_option maxRecDepth 20000 in
set_option maxHeartbeats 4000000 in
theorem markS2S_is (b len cap : Nat) (k0 : Int) (cs0 : Array Value) (w : World) (h : (len : Int) ≤ 1048576) (g0 : 0 < k0) (g1 : k0 ≤ 1000000000) (hC0 : CB w b cs0 75) (hs0 : len * 2 ≤ cs0.size) :
    Calls Tryd.prog 79 #[.slice (some ⟨b, 0, none⟩) len cap, .int .i64 k0] w fun e w' => e = .returned (.int .i64 (k0 + 2 * (len : Int))) ∧ SRw w' (some ⟨b, 0, none⟩) len (mkS2M k0) ∧ (∃ cs, CB w' b cs 75 ∧ len * 2 ≤ cs.size) ∧ (∀ y, y < w.heap.size → y ≠ b → w'.heap[y]? = w.heap[y]?) ∧ Below b w w' := by
  have HC : Hid (CB w b cs0 75) := hC0
  have hblt := hC0.lt
  clear hC0
  go_enter Tryd.func79, Tryd.ntmps79
  go_wp2
  go_loopw [1, 5] (fun u i wr => ∃ (k : Nat) (cs : Array Value), k ≤ len ∧ i = .int .i64 (k : Int) ∧ u = .int .i64 (k0 + 2 * (k : Int)) ∧ CB wr b cs 75 ∧ len * 2 ≤ cs.size ∧ (∀ j, j < k → cs[j * 2]? = some (.string (mkS2M k0 j).pre) ∧ cs[j * 2 + 1]? = some (.int .i64 (mkS2M k0 j).wid)) ∧ (∀ y, y < w.heap.size → y ≠ b → wr.heap[y]? = w.heap[y]?) ∧ Below b w wr) (fun u i _ => len - (intOf i).toNat)
  case atStart => exact ⟨0, cs0, Nat.zero_le _, rfl, by simp, HC.out, hs0, fun j hj => by omega, fun y _ hy => rfl, Below.refl _ _⟩
  case round =>
    obtain ⟨k, cs, hk, rfl, rfl, hC, hs, hm, hkeep, hB⟩ := hrel
    by_cases hlt : k < len
    · have hlt2 : (k : Int) < (len : Int) := by omega
      obtain ⟨v0, d0⟩ : ∃ v, cs[k * 2]? = some v := ⟨cs[k * 2]'(by omega), Array.getElem?_eq_getElem (by omega)⟩
      obtain ⟨v1, d1⟩ : ∃ v, cs[k * 2 + 1]? = some v := ⟨cs[k * 2 + 1]'(by omega), Array.getElem?_eq_getElem (by omega)⟩
      have hsz := hB.size
      have HCC : Hid (CB wr b cs 75) := hC
      have HS : Hid (len * 2 ≤ cs.size) := hs
      have HM : Hid (∀ j, j < k → cs[j * 2]? = some (.string (mkS2M k0 j).pre) ∧ cs[j * 2 + 1]? = some (.int .i64 (mkS2M k0 j).wid)) := hm
      have HK : Hid (∀ y, y < w.heap.size → y ≠ b → wr.heap[y]? = w.heap[y]?) := hkeep
      have HB : Hid (Below b w wr) := hB
      obtain ⟨TX, htx⟩ : ∃ TX, TX = mt (k0 + 2 * (k : Int)) := ⟨_, rfl⟩
      have HTX : Hid (TX = mt (k0 + 2 * (k : Int))) := htx
      clear hC hs hm hkeep hB htx
      go_wp2_with (go_at_call 94; refine (markText_is _ _ (by omega) (by omega)).mono ?_; rintro e w1 ⟨rfl, b1⟩; rw [← HTX.out]; have X1 : CB w1 b cs 75 := HCC.out.below b1 HCC.out.lt; have y0 := (X1.cell (k * 2)).trans d0; have f0 := X1.fr (k * 2); have y1 := (X1.cell (k * 2 + 1)).trans d1; have f1 := X1.fr (k * 2 + 1); have HX : Hid (CB w1 b cs 75) := X1; have HK1 : Hid (∀ y, y < w.heap.size → y ≠ b → w1.heap[y]? = w.heap[y]?) := (fun y h1 h2 => (b1.block y (by omega)).trans (HK.out y h1 h2)); have HB1 : Hid (Below b w w1) := HB.out.trans (b1.mono (by have := HCC.out.lt; omega)); clear X1 b1)
      go_roundw
      case rel =>
        refine ⟨k + 1, _, by omega, by go_num, by go_num, ((HX.out.set _ _).set _ _), by simpa using HS.out, fun j hj => ?_, fun y h1 h2 => (hs_set h2).trans ((hs_set h2).trans (HK1.out y h1 h2)), ((HB1.out.setCell (Nat.le_refl _) _).setCell (Nat.le_refl _) _)⟩
        have hs := HS.out
        by_cases hjk : j = k
        · subst hjk
          refine ⟨?_, ?_⟩
          · rw [get_set_ne (by omega), get_set_eq (by (try simp); omega)]; exact congrArg (fun x => some (Value.string x)) HTX.out
          · rw [get_set_eq (by (try simp); omega)]; exact congrArg (fun x => some (Value.int .i64 x)) (by simp only [mkS2M] <;> omega)
        · obtain ⟨y0, y1⟩ := HM.out j (by omega)
          refine ⟨?_, ?_⟩ <;> (rw [get_set_ne (by omega), get_set_ne (by omega)]; assumption)
      case measure => simp [intOf]; omega
    · obtain rfl : k = len := by omega
      have lkk : ¬ (k : Int) < (k : Int) := by omega
      have HN : Hid (SRw wr (some ⟨b, 0, none⟩) k (mkS2M k0) ∧ (∃ cs, CB wr b cs 75 ∧ k * 2 ≤ cs.size) ∧ (∀ y, y < w.heap.size → y ≠ b → wr.heap[y]? = w.heap[y]?) ∧ Below b w wr) := ⟨SRw.of_block hC k _ hm, ⟨cs, hC, hs⟩, hkeep, hB⟩
      clear hC hs hm hkeep hB
      go_wp2
      go_returns
      exact ⟨rfl, HN.out⟩
theorem markS2S_no (ad : Option Addr) (cap : Nat) (k0 : Int) (w : World) :
    Calls Tryd.prog 79 #[.slice ad 0 cap, .int .i64 k0] w fun e w' => e = .returned (.int .i64 k0) ∧ w' = w := by
  go_enter Tryd.func79, Tryd.ntmps79
  go_wp2
  go_loopw [1, 5] (fun u i wr => i = .int .i64 0 ∧ u = .int .i64 k0 ∧ wr = w) (fun u i _ => 0)
  case atStart => exact ⟨rfl, rfl, rfl⟩
  case round =>
    obtain ⟨rfl, rfl, rfl⟩ := hrel
    go_wp2
    go_returns
    exact ⟨rfl, rfl⟩

set_option maxRecDepth 20000 in
set_option maxHeartbeats 4000000 in
theorem heldS2S_is (ad : Option Addr) (len cap : Nat) (k0 : Int) (w : World) (h : (len : Int) ≤ 1048576) (g0 : 0 < k0) (g1 : k0 ≤ 1000000000) (hr : SRw w ad len (mkS2M k0)) :
    Calls Tryd.prog 81 #[.slice ad len cap, .int .i64 k0] w fun e w' => e = .returned (.int .i64 (k0 + 2 * (len : Int))) ∧ Below w.heap.size w w' := by
  have HR : Hid (SRw w ad len (mkS2M k0)) := hr
  clear hr
  go_enter Tryd.func81, Tryd.ntmps81
  go_wp2
  go_loopw [1, 5] (fun u i wr => ∃ (k : Nat), k ≤ len ∧ i = .int .i64 (k : Int) ∧ u = .int .i64 (k0 + 2 * (k : Int)) ∧ Below w.heap.size w wr) (fun u i _ => len - (intOf i).toNat)
  case atStart => exact ⟨0, Nat.zero_le _, rfl, by simp, Below.refl _ _⟩
  case round =>
    obtain ⟨k, hk, rfl, rfl, hB⟩ := hrel
    by_cases hlt : k < len
    · have hlt2 : (k : Int) < (len : Int) := by omega
      obtain ⟨kb, off, rfl, _⟩ := HR.out.addr (by omega)
      obtain ⟨c0, c1⟩ := (HR.out.below hB).cell hlt
      simp only [mkS2M] at c0 c1
      obtain ⟨TX, htx⟩ : ∃ TX, TX = mt (k0 + 2 * (k : Int)) := ⟨_, rfl⟩
      have HTX : Hid (TX = mt (k0 + 2 * (k : Int))) := htx
      rw [← htx] at c0
      have hBd : Below w.heap.size w wr.drew := hB.drew
      clear hB htx
      go_wp2
      go_region_held3 (fun w' => (w'.cell? ⟨kb, off + k * 2, none⟩ = some (.string TX) ∧ w'.cell? ⟨kb, off + k * 2 + 1, none⟩ = some (.int .i64 (k0 + 2 * (k : Int) + 1))) ∧ Below w.heap.size w w')
        (refine ⟨⟨?_, ?_⟩, ?_⟩ <;> first | assumption | (simp [*]; done))
        (first
        | (go_at_call 94; refine (markText_is _ _ (by omega) (by omega)).mono ?_; rintro e w2 ⟨rfl, b2⟩; rw [← HTX.out]; have q0 : w2.cell? ⟨kb, off + k * 2, none⟩ = some (.string TX) := keep_cell b2 (by simp [*]); have q1 : w2.cell? ⟨kb, off + k * 2 + 1, none⟩ = some (.int .i64 (k0 + 2 * (k : Int) + 1)) := keep_cell b2 (by simp [*]); have q9 : Below w.heap.size w w2 := bel_on (by assumption) b2))
      go_wp2
      go_roundw
      case rel => exact ⟨k + 1, by omega, by go_num, by go_num, q9⟩
      case measure => simp [intOf]; omega
    · obtain rfl : k = len := by omega
      have lkk : ¬ (k : Int) < (k : Int) := by omega
      have HB : Hid (Below w.heap.size w wr) := hB
      clear hB
      go_wp2
      go_returns
      exact ⟨rfl, HB.out⟩

end Go.Proofs.YtdhpadcihlmhiaaDoor
