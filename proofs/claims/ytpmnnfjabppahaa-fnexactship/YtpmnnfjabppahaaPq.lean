/- The laws' marks over rows of Pick. -/
import Derived.Test.YtpmnnfjabppahaaPk
import Derived.Test.YtpmnnfjabppahaaTm
import Derived.Test.YtpmnnfjabppahaaSm
namespace Go.Proofs.Ytpmnnfjabppahaa
open Go.ChangeShapes Go.WideShapes Go.ChangeAt Go.RowKit
set_option linter.unusedVariables false
set_option linter.unusedSimpArgs false

def mkPK2M (k : Int) (j : Nat) : PK2 := ⟨k + 2 * (j : Int), k + 2 * (j : Int) + 1⟩
set_option maxRecDepth 20000 in
set_option maxHeartbeats 4000000 in
theorem markPK2S_is (b len cap : Nat) (k0 : Int) (cs0 : Array Value) (w : World) (h : (len : Int) ≤ 1048576) (g0 : 0 < k0) (g1 : k0 ≤ 1000000000) (hC0 : CB w b cs0 37) (hs0 : len * 2 ≤ cs0.size) :
    Calls Try.prog 45 #[.slice (some ⟨b, 0, none⟩) len cap, .int .i64 k0] w fun e w' => e = .returned (.int .i64 (k0 + 2 * (len : Int))) ∧ PKr w' (some ⟨b, 0, none⟩) len (mkPK2M k0) ∧ (∃ cs, CB w' b cs 37 ∧ len * 2 ≤ cs.size) ∧ (∀ y, y < w.heap.size → y ≠ b → w'.heap[y]? = w.heap[y]?) ∧ Below b w w' := by
  have HC : Hid (CB w b cs0 37) := hC0
  have hblt := hC0.lt
  clear hC0
  go_enter Try.func45, Try.ntmps45
  go_wp2
  go_loopw [1, 5] (fun u i wr => ∃ (k : Nat) (cs : Array Value), k ≤ len ∧ i = .int .i64 (k : Int) ∧ u = .int .i64 (k0 + 2 * (k : Int)) ∧ CB wr b cs 37 ∧ len * 2 ≤ cs.size ∧ (∀ j, j < k → cs[j * 2]? = some (.int .i64 (mkPK2M k0 j).at_) ∧ cs[j * 2 + 1]? = some (.int .i64 (mkPK2M k0 j).qty)) ∧ (∀ y, y < w.heap.size → y ≠ b → wr.heap[y]? = w.heap[y]?) ∧ Below b w wr) (fun u i _ => len - (intOf i).toNat)
  case atStart => exact ⟨0, cs0, Nat.zero_le _, rfl, by simp, HC.out, hs0, fun j hj => by omega, fun y _ hy => rfl, Below.refl _ _⟩
  case round =>
    obtain ⟨k, cs, hk, rfl, rfl, hC, hs, hm, hkeep, hB⟩ := hrel
    by_cases hlt : k < len
    · have hlt2 : (k : Int) < (len : Int) := by omega
      obtain ⟨v0, d0⟩ : ∃ v, cs[k * 2]? = some v := ⟨cs[k * 2]'(by omega), Array.getElem?_eq_getElem (by omega)⟩
      have y0 := (hC.cell (k * 2)).trans d0
      have f0 := hC.fr (k * 2)
      obtain ⟨v1, d1⟩ : ∃ v, cs[k * 2 + 1]? = some v := ⟨cs[k * 2 + 1]'(by omega), Array.getElem?_eq_getElem (by omega)⟩
      have y1 := (hC.cell (k * 2 + 1)).trans d1
      have f1 := hC.fr (k * 2 + 1)
      have HCC : Hid (CB wr b cs 37) := hC
      have HS : Hid (len * 2 ≤ cs.size) := hs
      have HM := hid hm
      have HK : Hid (∀ y, y < w.heap.size → y ≠ b → wr.heap[y]? = w.heap[y]?) := hkeep
      have HB : Hid (Below b w wr) := hB
      clear hC hs hm hkeep hB
      go_wp2
      go_roundw
      case rel =>
        refine ⟨k + 1, _, by omega, by go_num, by go_num, ((HCC.out.set _ _).set _ _), by simpa using HS.out, fun j hj => ?_, fun y h1 h2 => ((hs_set h2).trans ((hs_set h2).trans (HK.out y h1 h2))), ((HB.out.setCell (Nat.le_refl _) _).setCell (Nat.le_refl _) _)⟩
        have hs := HS.out
        by_cases hjk : j = k
        · subst hjk
          refine ⟨?_, ?_⟩
          · rw [get_set_ne (by omega), get_set_eq (by (try simp); omega)]; rfl
          · rw [get_set_eq (by (try simp); omega)]; rfl
        · obtain ⟨x0, x1⟩ := HM.out j (by omega)
          refine ⟨?_, ?_⟩ <;> (rw [get_set_ne (by omega), get_set_ne (by omega)]; assumption)
      case measure => simp [intOf]; omega
    · obtain rfl : k = len := by omega
      have lkk : ¬ (k : Int) < (k : Int) := by omega
      have HN : Hid (PKr wr (some ⟨b, 0, none⟩) k (mkPK2M k0) ∧ (∃ cs, CB wr b cs 37 ∧ k * 2 ≤ cs.size) ∧ (∀ y, y < w.heap.size → y ≠ b → wr.heap[y]? = w.heap[y]?) ∧ Below b w wr) := ⟨PKr.of_block hC k _ hm, ⟨cs, hC, hs⟩, hkeep, hB⟩
      clear hC hs hm hkeep hB
      go_wp2
      go_returns
      exact ⟨rfl, HN.out⟩
theorem markPK2S_no (ad : Option Addr) (cap : Nat) (k0 : Int) (w : World) :
    Calls Try.prog 45 #[.slice ad 0 cap, .int .i64 k0] w fun e w' => e = .returned (.int .i64 k0) ∧ w' = w := by
  go_enter Try.func45, Try.ntmps45
  go_wp2
  go_loopw [1, 5] (fun u i wr => i = .int .i64 0 ∧ u = .int .i64 k0 ∧ wr = w) (fun u i _ => 0)
  case atStart => exact ⟨rfl, rfl, rfl⟩
  case round =>
    obtain ⟨rfl, rfl, rfl⟩ := hrel
    go_wp2
    go_returns
    exact ⟨rfl, rfl⟩

set_option maxRecDepth 20000 in
set_option maxHeartbeats 4000000 in
theorem heldPK2S_is (ad : Option Addr) (len cap : Nat) (k0 : Int) (w : World) (h : (len : Int) ≤ 1048576) (g0 : 0 < k0) (g1 : k0 ≤ 1000000000) (hr : PKr w ad len (mkPK2M k0)) :
    Calls Try.prog 46 #[.slice ad len cap, .int .i64 k0] w fun e w' => e = .returned (.int .i64 (k0 + 2 * (len : Int))) ∧ w' = w := by
  have HR : Hid (PKr w ad len (mkPK2M k0)) := hr
  clear hr
  go_enter Try.func46, Try.ntmps46
  go_wp2
  go_loop [1, 5] (fun u i => ∃ (k : Nat), k ≤ len ∧ i = .int .i64 (k : Int) ∧ u = .int .i64 (k0 + 2 * (k : Int))) (fun u i => len - (intOf i).toNat)
  case atStart => exact ⟨0, Nat.zero_le _, rfl, by simp⟩
  case round =>
    obtain ⟨k, hk, rfl, rfl⟩ := hrel
    by_cases hlt : k < len
    · have hlt2 : (k : Int) < (len : Int) := by omega
      obtain ⟨kb, off, rfl, _⟩ := HR.out.addr (by omega)
      obtain ⟨c0, c1⟩ := HR.out.cell hlt
      simp only [mkPK2M] at c0 c1
      go_wp2
      go_round
      case rel => exact ⟨k + 1, by omega, by go_num, by go_num⟩
      case measure => simp [intOf]; omega
    · obtain rfl : k = len := by omega
      have lkk : ¬ (k : Int) < (k : Int) := by omega
      go_wp2
      go_returns
      exact ⟨rfl, rfl⟩

theorem szPK2S_any (ad : Option Addr) (len cap : Nat) (L : Int) (w : World) (g0 : 0 ≤ L) (g1 : L ≤ 1048576) (hl : (len : Int) ≤ 9223372036854775807) :
    Calls Try.prog 47 #[.slice ad len cap, .int .i64 L] w fun e w' => ∃ v : Int, e = .returned (.int .i64 v) ∧ (v = -1 ∨ (0 ≤ v ∧ v ≤ 1048576 ∧ (len : Int) ≤ 1048576)) ∧ w' = w := by
  by_cases h : (len : Int) ≤ L
  · have h2 : ¬ L - (len : Int) < 0 := by omega
    go_enter Try.func47, Try.ntmps47
    go_wp2
    go_returns
    exact ⟨L - (len : Int), rfl, .inr ⟨by omega, by omega, by omega⟩, rfl⟩
  · have h2 : L - (len : Int) < 0 := by omega
    go_enter Try.func47, Try.ntmps47
    go_wp2
    go_returns
    exact ⟨-1, rfl, .inl rfl, rfl⟩
end Go.Proofs.Ytpmnnfjabppahaa
