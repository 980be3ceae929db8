/- The laws' marks over rows of Task. -/
import Derived.Test.YtogolmbgboihdaaTa
import Derived.Test.YtogolmbgboihdaaTm
namespace Go.Proofs.Ytogolmbgboihdaa
open Go.ChangeShapes Go.WideShapes Go.ChangeAt Go.RowKit
set_option linter.unusedVariables false
set_option linter.unusedSimpArgs false

def mkTK3M (k : Int) (j : Nat) : TK3 := ⟨k + 3 * (j : Int), k + 3 * (j : Int) + 1, k + 3 * (j : Int) + 1 + 1⟩
set_option maxRecDepth 20000 in
set_option maxHeartbeats 4000000 in
theorem markTK3S_is (b len cap : Nat) (k0 : Int) (cs0 : Array Value) (w : World) (h : (len : Int) ≤ 1048576) (g0 : 0 < k0) (g1 : k0 ≤ 20000000000000) (hC0 : CB w b cs0 38) (hs0 : len * 3 ≤ cs0.size) :
    Calls Try.prog 79 #[.slice (some ⟨b, 0, none⟩) len cap, .int .i64 k0] w fun e w' => e = .returned (.int .i64 (k0 + 3 * (len : Int))) ∧ TKr w' (some ⟨b, 0, none⟩) len (mkTK3M k0) ∧ (∃ cs, CB w' b cs 38 ∧ len * 3 ≤ cs.size) ∧ (∀ y, y < w.heap.size → y ≠ b → w'.heap[y]? = w.heap[y]?) ∧ Below b w w' := by
  have HC : Hid (CB w b cs0 38) := hC0
  have hblt := hC0.lt
  clear hC0
  go_enter Try.func79, Try.ntmps79
  go_wp2
  go_loopw [1, 5] (fun u i wr => ∃ (k : Nat) (cs : Array Value), k ≤ len ∧ i = .int .i64 (k : Int) ∧ u = .int .i64 (k0 + 3 * (k : Int)) ∧ CB wr b cs 38 ∧ len * 3 ≤ cs.size ∧ (∀ j, j < k → cs[j * 3]? = some (.int .i64 (mkTK3M k0 j).mac) ∧ cs[j * 3 + 1]? = some (.int .i64 (mkTK3M k0 j).hrs) ∧ cs[j * 3 + 2]? = some (.int .i64 (mkTK3M k0 j).fam)) ∧ (∀ y, y < w.heap.size → y ≠ b → wr.heap[y]? = w.heap[y]?) ∧ Below b w wr) (fun u i _ => len - (intOf i).toNat)
  case atStart => exact ⟨0, cs0, Nat.zero_le _, rfl, by simp, HC.out, hs0, fun j hj => by omega, fun y _ hy => rfl, Below.refl _ _⟩
  case round =>
    obtain ⟨k, cs, hk, rfl, rfl, hC, hs, hm, hkeep, hB⟩ := hrel
    by_cases hlt : k < len
    · have hlt2 : (k : Int) < (len : Int) := by omega
      obtain ⟨v0, d0⟩ : ∃ v, cs[k * 3]? = some v := ⟨cs[k * 3]'(by omega), Array.getElem?_eq_getElem (by omega)⟩
      have y0 := (hC.cell (k * 3)).trans d0
      have f0 := hC.fr (k * 3)
      obtain ⟨v1, d1⟩ : ∃ v, cs[k * 3 + 1]? = some v := ⟨cs[k * 3 + 1]'(by omega), Array.getElem?_eq_getElem (by omega)⟩
      have y1 := (hC.cell (k * 3 + 1)).trans d1
      have f1 := hC.fr (k * 3 + 1)
      obtain ⟨v2, d2⟩ : ∃ v, cs[k * 3 + 2]? = some v := ⟨cs[k * 3 + 2]'(by omega), Array.getElem?_eq_getElem (by omega)⟩
      have y2 := (hC.cell (k * 3 + 2)).trans d2
      have f2 := hC.fr (k * 3 + 2)
      have HCC : Hid (CB wr b cs 38) := hC
      have HS : Hid (len * 3 ≤ cs.size) := hs
      have HM := hid hm
      have HK : Hid (∀ y, y < w.heap.size → y ≠ b → wr.heap[y]? = w.heap[y]?) := hkeep
      have HB : Hid (Below b w wr) := hB
      clear hC hs hm hkeep hB
      go_wp2
      go_roundw
      case rel =>
        refine ⟨k + 1, _, by omega, by go_num, by go_num, (((HCC.out.set _ _).set _ _).set _ _), by simpa using HS.out, fun j hj => ?_, fun y h1 h2 => ((hs_set h2).trans ((hs_set h2).trans ((hs_set h2).trans (HK.out y h1 h2)))), (((HB.out.setCell (Nat.le_refl _) _).setCell (Nat.le_refl _) _).setCell (Nat.le_refl _) _)⟩
        have hs := HS.out
        by_cases hjk : j = k
        · subst hjk
          refine ⟨?_, ?_, ?_⟩
          · rw [get_set_ne (by omega), get_set_ne (by omega), get_set_eq (by (try simp); omega)]; rfl
          · rw [get_set_ne (by omega), get_set_eq (by (try simp); omega)]; rfl
          · rw [get_set_eq (by (try simp); omega)]; rfl
        · obtain ⟨x0, x1, x2⟩ := HM.out j (by omega)
          refine ⟨?_, ?_, ?_⟩ <;> (rw [get_set_ne (by omega), get_set_ne (by omega), get_set_ne (by omega)]; assumption)
      case measure => simp [intOf]; omega
    · obtain rfl : k = len := by omega
      have lkk : ¬ (k : Int) < (k : Int) := by omega
      have HN : Hid (TKr wr (some ⟨b, 0, none⟩) k (mkTK3M k0) ∧ (∃ cs, CB wr b cs 38 ∧ k * 3 ≤ cs.size) ∧ (∀ y, y < w.heap.size → y ≠ b → wr.heap[y]? = w.heap[y]?) ∧ Below b w wr) := ⟨TKr.of_block hC k _ hm, ⟨cs, hC, hs⟩, hkeep, hB⟩
      clear hC hs hm hkeep hB
      go_wp2
      go_returns
      exact ⟨rfl, HN.out⟩
theorem markTK3S_no (ad : Option Addr) (cap : Nat) (k0 : Int) (w : World) :
    Calls Try.prog 79 #[.slice ad 0 cap, .int .i64 k0] w fun e w' => e = .returned (.int .i64 k0) ∧ w' = w := by
  go_enter Try.func79, Try.ntmps79
  go_wp2
  go_loopw [1, 5] (fun u i wr => i = .int .i64 0 ∧ u = .int .i64 k0 ∧ wr = w) (fun u i _ => 0)
  case atStart => exact ⟨rfl, rfl, rfl⟩
  case round =>
    obtain ⟨rfl, rfl, rfl⟩ := hrel
    go_wp2
    go_returns
    exact ⟨rfl, rfl⟩

end Go.Proofs.Ytogolmbgboihdaa
