/- The texts that the laws mark with. -/
import Derived.Test.YtmbdeafpfdeigaaSm
namespace Go.Proofs.Ytmbdeafpfdeigaa
open Go.ChangeShapes Go.WideShapes Go.ChangeAt Go.RowKit
set_option linter.unusedVariables false
set_option linter.unusedSimpArgs false

def mtF : Nat → Int → ByteArray → ByteArray
  | 0, _, s => s
  | f + 1, k, s => if 0 < k then mtF f (k / 10) (⟨#[UInt8.ofNat (48 + k % 10).toNat]⟩ ++ s) else s
def mt (x : Int) : ByteArray := ⟨#[109]⟩ ++ mtF (x.toNat + 1) x ByteArray.empty
theorem mtF_step {f : Nat} {k : Int} {s : ByteArray} (h : 0 < k) : mtF (f + 1) k s = mtF f (k / 10) (⟨#[UInt8.ofNat (48 + k % 10).toNat]⟩ ++ s) := by simp [mtF, h]
theorem mtF_end {f : Nat} {k : Int} {s : ByteArray} (h : ¬ 0 < k) : mtF f k s = s := by cases f <;> simp [mtF, h]

set_option maxRecDepth 20000 in
set_option maxHeartbeats 2000000 in
theorem markText_is (x : Int) (w : World) (h0 : 0 < x) (h1 : x ≤ 20000000000000) :
    Calls Try.prog 93 #[.int .i64 x] w fun e w' => e = .returned (.string (mt x)) ∧ Below w.heap.size w w' := by
  go_enter Try.func93, Try.ntmps93
  go_wp2
  go_loopw [0, 3] (fun u v wr => ∃ (k : Int) (s : ByteArray) (f : Nat), 0 ≤ k ∧ k ≤ x ∧ u = .int .i64 k ∧ v = .string s ∧ (s.size : Int) + k ≤ x ∧ k < (f : Int) ∧ Hid (mtF f k s = mtF (x.toNat + 1) x ByteArray.empty) ∧ Below w.heap.size w wr) (fun u v _ => (intOf u).toNat)
  case atStart => exact ⟨x, _, x.toNat + 1, by omega, by omega, rfl, rfl, by show ((0 : Nat) : Int) + x ≤ x; omega, by omega, rfl, Below.refl _ _⟩
  case round =>
    obtain ⟨k, s, f, hk0, hkx, rfl, rfl, hsz, hf, HF, hB⟩ := hrel
    by_cases hk : 0 < k
    · have hw : w.heap.size ≤ wr.heap.size := hB.size
      obtain ⟨f', rfl⟩ : ∃ f', f = f' + 1 := ⟨f - 1, by omega⟩
      have HB : Hid (Below w.heap.size w (wr.alloc (.cells #[.int .u8 (48 + k % 10)] 5 (0, 0)))) := hB.alloc hw _
      have hm1 : 0 ≤ k % 10 := by omega
      have hm2 : k % 10 < 10 := by omega
      have hd : k / 10 < k := by omega
      have HF2 : Hid (mtF f' (k / 10) ((⟨#[UInt8.ofNat (48 + k % 10).toNat]⟩ : ByteArray) ++ s) = mtF (x.toNat + 1) x ByteArray.empty) := (mtF_step hk).symm.trans HF.out
      obtain ⟨d, hdd⟩ : ∃ d : UInt8, d = UInt8.ofNat (48 + k % 10).toNat := ⟨_, rfl⟩
      have hd' : (d.toNat : Int) = 48 + k % 10 := by
        rw [hdd]
        simp
        omega
      rw [← hdd] at HF2
      have hconv : (convert 22 9 (.slice (some ⟨wr.heap.size, 0, none⟩) 1 1)).run Try.prog (wr.alloc (.cells #[.int .u8 (48 + k % 10)] 5 (0, 0))) = .ok (.string ⟨#[d]⟩) (wr.alloc (.cells #[.int .u8 (48 + k % 10)] 5 (0, 0))) := by
        have := run_convert_bytes_back (P := Try.prog) (wr.alloc (.cells #[.int .u8 (48 + k % 10)] 5 (0, 0))) 22 9 5 ⟨wr.heap.size, 0, none⟩ 1 [d] Try.underlying22 Try.underlying5 Try.underlying9 (fun j hj => by
          obtain rfl : j = 0 := by simp at hj; omega
          rw [← hd']
          exact ((CB.new (w := wr) #[.int .u8 (d.toNat : Int)] 5).cell 0).trans rfl)
        exact this
      have hsz2 : ((⟨#[d]⟩ : ByteArray) ++ s).size = s.size + 1 := by rw [ByteArray.size_append]; show 1 + s.size = _; omega
      have HSZ : Hid (((⟨#[d]⟩ : ByteArray) ++ s).size = s.size + 1) := hsz2
      have hs1 : (⟨#[d]⟩ : ByteArray).size = 1 := rfl
      have hs4 : (s.size : Int) ≤ 20000000000000 := by omega
      clear hB hd' hsz2 hdd HF
      go_wp2
      go_roundw
      case rel => exact ⟨k / 10, (⟨#[d]⟩ : ByteArray) ++ s, f', by omega, by omega, by go_num, rfl, by have := HSZ.out; rw [this]; omega, by omega, HF2, HB.out⟩
      case measure => simp [intOf]; omega
    · have hk1 : k = 0 := by omega
      subst hk1
      have HB : Hid (Below w.heap.size w wr) := hB
      have HE : Hid (s = mtF (x.toNat + 1) x ByteArray.empty) := (mtF_end (by omega)).symm.trans HF.out
      clear hB HF
      have hs4 : (s.size : Int) ≤ 20000000000000 := by omega
      go_wp2
      go_returns
      exact ⟨by unfold mt; rw [← HE.out]; rfl, HB.out⟩

theorem hs_set {w : World} {b o x : Nat} {u : Value} (hne : x ≠ b) : (w.setCell ⟨b, o, none⟩ u).heap[x]? = w.heap[x]? := Below.heap_setCell _ _ _ _ (by simpa using hne)
theorem CB.keep {w w' : World} {b : Nat} {cs : Array Value} {t : TypeId} (H : CB w b cs t) (h : w'.heap[b]? = w.heap[b]?) : CB w' b cs t := by unfold CB at H ⊢; rw [h]; exact H
end Go.Proofs.Ytmbdeafpfdeigaa
