/- The texts that the laws mark with. -/
import Derived.Test.YtogolmbgboihdaaSm
namespace Go.Proofs.Ytogolmbgboihdaa
open Go.ChangeShapes Go.WideShapes Go.ChangeAt Go.RowKit
set_option linter.unusedVariables false
set_option linter.unusedSimpArgs false

def mtF : Nat → Int → ByteArray → ByteArray
  | 0, _, s => s
  | f + 1, k, s => if 0 < k then mtF f (k / 10) (⟨#[UInt8.ofNat (48 + k % 10).toNat]⟩ ++ s) else s
def mt (x : Int) : ByteArray := ⟨#[109]⟩ ++ mtF (x.toNat + 1) x ByteArray.empty
theorem mtF_step {f : Nat} {k : Int} {s : ByteArray} (h : 0 < k) : mtF (f + 1) k s = mtF f (k / 10) (⟨#[UInt8.ofNat (48 + k % 10).toNat]⟩ ++ s) := by simp [mtF, h]
theorem mtF_end {f : Nat} {k : Int} {s : ByteArray} (h : ¬ 0 < k) : mtF f k s = s := by cases f <;> simp [mtF, h]

theorem hs_set {w : World} {b o x : Nat} {u : Value} (hne : x ≠ b) : (w.setCell ⟨b, o, none⟩ u).heap[x]? = w.heap[x]? := Below.heap_setCell _ _ _ _ (by simpa using hne)
theorem CB.keep {w w' : World} {b : Nat} {cs : Array Value} {t : TypeId} (H : CB w b cs t) (h : w'.heap[b]? = w.heap[b]?) : CB w' b cs t := by unfold CB at H ⊢; rw [h]; exact H
end Go.Proofs.Ytogolmbgboihdaa

