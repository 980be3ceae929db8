/- Stores leave other blocks. -/
import Derived.Test.YtdgccdlaokbnhaaIr
namespace Go.Proofs.Ytdgccdlaokbnhaa
open Go.RowKit
theorem hs_set {w : World} {b o x : Nat} {u : Value} (hne : x ≠ b) : (w.setCell ⟨b, o, none⟩ u).heap[x]? = w.heap[x]? := Below.heap_setCell _ _ _ _ (by simpa using hne)
theorem CB.keep {w w' : World} {b : Nat} {cs : Array Value} {t : TypeId} (H : CB w b cs t) (h : w'.heap[b]? = w.heap[b]?) : CB w' b cs t := by unfold CB at H ⊢; rw [h]; exact H
end Go.Proofs.Ytdgccdlaokbnhaa
