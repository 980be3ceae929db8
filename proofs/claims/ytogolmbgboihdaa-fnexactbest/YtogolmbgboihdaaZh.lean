/- Rotation by exchanges, plain. -/
import Derived.Test.YtogolmbgboihdaaZd
namespace Go.Proofs.Ytogolmbgboihdaa.Srt
set_option linter.unusedVariables false
variable {aj : Option Addr} {jk : Nat} {rule : Int} {jc : Nat → JB}

set_option maxHeartbeats 1000000 in
theorem rot_left {h : Nat → Int} {m i j : Nat} (hi : i ≤ m) (hj : 0 < j) (hij : j < i) (x : Nat) : rot (m - i) m (m + j) h x = rot (m - (i - j)) m (m + j) (swP h (m - i) m j) x := by
  unfold rot swP
  repeat' split
  all_goals first | omega | rfl | (congr 1; omega)
set_option maxHeartbeats 1000000 in
theorem rot_right {h : Nat → Int} {m i j : Nat} (hi : i ≤ m) (hi0 : 0 < i) (hij : i < j) (x : Nat) : rot (m - i) m (m + j) h x = rot (m - i) m (m + (j - i)) (swP h (m - i) (m + j - i) i) x := by
  unfold rot swP
  repeat' split
  all_goals first | omega | rfl | (congr 1; omega)
set_option maxHeartbeats 1000000 in
theorem rot_same {h : Nat → Int} {m i : Nat} (hi : i ≤ m) (hi0 : 0 < i) (x : Nat) : rot (m - i) m (m + i) h x = swP h (m - i) m i x := by
  unfold rot swP
  repeat' split
  all_goals first | omega | rfl | (congr 1; omega)
end Go.Proofs.Ytogolmbgboihdaa.Srt
