/- What the fields of a line that comes in are told to be. -/
import Derived.Test.YtgnhpjlfdkpaiaaEf
import Derived.Test.YtgnhpjlfdkpaiaaProg
import Derived.ProofKit
namespace Go.Proofs.Ytgnhpjlfdkpaiaa
open Go.RowKit
theorem lineT : LineT Try.prog 67 :=
  ⟨_, _, _, _, _, _, Try.underlying67, Try.underlying100, by kernel_rfl, ⟨rfl, rfl, rfl, rfl, rfl⟩, ⟨by kernel_rfl, by kernel_rfl, by kernel_rfl, by kernel_rfl, by kernel_rfl⟩, Try.underlying3, Try.underlying3, Try.underlying3, Try.underlying3, Try.underlying3⟩
theorem size_small {n : Nat} (h : n ≤ maxLen) : (n : Int) ≤ 9223372036854775807 := by unfold maxLen at h; omega
end Go.Proofs.Ytgnhpjlfdkpaiaa
