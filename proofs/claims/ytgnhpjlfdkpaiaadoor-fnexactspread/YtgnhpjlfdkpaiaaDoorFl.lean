/- What the fields of a line that comes in are told to be. -/
import Derived.Test.YtgnhpjlfdkpaiaaDoorEf
import Derived.Test.YtgnhpjlfdkpaiaaDoorProg
import Derived.ProofKit
namespace Go.Proofs.YtgnhpjlfdkpaiaaDoor
open Go.RowKit
theorem lineT : LineT Tryd.prog 65 :=
  ⟨_, _, _, _, _, _, Tryd.underlying65, Tryd.underlying186, by kernel_rfl, ⟨rfl, rfl, rfl, rfl, rfl⟩, ⟨by kernel_rfl, by kernel_rfl, by kernel_rfl, by kernel_rfl, by kernel_rfl⟩, Tryd.underlying3, Tryd.underlying3, Tryd.underlying3, Tryd.underlying3, Tryd.underlying3⟩
theorem size_small {n : Nat} (h : n ≤ maxLen) : (n : Int) ≤ 9223372036854775807 := by unfold maxLen at h; omega
end Go.Proofs.YtgnhpjlfdkpaiaaDoor
