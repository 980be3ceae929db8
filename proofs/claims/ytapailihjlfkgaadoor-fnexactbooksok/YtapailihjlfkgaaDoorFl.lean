/- What the fields of a line that comes in are told to be. -/
import Derived.Test.YtapailihjlfkgaaDoorEf
import Derived.Test.YtapailihjlfkgaaDoorProg
import Derived.ProofKit
namespace Go.Proofs.YtapailihjlfkgaaDoor
open Go.RowKit
theorem lineT : LineT Tryd.prog 165 :=
  ⟨_, _, _, _, _, _, Tryd.underlying165, Tryd.underlying201, by kernel_rfl, ⟨rfl, rfl, rfl, rfl, rfl⟩, ⟨by kernel_rfl, by kernel_rfl, by kernel_rfl, by kernel_rfl, by kernel_rfl⟩, Tryd.underlying3, Tryd.underlying3, Tryd.underlying3, Tryd.underlying3, Tryd.underlying3⟩
theorem size_small {n : Nat} (h : n ≤ maxLen) : (n : Int) ≤ 9223372036854775807 := by unfold maxLen at h; omega
end Go.Proofs.YtapailihjlfkgaaDoor
