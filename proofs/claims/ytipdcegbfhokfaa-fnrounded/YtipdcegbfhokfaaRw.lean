/- What the walks of the laws over drawn codes share: bytes that came in, the absolute value, what a told MulDiv is. -/
import Derived.Test.YtipdcegbfhokfaaDm
import Derived.Test.YtipdcegbfhokfaaRm
import Derived.Test.YtipdcegbfhokfaaMj
import Derived.OpenShut
namespace Go.Proofs.Ytipdcegbfhokfaa
open Go.ChangeShapes Go.WideShapes Go.ChangeAt Go.RowKit
set_option linter.unusedVariables false
set_option linter.unusedSimpArgs false

theorem byteRow_of {w : World} {a : Option Addr} {len cap : Nat} {zs : List Int}
    (h : (a = none ∧ len = 0 ∧ cap = 0 ∧ zs = []) ∨ ∃ x, a = some x ∧ len ≤ cap ∧ cap ≤ maxLen ∧ zs.length = cap ∧ (∀ i, i < zs.length → w.cell? (x.add i) = some (.int .u8 (zs.getD i 0))) ∧ ∀ n ∈ zs, (Lit.int .u8 n).wf = true) :
    ByteRow w w.heap.size a len := by
  rcases h with ⟨_, h, _⟩ | ⟨x, rfl, h1, h2, h3, hc, hw⟩
  · exact .inl h
  · by_cases h0 : len = 0
    · exact .inl h0
    · obtain ⟨b, off, spot⟩ := x
      have hc0 := hc 0 (by omega)
      have hspot : spot = none := by simpa [Addr.add] using World.cell?_spot hc0
      subst hspot
      have hlt : b < w.heap.size := by
        simp only [Addr.add, World.cell?] at hc0
        cases hh : w.heap[b]? with
        | none => simp [hh] at hc0
        | some o => exact lt_of_block hh
      refine .inr ⟨b, off, rfl, by omega, hlt, fun j hj => ?_⟩
      have hcj := hc j (by omega)
      have hb := range_u8 hw j
      refine ⟨zs[j]?.getD 0, hb.1, hb.2, ?_⟩
      by_cases hj0 : j = 0
      · subst hj0; simpa [Addr.add] using hcj
      · simpa [Addr.add, hj0] using hcj

theorem row_later {w w1 : World} {ad : Option Addr} {len : Nat} (h : ByteRow w w.heap.size ad len) (b : Below w.heap.size w w1) : ByteRow w1 w1.heap.size ad len := by
  rcases h with h | ⟨k, off, e, hb, hk, hc⟩
  · exact .inl h
  · have := b.size
    refine .inr ⟨k, off, e, by omega, by omega, fun j hj => ?_⟩
    obtain ⟨c, c0, c1, hcc⟩ := hc j hj
    exact ⟨c, c0, c1, by rw [b.cell (p := ⟨k, off + j, none⟩) hk]; exact hcc⟩

theorem abs_pos (x : Int) (w : World) (h : 0 ≤ x) : Calls Try.prog 13 #[.int .i64 x] w fun e w' => e = .returned (.int .i64 x) ∧ w' = w := by
  go_enter Try.func13, Try.ntmps13
  go_wp2
  go_returns
  exact ⟨rfl, rfl⟩

theorem abs_neg (x : Int) (w : World) (h : x ≤ 0) (h1 : -9223372036854775000 ≤ x) : Calls Try.prog 13 #[.int .i64 x] w fun e w' => e = .returned (.int .i64 (-x)) ∧ w' = w := by
  by_cases h0 : x = 0
  · subst h0
    exact abs_pos 0 w (by omega)
  · have h2 : x < 0 := by omega
    clear h h0
    go_enter Try.func13, Try.ntmps13
    go_wp2
    go_returns
    exact ⟨rfl, rfl⟩

theorem md_told {a n d m : Int} (h : mdB a n d m = true) : MdOk a n d m ∧ mdV a n d m = dv (a * n) d m ∧ -100000000000 ≤ dv (a * n) d m ∧ dv (a * n) d m ≤ 100000000000 := by
  have h2 := h
  unfold mdB at h2
  simp only [Bool.and_eq_true, decide_eq_true_eq] at h2
  exact ⟨h2.1, by unfold mdV; rw [if_pos h], h2.2.1, h2.2.2⟩

end Go.Proofs.Ytipdcegbfhokfaa
