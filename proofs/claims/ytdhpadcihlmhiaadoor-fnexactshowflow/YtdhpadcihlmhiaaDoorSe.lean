/- The program's register as it is issued: what is refused, and one paper more. -/
import Derived.Test.YtdhpadcihlmhiaaDoorMo
import Derived.BigRegion
import Derived.Lib.LaidTab
namespace Go.Proofs.YtdhpadcihlmhiaaDoor
open Go.ChangeShapes Go.WideShapes Go.ChangeAt Go.RowKit
open Go.Lib (decDigits)
set_option linter.unusedVariables false
set_option linter.unusedSimpArgs false

theorem tab_lt {w : World} {n : String} {k : IntKind} {zs : List Int} {g : Nat} (hg : Tryd.prog.globalNamed n = some g) (h : Lib.TabIs Tryd.prog w n k zs) : g < w.heap.size := by
  unfold Lib.TabIs World.var? at h
  rw [hg] at h
  rcases Nat.lt_or_ge g w.heap.size with q | q
  · exact q
  · have e : w.heap[g]? = none := Array.getElem?_eq_none q
    simp [e] at h
set_option maxRecDepth 100000 in
theorem gPow : Tryd.prog.globalNamed "internal/strconv.uint64pow10" = some 1 := by kernel_rfl
/-- The library's table of powers stands as it is laid. -/
def TP (w : World) : Prop := Lib.TabIs Tryd.prog w "internal/strconv.uint64pow10" .u64 Lib.pow10Tab
theorem TP.below {w w' : World} (h : TP w) (b : Below w.heap.size w w') : TP w' := tab_below gPow h b (tab_lt gPow h)

theorem next_any (n : Nat) (d : Int) (w : World) (h : (n : Int) ≤ 1000) : Calls Tryd.prog 100 #[endV n d] w fun e w' => e = .returned (.int .i64 ((n : Int) + 1)) ∧ Below w.heap.size w w' := by
  unfold endV
  go_enter Tryd.func100, Tryd.ntmps100
  go_wp2
  go_returns
  exact ⟨rfl, by go_grown⟩

set_option maxRecDepth 20000 in
set_option maxHeartbeats 2000000 in
theorem fits_any (r : S2) (m : Nat) (v : Bool) (w : World) (hm : m ≤ 2000) (hT : TP w) (hv : decide (dg m ≤ r.wid) = v) :
    Calls Tryd.prog 102 #[r.val, .int .i64 (m : Int)] w fun e w' => e = .returned (.bool v) ∧ Below w.heap.size w w' := by
  subst hv
  obtain ⟨s, wd⟩ := r
  unfold S2.val
  have HT : Hid (TP w) := hT
  have HD : Hid (decide (((strB (decDigits m)).size : Int) ≤ wd) = decide (dg m ≤ wd)) := hid (by rw [strB_size]; rfl)
  obtain ⟨A, hA⟩ : ∃ A, strB (decDigits m) = A := ⟨_, rfl⟩
  have HA : Hid (strB (decDigits m) = A) := hA
  rw [hA] at HD
  clear hA hT
  have hB0 : Below w.heap.size w (w.alloc (.cells #[.string s, .int .i64 wd] 75 (0, 0))).drew := ((Below.refl _ _).alloc (Nat.le_refl _) _).drew
  go_enter Tryd.func102, Tryd.ntmps102
  go_wp2
  go_region_held3 (fun w' => (w'.cell? ⟨w.heap.size, 0, none⟩ = some (.string s) ∧ w'.cell? ⟨w.heap.size, 1, none⟩ = some (.int .i64 wd)) ∧ Below w.heap.size w w')
    (refine ⟨⟨?_, ?_⟩, ?_⟩ <;> first | assumption | (simp [*]; done))
    (first
    | (go_at_call 126; refine (itoa_at (m := m) rfl (by omega) (HT.out.below (by assumption))).mono ?_; rintro e w2 ⟨rfl, b2⟩; rw [HA.out]; have q1 : w2.cell? ⟨w.heap.size, 0, none⟩ = some (.string s) := keep_cell b2 (by simp [*]); have q2 : w2.cell? ⟨w.heap.size, 1, none⟩ = some (.int .i64 wd) := keep_cell b2 (by simp [*]); have q4 : Below w.heap.size w w2 := bel_on (by assumption) b2; clear b2))
  go_wp2
  go_returns
  exact ⟨ret_bool HD.out, q4⟩
end Go.Proofs.YtdhpadcihlmhiaaDoor
