/- Contracts of the laws' own comparison of periods. -/
import Derived.Test.YtadjdpoplaknkaaDoorPr
import Derived.Test.YtadjdpoplaknkaaDoorMe
namespace Go.Proofs.YtadjdpoplaknkaaDoor
open Go.ChangeShapes Go.WideShapes Go.ChangeAt Go.RowKit
set_option linter.unusedVariables false
set_option linter.unusedSimpArgs false

theorem eqPeriod_same (a b : Int) (w : World) : Calls Tryd.prog 50 #[.agg #[.int .i64 a, .int .i64 b], .agg #[.int .i64 a, .int .i64 b]] w fun e w' => e = .returned (.bool true) ∧ Below w.heap.size w w' := by
  go_enter Tryd.func50, Tryd.ntmps50
  go_wp2
  go_returns
  exact ⟨rfl, by go_grown⟩

set_option maxHeartbeats 2000000 in
theorem eqPeriodS_same (ad be : Option Addr) (len cap cap2 : Nat) (x y : Nat → Int) (w : World) (h : (len : Int) ≤ 1048576) (h1 : PR w ad len x y) (h2 : PR w be len x y) :
    Calls Tryd.prog 29 #[.slice ad len cap, .slice be len cap2] w fun e w' => e = .returned (.bool true) ∧ Below w.heap.size w w' := by
  have H1 : Hid (PR w ad len x y) := h1
  have H2 : Hid (PR w be len x y) := h2
  clear h1 h2
  go_enter Tryd.func29, Tryd.ntmps29
  go_wp2
  go_loopw [5] (fun i wr => ∃ (k : Nat), k ≤ len ∧ i = .int .i64 (k : Int) ∧ Below w.heap.size w wr) (fun i _ => len - (intOf i).toNat)
  case atStart => exact ⟨0, Nat.zero_le _, rfl, Below.refl _ _⟩
  case round =>
    obtain ⟨k, hk, rfl, hB⟩ := hrel
    by_cases hlt : k < len
    · obtain ⟨kb, off, rfl, _⟩ := H1.out.addr (by omega)
      obtain ⟨kb2, off2, rfl, _⟩ := H2.out.addr (by omega)
      obtain ⟨c1, c2⟩ := (H1.out.below hB).cell hlt
      obtain ⟨e1, e2⟩ := (H2.out.below hB).cell hlt
      have HB : Hid (Below w.heap.size w wr) := hB
      have hBd : Below w.heap.size w wr.drew := hB.drew
      clear hB
      go_wp2
      go_region_held3 (fun w' => w'.cell? ⟨kb, off + k * 2, none⟩ = some (.int .i64 (x k)) ∧ w'.cell? ⟨kb, off + k * 2 + 1, none⟩ = some (.int .i64 (y k)) ∧ w'.cell? ⟨kb2, off2 + k * 2, none⟩ = some (.int .i64 (x k)) ∧ w'.cell? ⟨kb2, off2 + k * 2 + 1, none⟩ = some (.int .i64 (y k)) ∧ Below w.heap.size w w')
        (refine ⟨?_, ?_, ?_, ?_, ?_⟩ <;> first | assumption | (simp [*]; done))
        (first
        | (go_at_call 50; refine (eqPeriod_same _ _ _).mono ?_; rintro e w2 ⟨rfl, b2⟩; have q0 : w2.cell? ⟨kb, off + k * 2, none⟩ = some (.int .i64 (x k)) := keep_cell b2 (by simp [*]); have q1 : w2.cell? ⟨kb, off + k * 2 + 1, none⟩ = some (.int .i64 (y k)) := keep_cell b2 (by simp [*]); have q2 : w2.cell? ⟨kb2, off2 + k * 2, none⟩ = some (.int .i64 (x k)) := keep_cell b2 (by simp [*]); have q3 : w2.cell? ⟨kb2, off2 + k * 2 + 1, none⟩ = some (.int .i64 (y k)) := keep_cell b2 (by simp [*]); have q4 : Below w.heap.size w w2 := bel_on (by assumption) b2))
      go_wp2
      go_roundw
      case rel => exact ⟨k + 1, by omega, by go_num, q4⟩
      case measure => simp [intOf]; omega
    · have HB : Hid (Below w.heap.size w wr) := hB
      clear hB
      go_wp2
      go_returns
      exact ⟨rfl, HB.out⟩

end Go.Proofs.YtadjdpoplaknkaaDoor
