/- The model's comparison of two ways. -/
import Derived.Test.YtmbdeafpfdeigaaQl
namespace Go.Proofs.Ytmbdeafpfdeigaa
open Go Go.ChangeShapes Go.WideShapes Go.ChangeAt Go.RowKit
set_option linter.unusedVariables false
set_option linter.unusedSimpArgs false

set_option maxRecDepth 20000 in
set_option maxHeartbeats 2000000 in
theorem less_any (ca cb : Int) (aa ab : Option Addr) (la lb pa pb : Nat) (ma mb : Nat → Nat) (v : Bool) (w : World) (ha : la ≤ 40) (hb : lb ≤ 40) (hra : IR w aa la (fun j => (ma j : Int))) (hrb : IR w ab lb (fun j => (mb j : Int)))
    (H : (ca ≠ cb ∧ v = decide (ca < cb)) ∨ (ca = cb ∧ 0 < la ∧ 0 < lb ∧ ma (la - 1) ≠ mb (lb - 1) ∧ v = decide (ma (la - 1) < mb (lb - 1))) ∨ (ca = cb ∧ la = lb ∧ (∀ j, j < la → ma j = mb j) ∧ v = false)) :
    Calls Try.prog 121 #[.agg #[.int .i64 ca, .slice aa la pa], .agg #[.int .i64 cb, .slice ab lb pb]] w fun e w' => e = .returned (.bool v) ∧ Below w.heap.size w w' := by
  have HRA : Hid (IR w aa la (fun j => (ma j : Int))) := hra
  have HRB : Hid (IR w ab lb (fun j => (mb j : Int))) := hrb
  have HB0 : Hid (Below w.heap.size w ((w.alloc (.cells #[.int .i64 ca, .slice aa la pa] 120 (0, 0))).alloc (.cells #[.int .i64 cb, .slice ab lb pb] 120 (0, 0)))) := ((Below.refl _ _).alloc (Nat.le_refl _) _).alloc (by simp) _
  have HC0 : Hid (CB ((w.alloc (.cells #[.int .i64 ca, .slice aa la pa] 120 (0, 0))).alloc (.cells #[.int .i64 cb, .slice ab lb pb] 120 (0, 0))) w.heap.size #[.int .i64 ca, .slice aa la pa] 120 ∧ CB ((w.alloc (.cells #[.int .i64 ca, .slice aa la pa] 120 (0, 0))).alloc (.cells #[.int .i64 cb, .slice ab lb pb] 120 (0, 0))) (w.heap.size + 1) #[.int .i64 cb, .slice ab lb pb] 120) := hid ⟨(CB.new _ _).alloc _, CB.newAt (by simp) _ _⟩
  have ha1 : (la : Int) ≤ 40 := by omega
  have hb1 : (lb : Int) ≤ 40 := by omega
  clear hra hrb
  rcases H with ⟨h1, rfl⟩ | ⟨rfl, h2, h3, h4, rfl⟩ | ⟨rfl, rfl, h3, rfl⟩
  · have hne : (ca != cb) = true := by simpa using h1
    clear h1
    go_enter Try.func121, Try.ntmps121
    go_wp2
    go_returns
    exact ⟨rfl, HB0.out⟩
  · have hne : (ca != ca) = false := by simp
    have H4 : Hid (ma (la - 1) ≠ mb (lb - 1)) := h4
    obtain ⟨la, rfl⟩ : ∃ x, la = x + 1 := ⟨la - 1, by omega⟩
    obtain ⟨lb, rfl⟩ : ∃ x, lb = x + 1 := ⟨lb - 1, by omega⟩
    simp only [Nat.add_sub_cancel] at H4 ⊢
    obtain ⟨k1, o1, rfl, _⟩ := HRA.out.addr (by omega)
    obtain ⟨k2, o2, rfl, _⟩ := HRB.out.addr (by omega)
    generalize hV : ((w.alloc (.cells #[.int .i64 ca, .slice (some ⟨k1, o1, none⟩) (la + 1) pa] 120 (0, 0))).alloc (.cells #[.int .i64 ca, .slice (some ⟨k2, o2, none⟩) (lb + 1) pb] 120 (0, 0))) = V at HB0 HC0
    have c1 : V.cell? ⟨k1, o1 + la, none⟩ = some (.int .i64 (ma la : Int)) := (HRA.out.below HB0.out).cell (by omega)
    have c2 : V.cell? ⟨k2, o2 + lb, none⟩ = some (.int .i64 (mb lb : Int)) := (HRB.out.below HB0.out).cell (by omega)
    have d1 : V.cell? ⟨w.heap.size, 0, none⟩ = some (.int .i64 ca) := (HC0.out.1.cell 0).trans rfl
    have d2 : V.cell? ⟨w.heap.size, 1, none⟩ = some (.slice (some ⟨k1, o1, none⟩) (la + 1) pa) := (HC0.out.1.cell 1).trans rfl
    have d3 : V.cell? ⟨w.heap.size + 1, 0, none⟩ = some (.int .i64 ca) := (HC0.out.2.cell 0).trans rfl
    have d4 : V.cell? ⟨w.heap.size + 1, 1, none⟩ = some (.slice (some ⟨k2, o2, none⟩) (lb + 1) pb) := (HC0.out.2.cell 1).trans rfl
    have g1 : (1 : Int) ≤ (la : Int) + 1 := by omega
    have g2 : (1 : Int) ≤ (lb : Int) + 1 := by omega
    have hx : ((ma la : Int) != (mb lb : Int)) = true := by have := H4.out; simp; omega
    have HV : Hid (decide ((ma la : Int) < (mb lb : Int)) = decide (ma la < mb lb)) := hid (by rw [decide_eq_decide]; omega)
    clear h2 h3 h4
    go_enter Try.func121, Try.ntmps121
    go_wp2
    try rw [hV]
    go_loopw [5] (fun u wr => u = .int .i64 1 ∧ wr = V) (fun u _ => 41 - (intOf u).toNat)
    case atStart => exact ⟨rfl, by first | rfl | trivial⟩
    case round =>
      obtain ⟨rfl, rfl⟩ := hrel
      go_wp2
      go_returns
      exact ⟨by first | rfl | exact ret_bool HV.out, HB0.out⟩
  · have hne : (ca != ca) = false := by simp
    have H3 : Hid (∀ j, j < la → ma j = mb j) := h3
    generalize hV : ((w.alloc (.cells #[.int .i64 ca, .slice aa la pa] 120 (0, 0))).alloc (.cells #[.int .i64 ca, .slice ab la pb] 120 (0, 0))) = V at HB0 HC0
    have d1 : V.cell? ⟨w.heap.size, 0, none⟩ = some (.int .i64 ca) := (HC0.out.1.cell 0).trans rfl
    have d2 : V.cell? ⟨w.heap.size, 1, none⟩ = some (.slice aa la pa) := (HC0.out.1.cell 1).trans rfl
    have d3 : V.cell? ⟨w.heap.size + 1, 0, none⟩ = some (.int .i64 ca) := (HC0.out.2.cell 0).trans rfl
    have d4 : V.cell? ⟨w.heap.size + 1, 1, none⟩ = some (.slice ab la pb) := (HC0.out.2.cell 1).trans rfl
    have D : Hid (V.cell? ⟨w.heap.size, 0, none⟩ = some (.int .i64 ca) ∧ V.cell? ⟨w.heap.size, 1, none⟩ = some (.slice aa la pa) ∧ V.cell? ⟨w.heap.size + 1, 0, none⟩ = some (.int .i64 ca) ∧ V.cell? ⟨w.heap.size + 1, 1, none⟩ = some (.slice ab la pb)) := hid ⟨d1, d2, d3, d4⟩
    clear h3
    go_enter Try.func121, Try.ntmps121
    go_wp2
    try rw [hV]
    clear hV d1 d2 d3 d4
    have HVB : Hid (Below w.heap.size w V) := HB0
    go_loopw [5] (fun u wr => ∃ k : Nat, 1 ≤ k ∧ k ≤ la + 1 ∧ u = .int .i64 (k : Int) ∧ wr = V) (fun u _ => 41 - (intOf u).toNat)
    case atStart => exact ⟨1, Nat.le_refl _, by omega, rfl, by first | rfl | trivial⟩
    case round =>
      obtain ⟨k, hk1, hk2, rfl, rfl⟩ := hrel
      obtain ⟨d1, d2, d3, d4⟩ := D.out
      by_cases hlt : k ≤ la
      · have hlt2 : (k : Int) ≤ (la : Int) := by omega
        obtain ⟨k1, o1, rfl, _⟩ := HRA.out.addr (by omega)
        obtain ⟨k2, o2, rfl, _⟩ := HRB.out.addr (by omega)
        obtain ⟨q, hq⟩ : ∃ q : Nat, la = q + k := ⟨la - k, by omega⟩
        have hw : IntKind.i64.wrap ((la : Int) - (k : Int)) = (q : Int) := by rw [show (la : Int) - (k : Int) = (q : Int) by omega]; exact IntWalk.i64_in _ ⟨by omega, by omega⟩
        have hq2 : (q : Int) < (la : Int) := by omega
        have c1 : wr.cell? ⟨k1, o1 + q, none⟩ = some (.int .i64 (ma q : Int)) := (HRA.out.below HVB.out).cell (by omega)
        have c2 : wr.cell? ⟨k2, o2 + q, none⟩ = some (.int .i64 (ma q : Int)) := by
          have := (HRB.out.below HVB.out).cell (j := q) (by omega)
          rw [← H3.out q (by omega)] at this; exact this
        have hx : ((ma q : Int) != (ma q : Int)) = false := by simp
        clear hq
        go_wp2
        go_roundw
        case rel => exact ⟨k + 1, by omega, by omega, by go_num, by first | rfl | trivial⟩
        case measure => first | (simp [intOf]; done) | (simp [intOf]; omega)
      · have hlt2 : ¬ (k : Int) ≤ (la : Int) := by omega
        have lll : ¬ (la : Int) < (la : Int) := by omega
        go_wp2
        go_returns
        exact ⟨by first | rfl | simp, HVB.out⟩
end Go.Proofs.Ytmbdeafpfdeigaa
