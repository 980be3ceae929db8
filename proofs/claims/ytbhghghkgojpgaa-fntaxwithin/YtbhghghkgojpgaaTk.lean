/- What a kind of tax levies: ratedLevy and the four levyOn. -/
import Derived.Test.YtbhghghkgojpgaaTj
namespace Go.Proofs.Ytbhghghkgojpgaa
open Go.ChangeShapes Go.WideShapes Go.ChangeAt Go.RowKit
set_option linter.unusedVariables false
set_option linter.unusedSimpArgs false

def gAgg (ra net bo wi : Int) : Value := .agg #[.int .i64 ra, .int .i64 net, .int .i64 bo, .int .i64 wi]
def lAgg (ba ta bo : Int) : Value := .agg #[.int .i64 ba, .int .i64 ta, .int .i64 bo]

set_option maxRecDepth 20000 in
set_option maxHeartbeats 2000000 in
theorem rated_any (ba ra : Int) (w : World) : Calls Try.prog 181 #[.int .i64 ba, .int .i64 ra] w fun e w' => e = .returned (.tuple #[lAgg ba (mdV ba ra 100000 3) (mdV ba ra 100000 3), .bool (mdB ba ra 100000 3)]) ∧ Below w.heap.size w w' := by
  obtain ⟨v, hv⟩ : ∃ v, mdV ba ra 100000 3 = v := ⟨_, rfl⟩
  obtain ⟨b, hb⟩ : ∃ b, mdB ba ra 100000 3 = b := ⟨_, rfl⟩
  have HV : Hid (mdV ba ra 100000 3 = v) := hv
  have HO : Hid (mdB ba ra 100000 3 = b) := hb
  rw [hv, hb]
  clear hv hb
  go_enter Try.func181, Try.ntmps181
  go_wp2_with (go_at_call 106; refine (implMulDiv_any _ _ _ _ _).mono ?_; rintro e w1 ⟨rfl, b1⟩; rw [HV.out, HO.out]; have C0 : CB w1 w.heap.size #[.int .i64 0, .int .i64 0, .int .i64 0] 121 := (CB.new _ _).below b1 (by simp); have k0 := (C0.cell 0).trans rfl; have k1 := (C0.cell 1).trans rfl; have k2 := (C0.cell 2).trans rfl; have f0 := C0.fr 0; have f1 := C0.fr 1; have f2 := C0.fr 2; have HC : Hid (CB w1 w.heap.size #[.int .i64 0, .int .i64 0, .int .i64 0] 121) := C0; have HB : Hid (Below w.heap.size w w1) := bel_on ((Below.refl _ _).alloc (Nat.le_refl _) _) b1; clear b1 C0)
  have hX := ((HC.out.set 0 (.int .i64 ba)).set 1 (.int .i64 v)).set 2 (.int .i64 v)
  have hZ := ((HB.out.setCell (p := ⟨w.heap.size, 0, none⟩) (by simp) (.int .i64 ba)).setCell (p := ⟨w.heap.size, 1, none⟩) (by simp) (.int .i64 v)).setCell (p := ⟨w.heap.size, 2, none⟩) (by simp) (.int .i64 v)
  have e0 := hX.cell 0
  have e1 := hX.cell 1
  have e2 := hX.cell 2
  simp at e0 e1 e2
  clear hX k0 k1 k2 f0 f1 f2 HC HB
  generalize (World.setCell _ _ _) = W5 at e0 e1 e2 hZ ⊢
  refine bodyPost_ret (by simp [results, Try.results181, go_sem, e0, e1, e2]; try rfl) rfl ?_
  exact ⟨rfl, hZ⟩

set_option maxRecDepth 20000 in
set_option maxHeartbeats 2000000 in
theorem plain_levy (ra net bo wi : Int) (w : World) : Calls Try.prog 180 #[.agg #[], gAgg ra net bo wi] w fun e w' => e = .returned (.tuple #[lAgg net (mdV net ra 100000 3) (mdV net ra 100000 3), .bool (mdB net ra 100000 3)]) ∧ Below w.heap.size w w' := by
  obtain ⟨v, hv⟩ : ∃ v, mdV net ra 100000 3 = v := ⟨_, rfl⟩
  obtain ⟨b, hb⟩ : ∃ b, mdB net ra 100000 3 = b := ⟨_, rfl⟩
  have HV : Hid (mdV net ra 100000 3 = v) := hv
  have HO : Hid (mdB net ra 100000 3 = b) := hb
  rw [hv, hb]
  clear hv hb
  unfold gAgg
  go_enter Try.func180, Try.ntmps180
  go_wp2_with (go_at_call 181; refine (rated_any _ _ _).mono ?_; rintro e w1 ⟨rfl, b1⟩; rw [HV.out, HO.out]; unfold lAgg; obtain ⟨_, _, C2, B1⟩ := three_bl b1; have k0 := (C2.cell 0).trans rfl; have k1 := (C2.cell 1).trans rfl; have k2 := (C2.cell 2).trans rfl; have f0 := C2.fr 0; have f1 := C2.fr 1; have f2 := C2.fr 2; have HC : Hid (CB w1 (w.heap.size + 1 + 1) #[.int .i64 0, .int .i64 0, .int .i64 0] 121) := C2; have HB : Hid (Below w.heap.size w w1) := B1; clear b1 C2 B1)
  have hX := ((HC.out.set 0 (.int .i64 net)).set 1 (.int .i64 v)).set 2 (.int .i64 v)
  have hZ := ((HB.out.setCell (p := ⟨w.heap.size + 1 + 1, 0, none⟩) (by simp; omega) (.int .i64 net)).setCell (p := ⟨w.heap.size + 1 + 1, 1, none⟩) (by simp; omega) (.int .i64 v)).setCell (p := ⟨w.heap.size + 1 + 1, 2, none⟩) (by simp; omega) (.int .i64 v)
  have e0 := hX.cell 0
  have e1 := hX.cell 1
  have e2 := hX.cell 2
  simp at e0 e1 e2
  clear hX k0 k1 k2 f0 f1 f2 HC HB
  generalize (World.setCell _ _ _) = W5 at e0 e1 e2 hZ ⊢
  refine bodyPost_ret (by simp [results, Try.results180, go_sem, e0, e1, e2]; try rfl) rfl ?_
  exact ⟨rfl, hZ⟩

set_option maxRecDepth 20000 in
set_option maxHeartbeats 2000000 in
theorem over_levy (ra net bo wi : Int) (w : World) : Calls Try.prog 182 #[.agg #[], gAgg ra net bo wi] w fun e w' => e = .returned (.tuple #[lAgg bo (mdV bo ra 100000 3) (mdV bo ra 100000 3), .bool (mdB bo ra 100000 3)]) ∧ Below w.heap.size w w' := by
  obtain ⟨v, hv⟩ : ∃ v, mdV bo ra 100000 3 = v := ⟨_, rfl⟩
  obtain ⟨b, hb⟩ : ∃ b, mdB bo ra 100000 3 = b := ⟨_, rfl⟩
  have HV : Hid (mdV bo ra 100000 3 = v) := hv
  have HO : Hid (mdB bo ra 100000 3 = b) := hb
  rw [hv, hb]
  clear hv hb
  unfold gAgg
  go_enter Try.func182, Try.ntmps182
  go_wp2_with (go_at_call 181; refine (rated_any _ _ _).mono ?_; rintro e w1 ⟨rfl, b1⟩; rw [HV.out, HO.out]; unfold lAgg; obtain ⟨_, _, C2, B1⟩ := three_bl b1; have k0 := (C2.cell 0).trans rfl; have k1 := (C2.cell 1).trans rfl; have k2 := (C2.cell 2).trans rfl; have f0 := C2.fr 0; have f1 := C2.fr 1; have f2 := C2.fr 2; have HC : Hid (CB w1 (w.heap.size + 1 + 1) #[.int .i64 0, .int .i64 0, .int .i64 0] 121) := C2; have HB : Hid (Below w.heap.size w w1) := B1; clear b1 C2 B1)
  have hX := ((HC.out.set 0 (.int .i64 bo)).set 1 (.int .i64 v)).set 2 (.int .i64 v)
  have hZ := ((HB.out.setCell (p := ⟨w.heap.size + 1 + 1, 0, none⟩) (by simp; omega) (.int .i64 bo)).setCell (p := ⟨w.heap.size + 1 + 1, 1, none⟩) (by simp; omega) (.int .i64 v)).setCell (p := ⟨w.heap.size + 1 + 1, 2, none⟩) (by simp; omega) (.int .i64 v)
  have e0 := hX.cell 0
  have e1 := hX.cell 1
  have e2 := hX.cell 2
  simp at e0 e1 e2
  clear hX k0 k1 k2 f0 f1 f2 HC HB
  generalize (World.setCell _ _ _) = W5 at e0 e1 e2 hZ ⊢
  refine bodyPost_ret (by simp [results, Try.results182, go_sem, e0, e1, e2]; try rfl) rfl ?_
  exact ⟨rfl, hZ⟩

set_option maxRecDepth 20000 in
set_option maxHeartbeats 2000000 in
theorem within_levy (ra net bo wi : Int) (w : World) : Calls Try.prog 183 #[.agg #[], gAgg ra net bo wi] w fun e w' => e = .returned (.tuple #[lAgg net wi wi, .bool true]) ∧ Below w.heap.size w w' := by
  unfold gAgg lAgg
  go_enter Try.func183, Try.ntmps183
  go_wp2_with fail
  go_returns
  exact ⟨rfl, by go_grown⟩

set_option maxRecDepth 20000 in
set_option maxHeartbeats 2000000 in
theorem reverse_levy (ra net bo wi : Int) (w : World) : Calls Try.prog 184 #[.agg #[], gAgg ra net bo wi] w fun e w' => e = .returned (.tuple #[lAgg net (mdV net ra 100000 3) 0, .bool (mdB net ra 100000 3)]) ∧ Below w.heap.size w w' := by
  obtain ⟨v, hv⟩ : ∃ v, mdV net ra 100000 3 = v := ⟨_, rfl⟩
  obtain ⟨b, hb⟩ : ∃ b, mdB net ra 100000 3 = b := ⟨_, rfl⟩
  have HV : Hid (mdV net ra 100000 3 = v) := hv
  have HO : Hid (mdB net ra 100000 3 = b) := hb
  rw [hv, hb]
  clear hv hb
  unfold gAgg
  go_enter Try.func184, Try.ntmps184
  go_wp2_with (go_at_call 181; refine (rated_any _ _ _).mono ?_; rintro e w1 ⟨rfl, b1⟩; rw [HV.out, HO.out]; unfold lAgg; obtain ⟨_, _, C2, B1⟩ := three_bl b1; have k0 := (C2.cell 0).trans rfl; have k1 := (C2.cell 1).trans rfl; have k2 := (C2.cell 2).trans rfl; have f0 := C2.fr 0; have f1 := C2.fr 1; have f2 := C2.fr 2; have HC : Hid (CB w1 (w.heap.size + 1 + 1) #[.int .i64 0, .int .i64 0, .int .i64 0] 121) := C2; have hlw := C2.lt; have HB : Hid (Below w.heap.size w w1) := B1; clear b1 C2 B1)
  have hX := (((HC.out.set 0 (.int .i64 net)).set 1 (.int .i64 v)).set 2 (.int .i64 0)).alloc (.cells #[.int .i64 net, .int .i64 v, .int .i64 0] 121 (0, 0))
  have hZ := (((HB.out.setCell (p := ⟨w.heap.size + 1 + 1, 0, none⟩) (by simp; omega) (.int .i64 net)).setCell (p := ⟨w.heap.size + 1 + 1, 1, none⟩) (by simp; omega) (.int .i64 v)).setCell (p := ⟨w.heap.size + 1 + 1, 2, none⟩) (by simp; omega) (.int .i64 0)).alloc (by simp; omega) (.cells #[.int .i64 net, .int .i64 v, .int .i64 0] 121 (0, 0))
  have e0 := hX.cell 0
  have e1 := hX.cell 1
  have e2 := hX.cell 2
  simp only [List.setIfInBounds_toArray, List.set_cons_zero, List.set_cons_succ] at e0 e1 e2
  replace e0 := e0.trans rfl
  replace e1 := e1.trans rfl
  replace e2 := e2.trans rfl
  clear hX k0 k1 k2 f0 f1 f2 HC HB
  generalize (World.alloc _ _) = W5 at e0 e1 e2 hZ ⊢
  refine bodyPost_ret (by simp [results, Try.results184, go_sem, e0, e1, e2]; try rfl) rfl ?_
  exact ⟨rfl, hZ⟩
end Go.Proofs.Ytbhghghkgojpgaa
