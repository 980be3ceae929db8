/- The rule of a code on a day, told by the program. -/
import Derived.Test.YtbhghghkgojpgaaTf
namespace Go.Proofs.Ytbhghghkgojpgaa
open Go.ChangeShapes Go.WideShapes Go.ChangeAt Go.RowKit
set_option linter.unusedVariables false
set_option linter.unusedSimpArgs false

theorem three_bl {w w1 : World} {bs cs ds : Array Value} {s t u : TypeId} (b : Below (((w.alloc (.cells bs s (0, 0))).alloc (.cells cs t (0, 0))).alloc (.cells ds u (0, 0))).heap.size (((w.alloc (.cells bs s (0, 0))).alloc (.cells cs t (0, 0))).alloc (.cells ds u (0, 0))) w1) :
    CB w1 w.heap.size bs s ∧ CB w1 (w.heap.size + 1) cs t ∧ CB w1 (w.heap.size + 1 + 1) ds u ∧ Below w.heap.size w w1 := by
  refine ⟨?_, ?_, ?_, ?_⟩
  · exact (((CB.new bs s).alloc _).alloc _).below b (by simp; omega)
  · exact ((CB.newAt (by simp) cs t).alloc _).below b (by simp)
  · exact (CB.newAt (by simp) ds u).below b (by simp)
  · exact bel_on ((((Below.refl _ _).alloc (Nat.le_refl _) _).alloc (by simp) _).alloc (by simp; omega) _) b
def zer5 : T5 := ⟨ByteArray.empty, 0, 0, 0, 0⟩

set_option maxRecDepth 20000 in
set_option maxHeartbeats 4000000 in
theorem ruleOn_no (s : ByteArray) (d : Int) (ad : Option Addr) (len cap : Nat) (c : Nat → T5) (w : World) (h : (len : Int) ≤ 1048576) (hr : TR w ad len c) (hx : ixR len c s d = -1) :
    Calls Try.prog 79 #[.slice ad len cap, .string s, .int .i64 d] w fun e w' => e = .returned (.tuple #[zer5.val, .bool false]) ∧ Below w.heap.size w w' := by
  have HR : Hid (TR w ad len c) := hr
  have HX : Hid (ixR len c s d = -1) := hx
  clear hr hx
  go_enter Try.func79, Try.ntmps79
  go_wp2_with (go_at_call 96; refine (idxOn_any s d w.heap.size (w.heap.size + 1) _ _ _ c _ h (HR.out.below (by go_grown)) (((CB.new _ _).alloc _).alloc _) ((CB.newAt (by simp) _ _).alloc _)).mono ?_; rintro e w1 ⟨rfl, b1⟩; rw [HX.out]; obtain ⟨_, _, C2, b2⟩ := three_bl b1; have k0 := (C2.cell 0).trans rfl; have k1 := (C2.cell 1).trans rfl; have k2 := (C2.cell 2).trans rfl; have k3 := (C2.cell 3).trans rfl; have k4 := (C2.cell 4).trans rfl; have f0 := C2.fr 0; have f1 := C2.fr 1; have f2 := C2.fr 2; have f3 := C2.fr 3; have f4 := C2.fr 4; have HC : Hid (CB w1 (w.heap.size + 1 + 1) #[.string ByteArray.empty, .int .i64 0, .int .i64 0, .int .i64 0, .int .i64 0] 79) := C2; have HB : Hid (Below w.heap.size w w1) := b2; clear b1 C2 b2)
  have hX := ((((HC.out.set 0 (.string ⟨#[]⟩)).set 1 (.int .i64 0)).set 2 (.int .i64 0)).set 3 (.int .i64 0)).set 4 (.int .i64 0)
  have hZ := ((((HB.out.setCell (p := ⟨w.heap.size + 1 + 1, 0, none⟩) (by simp; omega) (.string ⟨#[]⟩)).setCell (p := ⟨w.heap.size + 1 + 1, 1, none⟩) (by simp; omega) (.int .i64 0)).setCell (p := ⟨w.heap.size + 1 + 1, 2, none⟩) (by simp; omega) (.int .i64 0)).setCell (p := ⟨w.heap.size + 1 + 1, 3, none⟩) (by simp; omega) (.int .i64 0)).setCell (p := ⟨w.heap.size + 1 + 1, 4, none⟩) (by simp; omega) (.int .i64 0)
  have e0 := hX.cell 0
  have e1 := hX.cell 1
  have e2 := hX.cell 2
  have e3 := hX.cell 3
  have e4 := hX.cell 4
  simp at e0 e1 e2 e3 e4
  clear hX k0 k1 k2 k3 k4 f0 f1 f2 f3 f4 HC HB
  generalize (World.setCell _ _ _) = W5 at e0 e1 e2 e3 e4 hZ ⊢
  refine bodyPost_ret (by simp [results, Try.results79, go_sem, e0, e1, e2, e3, e4]; try rfl) rfl ?_
  exact ⟨rfl, hZ⟩

set_option maxRecDepth 20000 in
set_option maxHeartbeats 4000000 in
theorem ruleOn_yes (s : ByteArray) (d : Int) (ad : Option Addr) (len cap k : Nat) (c : Nat → T5) (w : World) (h : (len : Int) ≤ 1048576) (hr : TR w ad len c) (hx : ixR len c s d = (k : Int)) (hk : k < len) :
    Calls Try.prog 79 #[.slice ad len cap, .string s, .int .i64 d] w fun e w' => e = .returned (.tuple #[(c k).val, .bool true]) ∧ Below w.heap.size w w' := by
  have HR : Hid (TR w ad len c) := hr
  have HX : Hid (ixR len c s d = (k : Int)) := hx
  obtain ⟨kb, off, rfl, hkb⟩ := hr.addr (by omega)
  have hk2 : (k : Int) < (len : Int) := by omega
  have hk0 : ¬ ((k : Int) < 0) := by omega
  clear hr hx
  obtain ⟨r, hr⟩ : ∃ r, c k = r := ⟨_, rfl⟩
  have HK : Hid (c k = r) := hr
  rw [hr]
  clear hr
  obtain ⟨q0, q1, q2, q3, q4⟩ := r
  go_enter Try.func79, Try.ntmps79
  go_wp2_with (go_at_call 96; refine (idxOn_any s d w.heap.size (w.heap.size + 1) _ _ _ c _ h (HR.out.below (by go_grown)) (((CB.new _ _).alloc _).alloc _) ((CB.newAt (by simp) _ _).alloc _)).mono ?_; rintro e w1 ⟨rfl, b1⟩; rw [HX.out]; obtain ⟨_, _, C2, b2⟩ := three_bl b1; obtain ⟨t0, t1, t2, t3, t4⟩ := (HR.out.below b2).cell hk; rw [HK.out] at t0 t1 t2 t3 t4; simp only at t0 t1 t2 t3 t4; have k0 := (C2.cell 0).trans rfl; have k1 := (C2.cell 1).trans rfl; have k2 := (C2.cell 2).trans rfl; have k3 := (C2.cell 3).trans rfl; have k4 := (C2.cell 4).trans rfl; have f0 := C2.fr 0; have f1 := C2.fr 1; have f2 := C2.fr 2; have f3 := C2.fr 3; have f4 := C2.fr 4; have HC : Hid (CB w1 (w.heap.size + 1 + 1) #[.string ByteArray.empty, .int .i64 0, .int .i64 0, .int .i64 0, .int .i64 0] 79) := C2; have HB : Hid (Below w.heap.size w w1) := b2; clear b1 C2 b2)
  have hX := ((((HC.out.set 0 (.string q0)).set 1 (.int .i64 q1)).set 2 (.int .i64 q2)).set 3 (.int .i64 q3)).set 4 (.int .i64 q4)
  have hZ := ((((HB.out.setCell (p := ⟨w.heap.size + 1 + 1, 0, none⟩) (by simp; omega) (.string q0)).setCell (p := ⟨w.heap.size + 1 + 1, 1, none⟩) (by simp; omega) (.int .i64 q1)).setCell (p := ⟨w.heap.size + 1 + 1, 2, none⟩) (by simp; omega) (.int .i64 q2)).setCell (p := ⟨w.heap.size + 1 + 1, 3, none⟩) (by simp; omega) (.int .i64 q3)).setCell (p := ⟨w.heap.size + 1 + 1, 4, none⟩) (by simp; omega) (.int .i64 q4)
  have e0 := hX.cell 0
  have e1 := hX.cell 1
  have e2 := hX.cell 2
  have e3 := hX.cell 3
  have e4 := hX.cell 4
  simp at e0 e1 e2 e3 e4
  clear hX k0 k1 k2 k3 k4 f0 f1 f2 f3 f4 t0 t1 t2 t3 t4 HC HB
  generalize (World.setCell _ _ _) = W5 at e0 e1 e2 e3 e4 hZ ⊢
  refine bodyPost_ret (by simp [results, Try.results79, go_sem, e0, e1, e2, e3, e4]; try rfl) rfl ?_
  exact ⟨rfl, hZ⟩
end Go.Proofs.Ytbhghghkgojpgaa
