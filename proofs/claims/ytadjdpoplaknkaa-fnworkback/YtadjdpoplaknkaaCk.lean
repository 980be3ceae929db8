/- Contracts of the calendar's copy and comparison, and of CalOk in the program and in the model. -/
import Derived.Test.YtadjdpoplaknkaaCi
import Derived.Deep.RegionHeld3
import Derived.WalkSmall
namespace Go.Proofs.Ytadjdpoplaknkaa
open Go.ChangeShapes Go.WideShapes Go.ChangeAt Go.RowKit
set_option linter.unusedVariables false
set_option linter.unusedSimpArgs false

theorem szCal_in (off : Int) (ad : Option Addr) (len cap : Nat) (w : World) (h : (len : Int) ≤ 1048576) :
    Calls Try.prog 18 #[.agg #[.int .i64 off, .slice ad len cap], .int .i64 1048576] w fun e w' => e = .returned (.int .i64 (1048576 - (len : Int))) ∧ Below w.heap.size w w' := by
  have h2 : (0 : Int) ≤ 1048576 - (len : Int) := by omega
  go_enter Try.func18, Try.ntmps18
  go_wp2_with (go_at_call 44; refine (szIntS_in _ _ _ _ h).mono ?_; rintro e w' ⟨rfl, rfl⟩)
  go_returns
  exact ⟨rfl, by go_grown⟩

theorem szCal_out (off : Int) (ad : Option Addr) (len cap : Nat) (w : World) (h : (1048576 : Int) < (len : Int)) (h2 : (len : Int) ≤ 9223372036854775807) :
    Calls Try.prog 18 #[.agg #[.int .i64 off, .slice ad len cap], .int .i64 1048576] w fun e w' => e = .returned (.int .i64 (-1)) ∧ Below w.heap.size w w' := by
  go_enter Try.func18, Try.ntmps18
  go_wp2_with (go_at_call 44; refine (szIntS_out _ _ _ _ h h2).mono ?_; rintro e w' ⟨rfl, rfl⟩)
  go_returns
  exact ⟨rfl, by go_grown⟩

theorem keep_cell {W W' : World} {b o : Nat} {v : Value} (h : Below W.heap.size W W') (hc : W.cell? ⟨b, o, none⟩ = some v) : W'.cell? ⟨b, o, none⟩ = some v := by
  have hlt : b < W.heap.size := by
    unfold World.cell? at hc
    rcases Nat.lt_or_ge b W.heap.size with g | g
    · exact g
    · simp [Array.getElem?_eq_none g] at hc
  rw [World.cell?_of_block (w := W) (h.block b hlt)]; exact hc

set_option maxHeartbeats 1000000 in
theorem toCal_any (off : Int) (ad : Option Addr) (len cap : Nat) (z : Nat → Int) (w : World) (h : (len : Int) ≤ 1048576) (hr : IR w ad len z) :
    Calls Try.prog 20 #[.agg #[.int .i64 off, .slice ad len cap]] w fun e w' => ∃ k : Nat, e = .returned (.agg #[.int .i64 off, .slice (some ⟨k, 0, none⟩) len len]) ∧ w.heap.size ≤ k ∧ IR w' (some ⟨k, 0, none⟩) len z ∧ Below w.heap.size w w' := by
  have HR : Hid (IR w ad len z) := hr
  clear hr
  go_enter Try.func20, Try.ntmps20
  go_wp2_with (go_at_call 45; refine (toIntS_at (w.heap.size + 1 + 1 + 1) _ _ _ z _ h ((((HR.out.alloc _).alloc _).alloc _)) (by simp)).mono ?_; rintro e w1 ⟨rfl, hi, hb⟩; have C3 : CB w1 (w.heap.size + 1 + 1) #[.int .i64 off, .slice none 0 0] 26 := (CB.newAt (by simp) _ _).below hb (by omega); have C2 : CB w1 (w.heap.size + 1) #[.int .i64 0, .slice none 0 0] 26 := ((CB.newAt (by simp) _ _).alloc _).below hb (by omega); have HC2 : Hid (CB w1 (w.heap.size + 1) #[.int .i64 0, .slice none 0 0] 26) := C2; have HI : Hid (IR w1 (some ⟨w.heap.size + 1 + 1 + 1, 0, none⟩) len z) := hi; have HB : Hid (Below (w.heap.size + 1 + 1 + 1) (((w.alloc (.cells #[.int .i64 off, .slice ad len cap] 33 (0, 0))).alloc (.cells #[.int .i64 0, .slice none 0 0] 26 (0, 0))).alloc (.cells #[.int .i64 off, .slice none 0 0] 26 (0, 0))) w1) := hb; have p0 := C3.cell 0; have p1 := C3.cell 1; have q0 := C2.cell 0; have q1 := C2.cell 1; have f1 := C3.fr 1; have r0 := C2.fr 0; have r1 := C2.fr 1; simp at p0 p1 q0 q1; clear C3 C2 hi hb)
  have C4 := (((HC2.out.other (c := w.heap.size + 1 + 1) (o := 1) (.slice (some ⟨w.heap.size + 1 + 1 + 1, 0, none⟩) len len) (by omega)).set 0 (.int .i64 off)).set 1 (.slice (some ⟨w.heap.size + 1 + 1 + 1, 0, none⟩) len len))
  have I4 : IR (((w1.setCell ⟨w.heap.size + 1 + 1, 1, none⟩ (.slice (some ⟨w.heap.size + 1 + 1 + 1, 0, none⟩) len len)).setCell ⟨w.heap.size + 1, 0, none⟩ (.int .i64 off)).setCell ⟨w.heap.size + 1, 1, none⟩ (.slice (some ⟨w.heap.size + 1 + 1 + 1, 0, none⟩) len len)) (some ⟨w.heap.size + 1 + 1 + 1, 0, none⟩) len z := ((HI.out.other _ (by omega)).other _ (by omega)).other _ (by omega)
  have B1 : Below w.heap.size w w1 := ((((Below.refl _ _).alloc (Nat.le_refl _) _).alloc (by simp) _).alloc (by simp; omega) _).trans (HB.out.mono (by omega))
  have B4 : Below w.heap.size w (((w1.setCell ⟨w.heap.size + 1 + 1, 1, none⟩ (.slice (some ⟨w.heap.size + 1 + 1 + 1, 0, none⟩) len len)).setCell ⟨w.heap.size + 1, 0, none⟩ (.int .i64 off)).setCell ⟨w.heap.size + 1, 1, none⟩ (.slice (some ⟨w.heap.size + 1 + 1 + 1, 0, none⟩) len len)) := ((B1.setCell (by simp; omega) _).setCell (by simp) _).setCell (by simp) _
  revert C4 I4 B4
  generalize (((w1.setCell ⟨w.heap.size + 1 + 1, 1, none⟩ (.slice (some ⟨w.heap.size + 1 + 1 + 1, 0, none⟩) len len)).setCell ⟨w.heap.size + 1, 0, none⟩ (.int .i64 off)).setCell ⟨w.heap.size + 1, 1, none⟩ (.slice (some ⟨w.heap.size + 1 + 1 + 1, 0, none⟩) len len)) = W
  intro C4 I4 B4
  clear p0 p1 q0 q1 f1 r0 r1 HC2 HI HB
  have e0 := C4.cell 0
  have e1 := C4.cell 1
  simp at e0 e1
  refine bodyPost_ret (by simp [results, Try.results20, go_sem, e0, e1]; try rfl) rfl ?_
  exact ⟨_, rfl, by omega, I4, B4⟩

set_option maxHeartbeats 1000000 in
theorem eqIntS_same (ad be : Option Addr) (len cap cap2 : Nat) (z : Nat → Int) (w : World) (h : (len : Int) ≤ 1048576) (h1 : IR w ad len z) (h2 : IR w be len z) :
    Calls Try.prog 47 #[.slice ad len cap, .slice be len cap2] w fun e w' => e = .returned (.bool true) ∧ ∃ q, w' = w.drewN q := by
  have H1 : Hid (IR w ad len z) := h1
  have H2 : Hid (IR w be len z) := h2
  clear h1 h2
  go_enter Try.func47, Try.ntmps47
  go_wp2
  go_loopw [5] (fun i wr => ∃ (k q : Nat), k ≤ len ∧ i = .int .i64 (k : Int) ∧ wr = w.drewN q) (fun i _ => len - (intOf i).toNat)
  case atStart => exact ⟨0, 0, Nat.zero_le _, rfl, rfl⟩
  case round =>
    obtain ⟨k, q, hk, rfl, rfl⟩ := hrel
    by_cases hlt : k < len
    · obtain ⟨kb, off, rfl, _⟩ := H1.out.addr (by omega)
      obtain ⟨kb2, off2, rfl, _⟩ := H2.out.addr (by omega)
      have c1 : w.cell? ⟨kb, off + k, none⟩ = some (.int .i64 (z k)) := H1.out.cell hlt
      have c2 : w.cell? ⟨kb2, off2 + k, none⟩ = some (.int .i64 (z k)) := H2.out.cell hlt
      go_wp2
      go_quiet (fail)
      go_wp2
      go_roundw
      case rel => exact ⟨k + 1, q + nq, by omega, by go_num, rfl⟩
      case measure => simp [intOf]; omega
    · go_wp2
      go_returns
      exact ⟨rfl, q, rfl⟩

end Go.Proofs.Ytadjdpoplaknkaa
