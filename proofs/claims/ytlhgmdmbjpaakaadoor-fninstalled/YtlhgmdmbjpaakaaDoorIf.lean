/- What FnInstalled draws, and the plain facts of its sum. -/
import Derived.Test.YtlhgmdmbjpaakaaDoorIe
import Derived.Test.YtlhgmdmbjpaakaaDoorXo
import Derived.Test.YtlhgmdmbjpaakaaDoorXb
import Derived.Test.YtlhgmdmbjpaakaaDoorXg
namespace Go.Proofs.YtlhgmdmbjpaakaaDoor
open Go Go.ChangeShapes Go.WideShapes Go.ChangeAt Go.RowKit
set_option linter.unusedVariables false
set_option linter.unusedSimpArgs false

theorem dat30 : Dt.dat 30 = (2000, 1, 31) := by
  have h := Dt.IsDate.of_sum (y := 2000) (m := 1) (d := 31) (by omega) (by omega) (by omega) (by omega) (by decide)
  have e : Dt.sumV 2000 1 31 = 30 := by decide
  rw [e] at h
  exact Dt.dat_eq h (by omega) (by omega)
theorem add30 (i : Nat) (hi : i < 3) : Dt.addV 30 (i : Int) = if i = 0 then 30 else if i = 1 then 59 else 90 := by
  rw [Dt.addV_in (y := 2000) (m := 1) (d := 31) (by omega) dat30]
  rcases (show i = 0 ∨ i = 1 ∨ i = 2 by omega) with rfl | rfl | rfl <;> decide
theorem one_ok : CtP 100 3 1000 30 := ⟨by omega, by
  show InP 100 3 1000 30
  refine ⟨by omega, by omega, by omega, fun i hi => ?_⟩
  rw [add30 i hi]
  split
  · omega
  · split <;> omega⟩
theorem one_pt0 : ptF 100 3 0 = 34 := by unfold ptF; decide
theorem one_pt1 : ptF 100 3 1 = 33 := by unfold ptF; decide
theorem one_pt2 : ptF 100 3 2 = 33 := by unfold ptF; decide
theorem one_0 : (inF 100 3 1000 30 0).part = 34 ∧ (inF 100 3 1000 30 0).interest = 1 := by
  refine ⟨one_pt0, ?_⟩
  show mdV 100 1000 100000 3 = 1
  have ed : dv (100 * 1000) 100000 3 = 1 := by decide
  rw [(md_in (a := 100) (num := 1000) (den := 100000) (m := 3) (by unfold MdOk; omega) (by rw [ed]; omega) (by rw [ed]; omega)).2, ed]
theorem one_1 : (inF 100 3 1000 30 1).day = 59 := by
  show Dt.addV 30 ((1 : Nat) : Int) = 59
  rw [add30 1 (by omega)]; rfl
theorem one_2 : (inF 100 3 1000 30 2).left = 0 := by
  show 100 - ptF 100 3 0 - ptF 100 3 1 - ptF 100 3 2 = 0
  rw [one_pt0, one_pt1, one_pt2]; rfl
theorem lf_sm (p : Nat → Int) (a : Int) : ∀ n, lfS p a n = a - Sh.sm p n
  | 0 => by show a = a - 0; omega
  | n + 1 => by show lfS p a n - p n = a - (Sh.sm p n + p n); rw [lf_sm p a n]; omega
theorem lf_end {a : Int} {n : Nat} (ha : 1 ≤ a ∧ a ≤ 100000000000) (hn : 1 ≤ n ∧ n ≤ 120) : lfS (ptF a n) a n = 0 := by
  rw [lf_sm]
  have := (Sh.shV_facts (sh_ok ha hn)).1
  unfold ptF
  omega
set_option maxRecDepth 20000 in
theorem big_f (ad : Option Addr) (len cap : Nat) (w : World) (h : (len : Int) ≤ 1048576) :
    Calls Tryd.prog 5 #[.slice ad len cap] w fun e w' => e = .returned (.bool false) ∧ w' = w := by
  have hd : decide ((1048576 : Int) < (len : Int)) = false := decide_eq_false (by omega)
  go_enter Tryd.func5, Tryd.ntmps5
  go_wp2
  go_returns
  exact ⟨rfl, rfl⟩
theorem ByteRow.up {w W : World} {ad : Option Addr} {len : Nat} (H : ByteRow w w.heap.size ad len) (b : Below w.heap.size w W) : ByteRow W W.heap.size ad len := by
  rcases H with h | ⟨k, off, e, h1, h2, h3⟩
  · exact .inl h
  · exact .inr ⟨k, off, e, by have := b.size; omega, by have := b.size; omega, fun j hj => by obtain ⟨c, c0, c1, hc⟩ := h3 j hj; exact ⟨c, c0, c1, by rw [World.cell?_of_block (w := w) (b.block k h2)]; exact hc⟩⟩
set_option maxHeartbeats 1000000 in
theorem drawDay_any (b : Nat) (w : World) (hc : Cursor w b) :
    Calls Tryd.prog 25 #[.pointer (some ⟨b, 0, none⟩)] w fun e w' => ∃ x : Int, e = .returned (.int .i64 x) ∧ Moved b w w' := by
  have M : Hid (Moved b w w) := Moved.refl hc
  have tok1 : True := trivial
  clear hc
  go_enter Tryd.func25, Tryd.ntmps25
  go_wp2_with (first
    | (go_at_call 23; clear tok1; refine (below_any b _ _ M.out.1).mono ?_; rintro e w1 ⟨x, rfl, x0, x1, x2, m1⟩; replace M : Hid (Moved b w w1) := M.out.trans m1; clear m1 x1 x2; rcases (show x = 0 ∨ x = 1 ∨ (¬ x = 0 ∧ ¬ x = 1) by omega) with rfl | rfl | ⟨g0, g1⟩; rotate_left; rotate_left; (have q0 := eq_f g0); (have q1 := eq_f g1); clear g0 g1; rotate_left)
    | (go_at_call 23; refine (below_any b _ _ M.out.1).mono ?_; rintro e w1 ⟨y, rfl, y0, y1, y2, m1⟩; replace M : Hid (Moved b w w1) := M.out.trans m1; clear m1 y1 y2)
    | (go_at_call 48; refine (pick_any b _ [0, 1, 30, 31, 58, 59, 60, 365, 366, 36524, 40000, 39999] _ _ _ (M.out.alloc _).1 (IntRow.made M.out.1.lt _ _ _ rfl) rfl (by decide) (by decide)).mono ?_; rintro e w2 ⟨y, rfl, hy, m2⟩; replace M : Hid (Moved b w w2) := (M.out.alloc _).trans m2; clear m2 hy))
  all_goals
    go_returns
    exact ⟨_, rfl, M.out⟩
/-- What DrawInstalments leaves. -/
def DiP (w : World) (e : Ending) (w' : World) : Prop := ∃ a ct r f : Int, e = .returned (.tuple #[.int .i64 a, .int .i64 ct, .int .i64 r, .int .i64 f]) ∧ Below w.heap.size w w'
set_option maxRecDepth 20000 in
set_option maxHeartbeats 8000000 in
theorem drawInst_any (ad : Option Addr) (len cap : Nat) (w : World) (hl : (len : Int) ≤ 1048576) (hr : ByteRow w w.heap.size ad len) :
    Calls Tryd.prog 7 #[.slice ad len cap] w (DiP w) := by
  have HN : Hid (Calls Tryd.prog 19 #[.slice ad len cap] w fun e w' => e = .returned (.pointer (some ⟨w.heap.size, 0, none⟩)) ∧ Cursor w' w.heap.size ∧ Below w.heap.size w w') := new_any ad len cap w (by omega) hr
  clear hr
  have tok1 : True := trivial
  go_enter Tryd.func7, Tryd.ntmps7
  go_wp2_with (first
    | (go_at_call 19; refine HN.out.mono ?_; rintro e w1 ⟨rfl, c1, b1⟩; have M : Hid (Moved w.heap.size w1 w1) := Moved.refl c1; have HB1 : Hid (Below w.heap.size w w1) := b1; clear c1 b1)
    | (go_at_call 23; refine (below_any w.heap.size _ _ M.out.1).mono ?_; rintro e w2 ⟨x, rfl, x0, x1, x2, m2⟩; have x3 := x1 (by decide); replace M : Hid (Moved w.heap.size w1 w2) := M.out.trans m2; clear m2 x1 x2)
    | (go_at_call 22; clear tok1; refine (spoil_any w.heap.size _ _ [0, 120, 121] _ _ _ (M.out.alloc _).1 (IntRow.made M.out.1.lt _ _ _ rfl) rfl (by decide) (by decide)).mono ?_; rintro e w3 ⟨q, rfl, hq, m3⟩; replace M : Hid (Moved w.heap.size w1 w3) := (M.out.alloc _).trans m3; clear m3 hq)
    | (go_at_call 22; refine (spoil_any w.heap.size _ _ [-1, 100000, 100001] _ _ _ (M.out.alloc _).1 (IntRow.made M.out.1.lt _ _ _ rfl) rfl (by decide) (by decide)).mono ?_; rintro e w4 ⟨b, rfl, hb, m4⟩; replace M : Hid (Moved w.heap.size w1 w4) := (M.out.alloc _).trans m4; clear m4 hb)
    | (go_at_call 21; refine (dAmount_any w.heap.size _ M.out.1).mono ?_; rintro e w5 ⟨t, rfl, t0, t1, m5⟩; replace M : Hid (Moved w.heap.size w1 w5) := M.out.trans m5; clear m5)
    | (go_at_call 20; refine (dBad_any w.heap.size _ _ M.out.1).mono ?_; rintro e w6 ⟨u, rfl, hu, m6⟩; replace M : Hid (Moved w.heap.size w1 w6) := M.out.trans m6; clear m6 hu)
    | (go_at_call 25; refine (drawDay_any w.heap.size _ M.out.1).mono ?_; rintro e w7 ⟨u, rfl, m7⟩; replace M : Hid (Moved w.heap.size w1 w7) := M.out.trans m7; clear m7)
    | (go_at_call 24; refine (badDay_any w.heap.size _ _ M.out.1).mono ?_; rintro e w8 ⟨u, rfl, hu, m8⟩; replace M : Hid (Moved w.heap.size w1 w8) := M.out.trans m8; clear m8 hu))
  go_returns
  exact ⟨_, _, _, _, rfl, moved_below HB1.out M.out⟩
end Go.Proofs.YtlhgmdmbjpaakaaDoor
