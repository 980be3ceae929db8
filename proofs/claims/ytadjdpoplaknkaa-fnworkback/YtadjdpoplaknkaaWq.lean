/- The law FnWorkBack's walk. -/
import Derived.Test.YtadjdpoplaknkaaDaw
import Derived.Test.YtadjdpoplaknkaaWf
import Derived.Test.YtadjdpoplaknkaaWo
import Derived.Test.YtadjdpoplaknkaaAw
import Derived.Test.YtadjdpoplaknkaaAs
import Derived.Test.YtadjdpoplaknkaaCc
import Derived.Test.YtadjdpoplaknkaaBg
namespace Go.Proofs.Ytadjdpoplaknkaa
open Go.ChangeShapes Go.WideShapes Go.ChangeAt Go.RowKit
set_option linter.unusedVariables false
set_option linter.unusedSimpArgs false

set_option maxRecDepth 20000 in
theorem big_f (ad : Option Addr) (len cap : Nat) (w : World) (h : decide ((1048576 : Int) < (len : Int)) = false) :
    Calls Try.prog 10 #[.slice ad len cap] w fun e w' => e = .returned (.bool false) ∧ w' = w := by
  go_enter Try.func10, Try.ntmps10
  go_wp2
  go_returns
  exact ⟨rfl, rfl⟩

theorem work_eq {off : Int} {ad : Option Addr} {len cap : Nat} {z : Nat → Int} {day : Int} {v : Bool} (w : World) (h : (len : Int) ≤ 1048576) (hr : IR w ad len z) (hv : workV off len z day = v) :
    Calls Try.prog 12 #[.agg #[.int .i64 off, .slice ad len cap], .int .i64 day] w fun e w' => e = .returned (.bool v) ∧ Below w.heap.size w w' := hv ▸ implWork_any off ad len cap z day w h hr
theorem add_eq {off : Int} {ad : Option Addr} {len cap : Nat} {z : Nat → Int} {day n x : Int} (w : World) (h : (len : Int) ≤ 1048576) (hr : IR w ad len z) (hv : addW off len z day n = x) :
    Calls Try.prog 13 #[.agg #[.int .i64 off, .slice ad len cap], .int .i64 day, .int .i64 n] w fun e w' => e = .returned (.int .i64 x) ∧ Below w.heap.size w w' := hv ▸ implAdd_any off ad len cap z day n w h hr
theorem sadd_eq {off : Int} {ad : Option Addr} {len cap : Nat} {z : Nat → Int} {day n x : Int} (w : World) (h : (len : Int) ≤ 1048576) (hr : IR w ad len z) (hv : addW off len z day n = x) :
    Calls Try.prog 14 #[.agg #[.int .i64 off, .slice ad len cap], .int .i64 day, .int .i64 n] w fun e w' => e = .returned (.int .i64 x) ∧ Below w.heap.size w w' := hv ▸ specAdd_any off ad len cap z day n w h hr
theorem count_eq {off : Int} {ad : Option Addr} {len cap : Nat} {z : Nat → Int} {a b x : Int} (w : World) (h : (len : Int) ≤ 1048576) (hr : IR w ad len z) (hv : cntV off len z a b = x) :
    Calls Try.prog 15 #[.agg #[.int .i64 off, .slice ad len cap], .int .i64 a, .int .i64 b] w fun e w' => e = .returned (.int .i64 x) ∧ Below w.heap.size w w' := hv ▸ implCount_any off ad len cap z a b w h hr

/-- The box of the law's calendar, its row, and all below. -/
structure Lw (w : World) (X : Nat) (off : Int) (ad : Option Addr) (n cap : Nat) (z : Nat → Int) (W : World) : Prop where
  bel : Below w.heap.size w W
  box : CB W X #[.int .i64 off, .slice ad n cap] 26
  ir : IR W ad n z
theorem Lw.on {w W W' : World} {X n cap : Nat} {off : Int} {ad : Option Addr} {z : Nat → Int} (h : Lw w X off ad n cap z W) (t : Below W.heap.size W W') : Lw w X off ad n cap z W' := ⟨bel_on h.bel t, h.box.below t h.box.lt, h.ir.below t⟩

set_option maxRecDepth 8000 in
set_option maxHeartbeats 2000000 in
theorem work_walk (ba : Option Addr) (len bc : Nat) (w : World) (hl : len ≤ 1048576) (hr : ByteRow w w.heap.size ba len) :
    Calls Try.prog 3 #[.slice ba len bc] w fun e w' => e = .returned (.bool true) ∧ Below w.heap.size w w' := by
  have HR : Hid (ByteRow w w.heap.size ba len) := hr
  have hd : decide ((1048576 : Int) < (len : Int)) = false := decide_eq_false (by omega)
  have hl2 : len ≤ 9223372036854775000 := by omega
  have hz : (((0 : Nat) : Int)) ≤ 1048576 := by omega
  have tk1 : True := trivial
  have tk2 : True := trivial
  clear hr hl
  go_enter Try.func3, Try.ntmps3
  go_wp2_with (first
    | (go_at_call 10; refine (big_f _ _ _ _ hd).mono ?_; rintro e w1 ⟨rfl, ew⟩; replace ew := ew.symm; subst ew)
    | (go_at_call 11; refine (drawAddWork_any _ _ _ _ hl2 HR.out).mono ?_; rintro e w2 ⟨off, ad, n, cap, z, d, k, rfl, hn5, ir2, b2⟩; have hn2 : (n : Int) ≤ 1048576 := (by omega); have L : Hid (Lw w w2.heap.size off ad n cap z (w2.alloc (.cells #[.int .i64 off, .slice ad n cap] 26 (0, 0)))) := ⟨b2.alloc b2.size _, CB.new _ _, ir2.alloc _⟩; clear b2 ir2)
    | (go_at_call 12; have := tk1; clear tk1; refine (work_eq (z := fun _ => 0) _ hz (.inl rfl) (work96 _).1).mono ?_; rintro e w3 ⟨rfl, b3⟩; replace L : Hid (Lw w w2.heap.size off ad n cap z w3) := L.out.on b3; clear b3)
    | (go_at_call 12; have := tk2; clear tk2; refine (work_eq (z := fun _ => 0) _ hz (.inl rfl) (work96 _).2).mono ?_; rintro e w4 ⟨rfl, b4⟩; replace L : Hid (Lw w w2.heap.size off ad n cap z w4) := L.out.on b4; clear b4; have x0 := L.out.box.cell 0; have x1 := L.out.box.cell 1; simp at x0 x1))
  obtain ⟨e, he⟩ : ∃ e, addW off n z d k = e := ⟨_, rfl⟩
  refine (add_eq _ hn2 L.out.ir he).mono ?_
  rintro e' w5 ⟨rfl, b5⟩
  replace L : Hid (Lw w w2.heap.size off ad n cap z w5) := L.out.on b5
  clear b5 x0 x1
  have x0 := L.out.box.cell 0
  have x1 := L.out.box.cell 1
  simp at x0 x1
  by_cases h0 : e < 0
  · go_wp2_with (go_at_call 14; refine (sadd_eq _ hn2 L.out.ir he).mono ?_; rintro e w6 ⟨rfl, b6⟩; replace L : Hid (Lw w w2.heap.size off ad n cap z w6) := L.out.on b6; clear b6)
    go_returns
    exact ⟨by simp [h0], L.out.bel⟩
  · have h1 : 0 ≤ e := by omega
    obtain ⟨f1, ⟨f2, f3⟩, f4, ⟨f5, f6⟩, f7, f8, f9⟩ := back_facts (off := off) (len := n) (z := z) (d := d) (n := k) (by rw [he]; exact h1)
    rw [he] at f1 f4 f7 f8 f9
    rcases (show 0 < k ∨ (k < 0 ∧ 0 < e) ∨ (k < 0 ∧ e = 0) ∨ k = 0 by omega) with g | ⟨g, g2⟩ | ⟨g, g2⟩ | g
    · have c := f7 g
      go_wp2_with (first
        | (go_at_call 12; refine (work_eq _ hn2 L.out.ir f1).mono ?_; rintro e w6 ⟨rfl, b6⟩; replace L : Hid (Lw w w2.heap.size off ad n cap z w6) := L.out.on b6; clear b6 x0 x1; have x0 := L.out.box.cell 0; have x1 := L.out.box.cell 1; simp at x0 x1)
        | (go_at_call 15; refine (count_eq _ hn2 L.out.ir c).mono ?_; rintro e w7 ⟨rfl, b7⟩; replace L : Hid (Lw w w2.heap.size off ad n cap z w7) := L.out.on b7; clear b7))
      go_returns
      exact ⟨by simp, L.out.bel⟩
    · have c := f8 g g2
      go_wp2_with (first
        | (go_at_call 12; refine (work_eq _ hn2 L.out.ir f1).mono ?_; rintro e w6 ⟨rfl, b6⟩; replace L : Hid (Lw w w2.heap.size off ad n cap z w6) := L.out.on b6; clear b6 x0 x1; have x0 := L.out.box.cell 0; have x1 := L.out.box.cell 1; simp at x0 x1)
        | (go_at_call 15; refine (count_eq _ hn2 L.out.ir c).mono ?_; rintro e w7 ⟨rfl, b7⟩; replace L : Hid (Lw w w2.heap.size off ad n cap z w7) := L.out.on b7; clear b7))
      all_goals go_returns
      all_goals exact ⟨by simp, L.out.bel⟩
    · subst g2
      obtain ⟨cc, hc⟩ : ∃ c, cntV off n z (0 - 1) (d - 1) = c := ⟨_, rfl⟩
      simp only [Int.zero_sub] at hc
      go_wp2_with (first
        | (go_at_call 12; refine (work_eq _ hn2 L.out.ir f1).mono ?_; rintro e w6 ⟨rfl, b6⟩; replace L : Hid (Lw w w2.heap.size off ad n cap z w6) := L.out.on b6; clear b6 x0 x1; have x0 := L.out.box.cell 0; have x1 := L.out.box.cell 1; simp at x0 x1)
        | (go_at_call 15; refine (count_eq _ hn2 L.out.ir hc).mono ?_; rintro e w7 ⟨rfl, b7⟩; replace L : Hid (Lw w w2.heap.size off ad n cap z w7) := L.out.on b7; clear b7))
      all_goals go_returns
      all_goals exact ⟨by simp, L.out.bel⟩
    · subst g
      have c := f9 rfl
      go_wp2_with (go_at_call 12; refine (work_eq _ hn2 L.out.ir f1).mono ?_; rintro e w6 ⟨rfl, b6⟩; replace L : Hid (Lw w w2.heap.size off ad n cap z w6) := L.out.on b6; clear b6)
      go_returns
      exact ⟨by simp, L.out.bel⟩

end Go.Proofs.Ytadjdpoplaknkaa
