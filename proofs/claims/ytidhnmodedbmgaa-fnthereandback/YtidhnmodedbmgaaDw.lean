/- The draw of what Convert is asked for. -/
import Derived.Test.YtidhnmodedbmgaaDs
import Derived.Test.YtidhnmodedbmgaaAm
import Derived.Test.YtidhnmodedbmgaaDe
namespace Go.Proofs.Ytidhnmodedbmgaa
open Go.ChangeShapes Go.WideShapes Go.ChangeAt Go.RowKit
set_option linter.unusedVariables false
set_option linter.unusedSimpArgs false

def DwPost (w : World) (e : Ending) (w' : World) : Prop := ∃ (g n cap : Nat) (r : Nat → R4) (m a p q d : Int), e = .returned (.tuple #[.slice (some ⟨g, 0, none⟩) n cap, .int .i64 m, .int .i64 a, .int .i64 p, .int .i64 q, .int .i64 d]) ∧ n ≤ 12 ∧ RR w' (some ⟨g, 0, none⟩) n r ∧ Below w.heap.size w w'
theorem dwp {g n cap : Nat} {w w' : World} {r : Nat → R4} {m a p q d : Int} (h1 : n ≤ 12) (h2 : RR w' (some ⟨g, 0, none⟩) n r) (h3 : Below w.heap.size w w') : DwPost w (.returned (.tuple #[.slice (some ⟨g, 0, none⟩) n cap, .int .i64 m, .int .i64 a, .int .i64 p, .int .i64 q, .int .i64 d])) w' := ⟨g, n, cap, r, m, a, p, q, d, rfl, h1, h2, h3⟩

set_option maxRecDepth 20000 in
set_option maxHeartbeats 2000000 in
theorem drawConvert_any (ad : Option Addr) (len cap : Nat) (w : World) (hl : len ≤ 9223372036854775000) (hr : ByteRow w w.heap.size ad len) :
    Calls Try.prog 11 #[.slice ad len cap] w fun e w' => DwPost w e w' := by
  have HR : Hid (ByteRow w w.heap.size ad len) := hr
  have tk1 : True := trivial
  have tk2 : True := trivial
  have tk3 : True := trivial
  have tk4 : True := trivial
  clear hr
  go_enter Try.func11, Try.ntmps11
  go_wp2_with (first
    | (go_at_call 32; refine (new_any _ _ _ _ hl HR.out).mono ?_; rintro e w1 ⟨rfl, c1, b1⟩; have C1 : Hid (Cursor w1 w.heap.size) := c1; have B1 : Hid (Below w.heap.size w w1) := b1; clear c1 b1)
    | (go_at_call 33; have := tk1; clear tk1; refine (below_any _ _ _ C1.out).mono ?_; rintro e w2 ⟨x, rfl, x0, x1, _, m2⟩; have x2 := x1 (by decide); have C2 : Hid (Cursor w2 w.heap.size) := m2.1; have B2 : Hid (Below w.heap.size w w2) := B1.out.trans (m2.2.below (Nat.le_refl _) B1.out.size); clear m2 x1; obtain ⟨m, hm⟩ : ∃ m, 2 + x = m := ⟨_, rfl⟩)
    | (go_at_call 35; refine (drawRates_any _ m _ C2.out (by omega) (by omega)).mono ?_; rintro e w3 ⟨g0, n0, cap0, rfl, hn0, _, ho3, m3⟩; have C3 : Hid (Cursor w3 w.heap.size) := m3.1; have O3 : Hid (OWN w3 w.heap.size g0 n0 cap0) := ho3; have B3 : Hid (Below w.heap.size w w3) := B2.out.trans (m3.2.below (Nat.le_refl _) B2.out.size); clear m3 ho3)
    | (go_at_call 34; refine (spoilRates_any _ _ _ _ _ C3.out O3.out hn0).mono ?_; rintro e w4 ⟨g, n, cp, rfl, hn, ho4, c4, b4⟩; have S4 : Hid (Sp w w.heap.size g n cp w4) := ⟨ho4, c4, B3.out.trans b4⟩; clear ho4 c4 b4)
    | (go_at_call 37; refine (amount_any _ _ S4.out.cur).mono ?_; rintro e w5 ⟨a0, rfl, m5⟩; have S5 : Hid (Sp w w.heap.size g n cp w5) := S4.out.moved m5; clear m5)
    | (go_at_call 36; refine (badMoney_any _ _ _ S5.out.cur).mono ?_; rintro e w6 ⟨a1, rfl, m6⟩; have S6 : Hid (Sp w w.heap.size g n cp w6) := S5.out.moved m6; clear m6)
    | (go_at_call 33; have := tk2; clear tk2; refine (below_any _ _ _ S6.out.cur).mono ?_; rintro e w7 ⟨y1, rfl, _, _, _, m7⟩; have S7 : Hid (Sp w w.heap.size g n cp w7) := S6.out.moved m7; clear m7)
    | (go_at_call 38; have := tk3; clear tk3; refine (spoil_any _ _ _ [-1, m] 2 2 _ (S7.out.alloc _).cur (IntRow.made S7.out.cur.lt _ _ _ rfl) rfl (by decide) (by decide)).mono ?_; rintro e w8 ⟨y2, rfl, _, m8⟩; have S8 : Hid (Sp w w.heap.size g n cp w8) := (S7.out.alloc _).moved m8; clear m8)
    | (go_at_call 33; have := tk4; clear tk4; refine (below_any _ _ _ S8.out.cur).mono ?_; rintro e w9 ⟨y3, rfl, _, _, _, m9⟩; have S9 : Hid (Sp w w.heap.size g n cp w9) := S8.out.moved m9; clear m9)
    | (go_at_call 38; refine (spoil_any _ _ _ [-1, m] 2 2 _ (S9.out.alloc _).cur (IntRow.made S9.out.cur.lt _ _ _ rfl) rfl (by decide) (by decide)).mono ?_; rintro e wa ⟨y4, rfl, _, ma⟩; have Sa : Hid (Sp w w.heap.size g n cp wa) := (S9.out.alloc _).moved ma; clear ma)
    | (go_at_call 33; refine (below_any _ _ _ Sa.out.cur).mono ?_; rintro e wb ⟨y5, rfl, _, _, _, mb⟩; have Sb : Hid (Sp w w.heap.size g n cp wb) := Sa.out.moved mb; clear mb)
    | (go_at_call 39; refine (badDay_any _ _ _ Sb.out.cur).mono ?_; rintro e wc ⟨y6, rfl, mc⟩; have Sc : Hid (Sp w w.heap.size g n cp wc) := Sb.out.moved mc; clear mc))
  obtain ⟨r, hRR⟩ := Sc.out.own.rr
  have HRR : Hid (RR wc (some ⟨g, 0, none⟩) n r) := hRR
  clear hRR
  go_returns
  exact dwp hn HRR.out Sc.out.bel

end Go.Proofs.Ytidhnmodedbmgaa
