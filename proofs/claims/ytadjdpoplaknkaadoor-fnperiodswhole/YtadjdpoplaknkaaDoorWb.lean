/- The walk of the law FnDatesBack over every code. -/
import Derived.Test.YtadjdpoplaknkaaDoorDr
import Derived.Test.YtadjdpoplaknkaaDoorDv
import Derived.Test.YtadjdpoplaknkaaDoorBg
import Derived.Test.YtadjdpoplaknkaaDoorFr
namespace Go.Proofs.YtadjdpoplaknkaaDoor
open Go.ChangeShapes Go.WideShapes Go.ChangeAt Go.RowKit
set_option linter.unusedVariables false
set_option linter.unusedSimpArgs false

theorem pos_on {A W : World} (h : Below A.heap.size A W) (hp : 0 < A.heap.size) : 0 < W.heap.size := Nat.lt_of_lt_of_le hp h.size

theorem big_f (ad : Option Addr) (len cap : Nat) (w : World) (h : (len : Int) ≤ 1048576) :
    Calls Tryd.prog 11 #[.slice ad len cap] w fun e w' => e = .returned (.bool false) ∧ w' = w := by
  go_enter Tryd.func11, Tryd.ntmps11
  go_wp2
  go_returns
  exact ⟨ret_bool (by simp; omega), rfl⟩

set_option maxHeartbeats 4000000 in
theorem datesBack_walk (ad : Option Addr) (len cap : Nat) (w : World) (hl : (len : Int) ≤ 1048576) (ht : ML w) (hr : ByteRow w w.heap.size ad len) :
    Calls Tryd.prog 3 #[.slice ad len cap] w fun e w' => e = .returned (.bool true) ∧ Below w.heap.size w w' := by
  have HT : Hid (ML w) := ht
  have hp : 0 < w.heap.size := ht.pos
  have HL : Hid ((len : Int) ≤ 1048576) := hl
  have HR : Hid (ByteRow w w.heap.size ad len) := hr
  have d60 := day60
  clear ht hl hr
  go_enter Tryd.func3, Tryd.ntmps3
  go_wp2_with (first
    | (go_at_call 11; refine (big_f _ _ _ _ HL.out).mono ?_; rintro e w' ⟨rfl, ew⟩; replace ew := ew.symm; subst ew)
    | (go_at_call 12; refine (drawDateOf_any ad len cap _ (by have := HL.out; omega) HR.out).mono ?_; rintro e w0 ⟨d, rfl, hd, b0⟩))
  have hd64 := hd.in64
  clear hd
  by_cases h : 0 ≤ d ∧ d < 39960
  · obtain ⟨h0, h1⟩ := h
    obtain ⟨y, m, dd, k1, k2, y0, y1, m1, m2, d1, d2⟩ := dat_open h0 (by omega)
    obtain ⟨E, y2, mm2, e1, e2, e3, e4, e5, e6, e7⟩ := mend_facts h0 h1 k1
    have kE : dateA (dat E) = .agg #[.int .i64 y, .int .i64 m, .int .i64 (md y m)] := by rw [e5]; rfl
    have kN : dateA (dat (E + 1)) = .agg #[.int .i64 y2, .int .i64 mm2, .int .i64 1] := by rw [e6]; rfl
    have wk : ((d + 1 + 5) % 7 == ((d + 5) % 7 + 1).tmod 7) = true := by rw [Int.tmod_eq_emod_of_nonneg (by omega)]; simp; omega
    have hf1 := fld1
    have u1 : IntKind.i64.wrap (d + 1) = d + 1 := IntWalk.i64_in _ (by omega)
    have u2 : IntKind.i64.wrap (d + 31) = d + 31 := IntWalk.i64_in _ (by omega)
    have u3 : IntKind.i64.wrap ((d + 5) % 7 + 1) = (d + 5) % 7 + 1 := IntWalk.i64_in _ (by omega)
    have tok1 : True := trivial
    clear k1 e5 e6 d2
    go_wp2_with (first
    | (go_at_call 13; refine (implDayOf_any _ _ _ _ (HT.out.below b0 hp) (by have := b0.size; omega)).mono ?_; rintro e w1 ⟨rfl, b1⟩; replace b1 := bel_on b0 b1; rw [d60])
    | (go_at_call 14; clear tok1; refine (implDateOf_any _ _ (HT.out.below b1 hp) (by have := b1.size; omega)).mono ?_; rintro e w2 ⟨rfl, b2⟩; replace b2 := bel_on b1 b2; rw [k2])
    | (go_at_call 15; refine (implMonthEnd_any _ _ (HT.out.below (b2.alloc b2.size _) hp) (by simp)).mono ?_; rintro e w3 ⟨rfl, b3⟩; rw [e1]; have X3 : DB w3 w2.heap.size y m dd := DB.below (DB.new y m dd) b3 (by simp); replace b3 := bel_on (b2.alloc b2.size _) b3)
    | (go_at_call 14; refine (implDateOf_any _ _ (HT.out.below b3 hp) (by have := b3.size; omega)).mono ?_; rintro e w4 ⟨rfl, b4⟩; rw [kN]; have X4 : DB w4 w2.heap.size y m dd := DB.below X3 b4 (DB.lt X3); replace b4 := bel_on b3 b4))
    have n0 : ∀ o, (w4.alloc o).cell? ⟨w2.heap.size, 0, none⟩ = some (.int .i64 y) := fun o => (X4.alloc o).c0
    have n1 : ∀ o, (w4.alloc o).cell? ⟨w2.heap.size, 1, none⟩ = some (.int .i64 m) := fun o => (X4.alloc o).c1
    have n2 : ∀ o, (w4.alloc o).cell? ⟨w2.heap.size, 2, none⟩ = some (.int .i64 dd) := fun o => (X4.alloc o).c2
    have B1 : Below w.heap.size w (w4.alloc (.cells #[.int .i64 y2, .int .i64 mm2, .int .i64 1] 27 (0, 0))).drew := (b4.alloc b4.size _).drew
    have tok2 : True := trivial
    go_region_held3 (fun w' => w'.cell? ⟨w2.heap.size, 0, none⟩ = some (.int .i64 y) ∧ w'.cell? ⟨w2.heap.size, 1, none⟩ = some (.int .i64 m) ∧ w'.cell? ⟨w2.heap.size, 2, none⟩ = some (.int .i64 dd) ∧ w'.cell? ⟨w4.heap.size, 2, none⟩ = some (.int .i64 1) ∧ Below w.heap.size w w')
        (refine ⟨?_, ?_, ?_, ?_, ?_⟩ <;> first | assumption | (simp [*, World.cell?_alloc_some, World.cell?_setCell_far]; done))
        (first
        | (go_at_call 13; refine (implDayOf_any _ _ _ _ (HT.out.below (by assumption) hp) (pos_on (by assumption) hp)).mono ?_; rintro e w5 ⟨rfl, hb5⟩; rw [e7]; have q0 : w5.cell? ⟨w2.heap.size, 0, none⟩ = some (.int .i64 y) := keep_cell hb5 (by simp [*]); have q1 : w5.cell? ⟨w2.heap.size, 1, none⟩ = some (.int .i64 m) := keep_cell hb5 (by simp [*]); have q2 : w5.cell? ⟨w2.heap.size, 2, none⟩ = some (.int .i64 dd) := keep_cell hb5 (by simp [*]); have q3 : w5.cell? ⟨w4.heap.size, 2, none⟩ = some (.int .i64 1) := keep_cell hb5 (by simp [*]); have q4 : Below w.heap.size w w5 := bel_on (by assumption) hb5)
        | (go_at_call 16; refine (implWeekday_in _ _ (by rw [u1]; omega) (by rw [u1]; omega)).mono ?_; rintro e w6 ⟨rfl, rfl⟩)
        | (go_at_call 16; refine (implWeekday_in _ _ (by omega) (by omega)).mono ?_; rintro e w6 ⟨rfl, rfl⟩)
        | (go_at_call 14; refine (implDateOf_any _ _ (HT.out.below (by assumption) hp) (pos_on (by assumption) hp)).mono ?_; rintro e w7 ⟨rfl, hb7⟩; rw [kE]; have q0 : w7.cell? ⟨w2.heap.size, 0, none⟩ = some (.int .i64 y) := keep_cell hb7 (by simp [*]); have q1 : w7.cell? ⟨w2.heap.size, 1, none⟩ = some (.int .i64 m) := keep_cell hb7 (by simp [*]); have q2 : w7.cell? ⟨w2.heap.size, 2, none⟩ = some (.int .i64 dd) := keep_cell hb7 (by simp [*]); have q3 : w7.cell? ⟨w4.heap.size, 2, none⟩ = some (.int .i64 1) := keep_cell hb7 (by simp [*]); have q4 : Below w.heap.size w w7 := bel_on (by assumption) hb7))
    go_wp2
    go_returns
    exact ⟨rfl, q4⟩
  · by_cases h2 : d < 0
    · clear h
      go_wp2_with (go_at_call 13; refine (implDayOf_any _ _ _ _ (HT.out.below b0 hp) (by have := b0.size; omega)).mono ?_; rintro e w1 ⟨rfl, b1⟩; replace b1 := bel_on b0 b1; rw [d60])
      go_returns
      exact ⟨rfl, b1⟩
    · have h3 : 39960 ≤ d := by omega
      clear h h2
      go_wp2_with (go_at_call 13; refine (implDayOf_any _ _ _ _ (HT.out.below b0 hp) (by have := b0.size; omega)).mono ?_; rintro e w1 ⟨rfl, b1⟩; replace b1 := bel_on b0 b1; rw [d60])
      go_returns
      exact ⟨rfl, b1⟩

end Go.Proofs.YtadjdpoplaknkaaDoor
