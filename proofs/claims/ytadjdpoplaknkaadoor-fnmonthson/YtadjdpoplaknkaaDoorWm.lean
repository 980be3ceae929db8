/- The walk of the law FnMonthsOn over every code. -/
import Derived.Test.YtadjdpoplaknkaaDoorWb
import Derived.Test.YtadjdpoplaknkaaDoorAe
namespace Go.Proofs.YtadjdpoplaknkaaDoor
open Go.ChangeShapes Go.WideShapes Go.ChangeAt Go.RowKit
set_option linter.unusedVariables false
set_option linter.unusedSimpArgs false

set_option maxHeartbeats 4000000 in
theorem monthsOn_walk (ad : Option Addr) (len cap : Nat) (w : World) (hl : (len : Int) ≤ 1048576) (ht : ML w) (hr : ByteRow w w.heap.size ad len) :
    Calls Tryd.prog 4 #[.slice ad len cap] w fun e w' => e = .returned (.bool true) ∧ Below w.heap.size w w' := by
  have HT : Hid (ML w) := ht
  have hp : 0 < w.heap.size := ht.pos
  have HL : Hid ((len : Int) ≤ 1048576) := hl
  have HR : Hid (ByteRow w w.heap.size ad len) := hr
  have a59 := add30
  clear ht hl hr
  go_enter Tryd.func4, Tryd.ntmps4
  have tok1 : True := trivial
  go_wp2_with (first
    | (go_at_call 11; refine (big_f _ _ _ _ HL.out).mono ?_; rintro e w' ⟨rfl, ew⟩; replace ew := ew.symm; subst ew)
    | (go_at_call 17; refine (drawAddMonths_any ad len cap _ (by have := HL.out; omega) HR.out).mono ?_; rintro e w0 ⟨d, n, rfl, b0⟩)
    | (go_at_call 18; clear tok1; refine (implAddMonths_any _ _ _ (HT.out.below b0 hp) (by have := b0.size; omega)).mono ?_; rintro e w1 ⟨rfl, b1⟩; replace b1 := bel_on b0 b1; rw [a59]))
  by_cases h : 0 ≤ addV d n
  · obtain ⟨y, m, dd, Y, M, D, k1, k2, ⟨y0, y1⟩, ⟨m1, m2⟩, ⟨d1, d2⟩, ⟨Y0, Y1⟩, ⟨M1, M2⟩, hn, hD, x0, x1, x2⟩ := add_facts h
    obtain ⟨E, hE⟩ : ∃ E, addV d n = E := ⟨_, rfl⟩
    rw [hE] at k2 h x2 hD
    have kx : dateA (dat d) = .agg #[.int .i64 y, .int .i64 m, .int .i64 dd] := by rw [k1]; rfl
    have ky : dateA (dat E) = .agg #[.int .i64 Y, .int .i64 M, .int .i64 D] := by rw [k2]; rfl
    have hn' : (Y * 12 + M - y * 12 - m == n) = true := by simpa using hn
    have HN : Hid (Y * 12 + M - y * 12 - m = n) := hn
    clear k1 k2 hn
    rcases hD with hD | ⟨hD1, hD2⟩
    · have hD' : (D == dd) = true := by simpa using hD
      clear hD
      have tok2 : True := trivial
      go_wp2_with (first
        | (go_at_call 18; refine (implAddMonths_any _ _ _ (HT.out.below b1 hp) (by have := b1.size; omega)).mono ?_; rintro e w2 ⟨rfl, b2⟩; replace b2 := bel_on b1 b2; rw [hE])
        | (go_at_call 14; clear tok2; refine (implDateOf_any _ _ (HT.out.below b2 hp) (by have := b2.size; omega)).mono ?_; rintro e w3 ⟨rfl, b3⟩; rw [kx]; replace b3 := bel_on b2 b3)
        | (go_at_call 14; refine (implDateOf_any _ _ (HT.out.below (b3.alloc b3.size _) hp) (by simp)).mono ?_; rintro e w4 ⟨rfl, b4⟩; rw [ky]; have X4 : DB w4 w3.heap.size y m dd := DB.below (DB.new y m dd) b4 (by simp); have n0 := fun o => (X4.alloc o).c0; have n1 := fun o => (X4.alloc o).c1; have n2 := fun o => (X4.alloc o).c2; replace b4 := bel_on (b3.alloc b3.size _) b4))
      go_returns
      exact ⟨rfl, b4.alloc b4.size _⟩
    · have hD' : (D == dd) = false := by simpa using (by omega : ¬ D = dd)
      have tok2 : True := trivial
      go_wp2_with (first
        | (go_at_call 18; refine (implAddMonths_any _ _ _ (HT.out.below b1 hp) (by have := b1.size; omega)).mono ?_; rintro e w2 ⟨rfl, b2⟩; replace b2 := bel_on b1 b2; rw [hE])
        | (go_at_call 14; clear tok2; refine (implDateOf_any _ _ (HT.out.below b2 hp) (by have := b2.size; omega)).mono ?_; rintro e w3 ⟨rfl, b3⟩; rw [kx]; replace b3 := bel_on b2 b3)
        | (go_at_call 14; refine (implDateOf_any _ _ (HT.out.below (b3.alloc b3.size _) hp) (by simp)).mono ?_; rintro e w4 ⟨rfl, b4⟩; rw [ky]; have X4 : DB w4 w3.heap.size y m dd := DB.below (DB.new y m dd) b4 (by simp); have n0 := fun o => (X4.alloc o).c0; have n1 := fun o => (X4.alloc o).c1; have n2 := fun o => (X4.alloc o).c2; replace b4 := bel_on (b3.alloc b3.size _) b4)
        | (go_at_call 15; refine (implMonthEnd_any _ _ (HT.out.below (b4.alloc b4.size _) hp) (by simp)).mono ?_; rintro e w5 ⟨rfl, b5⟩; rw [hD2]; replace b5 := bel_on (b4.alloc b4.size _) b5))
      go_returns
      exact ⟨rfl, b5⟩
  · obtain ⟨E, hE⟩ : ∃ E, addV d n = E := ⟨_, rfl⟩
    rw [hE] at h
    have h2 : E < 0 := by omega
    clear h
    go_wp2_with (first
      | (go_at_call 18; refine (implAddMonths_any _ _ _ (HT.out.below b1 hp) (by have := b1.size; omega)).mono ?_; rintro e w2 ⟨rfl, b2⟩; replace b2 := bel_on b1 b2; rw [hE])
      | (go_at_call 19; refine (specAddMonths_any _ _ _).mono ?_; rintro e w3 ⟨rfl, b3⟩; replace b3 := bel_on b2 b3; rw [hE]))
    go_returns
    exact ⟨by simp [h2], b3⟩

end Go.Proofs.YtadjdpoplaknkaaDoor
