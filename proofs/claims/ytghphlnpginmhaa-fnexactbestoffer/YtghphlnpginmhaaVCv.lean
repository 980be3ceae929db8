/- Convert in the program and in the model: both tell 'cv'. -/
import Derived.Test.YtghphlnpginmhaaVGc
import Derived.Test.YtghphlnpginmhaaMm
import Derived.Test.YtghphlnpginmhaaMj
namespace Go.Proofs.Ytghphlnpginmhaa.Rt
open Go.ChangeShapes Go.WideShapes Go.ChangeAt Go.RowKit
set_option linter.unusedVariables false
set_option linter.unusedSimpArgs false
def cv (o1 o2 : Option (Int × Int)) (a p q : Int) : Option Int :=
  match o1, o2 with
  | some v1, some v2 => if inB a (-100000000000) 100000000000 = true then (if p = q then some a else if mdB a v1.1 v1.2 3 = true then (if mdB (mdV a v1.1 v1.2 3) v2.2 v2.1 3 = true then some (mdV (mdV a v1.1 v1.2 3) v2.2 v2.1 3) else none) else none) else none
  | _, _ => none
def cN : Option Int → Int | some v => v | none => 0
def cB : Option Int → Bool | some _ => true | none => false
theorem cv_n1 {o2 : Option (Int × Int)} {a p q : Int} : cv none o2 a p q = none := rfl
theorem cv_n2 {o1 : Option (Int × Int)} {a p q : Int} : cv o1 none a p q = none := by cases o1 <;> rfl
theorem cv_amt {v1 v2 : Int × Int} {a p q : Int} (h : inB a (-100000000000) 100000000000 = false) : cv (some v1) (some v2) a p q = none := by simp [cv, h]
theorem cv_same {v1 v2 : Int × Int} {a p q : Int} (h : inB a (-100000000000) 100000000000 = true) (e : p = q) : cv (some v1) (some v2) a p q = some a := by simp [cv, h, e]
theorem cv_bad {v1 v2 : Int × Int} {a p q : Int} (h : inB a (-100000000000) 100000000000 = true) (e : p ≠ q) (h1 : mdB a v1.1 v1.2 3 = false) : cv (some v1) (some v2) a p q = none := by simp [cv, h, e, h1]
theorem cv_end {v1 v2 : Int × Int} {a p q x : Int} (h : inB a (-100000000000) 100000000000 = true) (e : p ≠ q) (h1 : mdB a v1.1 v1.2 3 = true) (hx : mdV a v1.1 v1.2 3 = x) : cN (cv (some v1) (some v2) a p q) = mdV x v2.2 v2.1 3 ∧ cB (cv (some v1) (some v2) a p q) = mdB x v2.2 v2.1 3 := by
  cases h2 : mdB x v2.2 v2.1 3
  · have : cv (some v1) (some v2) a p q = none := by simp [cv, h, e, h1, hx, h2]
    rw [this]; refine ⟨?_, rfl⟩
    unfold mdV; rw [h2]; rfl
  · have : cv (some v1) (some v2) a p q = some (mdV x v2.2 v2.1 3) := by simp [cv, h, e, h1, hx, h2]
    rw [this]; exact ⟨rfl, rfl⟩
theorem dv_one (a m : Int) : dv a 1 m = a := by
  obtain ⟨c0, c1, cp, cn⟩ := cut_facts a 1 (by omega)
  have hr : cr a 1 = 0 := by omega
  have hd : a.tdiv 1 = a := Int.tdiv_one a
  unfold dv; rw [hr, hd]; simp [rnd, fur]
theorem md_11 {a : Int} (h : inB a (-100000000000) 100000000000 = true) : mdB a 1 1 3 = true ∧ mdV a 1 1 3 = a := by
  have g := inB_iff.1 h
  have e : dv (a * 1) 1 3 = a := by rw [Int.mul_one, dv_one]
  have := @md_in a 1 1 3 (by unfold MdOk; omega) (by rw [e]; omega) (by rw [e]; omega)
  rw [e] at this; exact this
theorem md_amt {a n d : Int} (h : mdB a n d 3 = true) : inB (mdV a n d 3) (-100000000000) 100000000000 = true := by
  have e : mdV a n d 3 = dv (a * n) d 3 := by unfold mdV; rw [if_pos h]
  unfold mdB at h; simp at h
  rw [e]; exact inB_t h.2.1 h.2.2
theorem rateO_zero {m : Int} {len : Nat} {r : Nat → R4} {d : Int} {v : Int × Int} (h : rateO m len r 0 d = some v) : v = (1, 1) := by
  unfold rateO at h
  split at h
  · simp at h; exact h.symm
  · cases h
theorem ret_c {o : Option Int} {v : Int} {c : Bool} (h1 : v = cN o) (h2 : c = cB o) : Ending.returned (.tuple #[.int .i64 v, .bool c]) = .returned (.tuple #[.int .i64 (cN o), .bool (cB o)]) := by rw [h1, h2]
theorem grown_of {w w' : World} (t : Below w.heap.size w w') : w.grownBy w' none := ⟨t.os, t.tape, t.output, t.size, fun k hk _ => t.block k hk⟩
theorem GT.below {P : Program} {w w' : World} {B n : Nat} {F : Int → Value} {L : Int → List R4} (h : GT P w B n F L) (t : Below w.heap.size w w') : GT P w' B n F L :=
  ⟨h.1.kept (grown_of t) (by simp), fun p => (h.2.1 p).kept (grown_of t) (by cases (F p).ownBlock <;> simp), h.2.2⟩
theorem into_any (a b c x y : Int) (w : World) : Calls Try.prog 127 #[.agg #[.int .i64 a, .int .i64 b, .int .i64 c, .int .i64 x], .int .i64 y] w fun e w' => e = .returned (.tuple #[.int .i64 (mdV y c x 3), .bool (mdB y c x 3)]) ∧ Below w.heap.size w w' := by
  have hB0 : Below w.heap.size w (w.alloc (.cells #[.int .i64 a, .int .i64 b, .int .i64 c, .int .i64 x] 144 (0, 0))) := (Below.refl _ _).alloc (Nat.le_refl _) _
  go_enter Try.func127, Try.ntmps127
  go_wp2_with (go_at_call 117; refine (implMulDiv_any _ _ _ _ _).mono ?_; rintro e w1 ⟨rfl, b1⟩; replace b1 := bel_on hB0 b1)
  go_returns
  exact ⟨rfl, b1⟩
theorem out_any (a b c x y : Int) (w : World) : Calls Try.prog 128 #[.agg #[.int .i64 a, .int .i64 b, .int .i64 c, .int .i64 x], .int .i64 y] w fun e w' => e = .returned (.tuple #[.int .i64 (mdV y x c 3), .bool (mdB y x c 3)]) ∧ Below w.heap.size w w' := by
  have hB0 : Below w.heap.size w (w.alloc (.cells #[.int .i64 a, .int .i64 b, .int .i64 c, .int .i64 x] 144 (0, 0))) := (Below.refl _ _).alloc (Nat.le_refl _) _
  go_enter Try.func128, Try.ntmps128
  go_wp2_with (go_at_call 117; refine (implMulDiv_any _ _ _ _ _).mono ?_; rintro e w1 ⟨rfl, b1⟩; replace b1 := bel_on hB0 b1)
  go_returns
  exact ⟨rfl, b1⟩
theorem into_eq {a b c x y z : Int} {v : Bool} (w : World) (h1 : mdV y c x 3 = z) (h2 : mdB y c x 3 = v) : Calls Try.prog 127 #[.agg #[.int .i64 a, .int .i64 b, .int .i64 c, .int .i64 x], .int .i64 y] w fun e w' => e = .returned (.tuple #[.int .i64 z, .bool v]) ∧ Below w.heap.size w w' := by
  subst h1 h2; exact into_any a b c x y w
theorem isAmt_eq {x : Int} {v : Bool} (w : World) (h : inB x (-100000000000) 100000000000 = v) : Calls Try.prog 114 #[.int .i64 x] w fun e w' => e = .returned (.bool v) ∧ w' = w := h ▸ isAmount_any x w
theorem l1Amt_eq {x : Int} {v : Bool} (w : World) (h : inB x (-100000000000) 100000000000 = v) : Calls Try.prog 82 #[.int .i64 x] w fun e w' => e = .returned (.bool v) ∧ w' = w := h ▸ l1Amount_any x w
theorem at_some (m p d c x : Int) (B len : Nat) (F : Int → Value) (r : Nat → R4) (w : World) (hv : ratesB m len r = true) (hG : GT Try.prog w B len F (fun q => tabL q (rl len r))) (ho : rateO m len r p d = some (c, x)) :
    Calls Try.prog 126 #[.agg #[.int .i64 m, .map (some B)], .int .i64 p, .int .i64 d] w fun e w' => (∃ a b : Int, e = .returned (.tuple #[.agg #[.int .i64 a, .int .i64 b, .int .i64 c, .int .i64 x], .bool true])) ∧ Below w.heap.size w w' := by
  refine (at_ok m p d B len F r w hv hG).mono ?_
  rintro e w' ⟨⟨a, b, c', x', ok, rfl, hT⟩, hb⟩
  rw [ho] at hT
  rcases hT with ⟨h1, rfl⟩ | ⟨h1, _⟩
  · simp only [Option.some.injEq, Prod.mk.injEq] at h1
    obtain ⟨rfl, rfl⟩ := h1
    exact ⟨⟨a, b, rfl⟩, hb⟩
  · cases h1
theorem at_nn (m p d : Int) (B len : Nat) (F : Int → Value) (r : Nat → R4) (w : World) (hv : ratesB m len r = true) (hG : GT Try.prog w B len F (fun q => tabL q (rl len r))) (ho : rateO m len r p d = none) :
    Calls Try.prog 126 #[.agg #[.int .i64 m, .map (some B)], .int .i64 p, .int .i64 d] w fun e w' => (∃ a b c x : Int, e = .returned (.tuple #[.agg #[.int .i64 a, .int .i64 b, .int .i64 c, .int .i64 x], .bool false])) ∧ Below w.heap.size w w' := by
  refine (at_ok m p d B len F r w hv hG).mono ?_
  rintro e w' ⟨⟨a, b, c', x', ok, rfl, hT⟩, hb⟩
  rw [ho] at hT
  rcases hT with ⟨h1, rfl⟩ | ⟨h1, rfl, rfl, rfl⟩
  · cases h1
  · exact ⟨⟨a, b, 0, 0, rfl⟩, hb⟩
end Go.Proofs.Ytghphlnpginmhaa.Rt
