/- Coins: what the law asks of Cash, and the law's walk. -/
import Derived.Test.YtidhnmodedbmgaaCa
import Derived.Test.YtidhnmodedbmgaaRm
import Derived.Test.YtidhnmodedbmgaaDk
import Derived.Test.YtidhnmodedbmgaaBg
namespace Go.Proofs.Ytidhnmodedbmgaa
open Go.ChangeShapes Go.WideShapes Go.ChangeAt Go.RowKit
set_option linter.unusedVariables false
set_option linter.unusedSimpArgs false

theorem bdQ {n : Nat} {A W : World} (h : Below n A W) (q : Nat) : Below n A (W.drewN q) := ⟨h.os, h.tape, h.output, h.size, h.block⟩
set_option maxRecDepth 20000 in
theorem big_f (ad : Option Addr) (len cap : Nat) (w : World) (h : decide ((1048576 : Int) < (len : Int)) = false) :
    Calls Try.prog 10 #[.slice ad len cap] w fun e w' => e = .returned (.bool false) ∧ w' = w := by
  go_enter Try.func10, Try.ntmps10
  go_wp2
  go_returns
  exact ⟨rfl, rfl⟩

def absI (x : Int) : Int := if 0 ≤ x then x else -x
theorem abs_eq {x y : Int} (w : World) (h1 : -9223372036854775000 ≤ x) (hy : absI x = y) : Calls Try.prog 15 #[.int .i64 x] w fun e w' => e = .returned (.int .i64 y) ∧ w' = w := by
  by_cases h : 0 ≤ x
  · have : y = x := by rw [← hy]; unfold absI; rw [if_pos h]
    subst this
    go_enter Try.func15, Try.ntmps15
    go_wp2
    go_returns
    exact ⟨rfl, rfl⟩
  · have : y = -x := by rw [← hy]; unfold absI; rw [if_neg h]
    subst this
    have h2 : x < 0 := by omega
    go_enter Try.func15, Try.ntmps15
    go_wp2
    go_returns
    exact ⟨rfl, rfl⟩

theorem coin {a q : Int} (h : rtB a q 3 = true) : 1 ≤ q ∧ q ≤ 10000000 ∧ (rtV a q 3).tmod q = 0 ∧ 2 * absI (rtV a q 3 - a) ≤ q ∧ 0 ≤ absI (rtV a q 3 - a) := by
  have hok : RtOk a q 3 := by
    by_cases g : RtOk a q 3
    · exact g
    · rw [(rt_bad g).1] at h; cases h
  have R := rt_ok hok
  have hb := rt_bounds h
  rw [R.1] at h
  unfold amB at h
  simp at h
  have e : rtV a q 3 = dv a q 3 * q := by rw [R.2]; unfold am; rw [if_pos h]
  unfold RtOk at hok
  obtain ⟨t, ht⟩ : ∃ t, dv a q 3 * q = t := ⟨_, rfl⟩
  have nr := near3 a q t hok.2.2.1 ht
  refine ⟨hok.2.2.1, hok.2.2.2.1, ?_, ?_, ?_⟩
  · rw [e]; exact Int.tmod_eq_zero_of_dvd (Int.dvd_mul_left (dv a q 3) q)
  · rw [e, ht]; unfold absI; split <;> omega
  · unfold absI; split <;> omega

theorem implCash_eq {s : ByteArray} {p q a v o : Int} {ok : Bool} (w : World) (hs : s.size ≤ maxLen) (h1 : cashV s p q a = v) (h2 : cashO s p q a = o) (h3 : cashB s p q a = ok) :
    Calls Try.prog 17 #[.agg #[.string s, .int .i64 p, .int .i64 q], .int .i64 a] w fun e w' => e = .returned (.tuple #[.int .i64 v, .int .i64 o, .bool ok]) ∧ Below w.heap.size w w' := by
  subst h1 h2 h3; exact implCash_any s p q a w hs

theorem five : cashV { data := #[99] } 0 5 13 = 15 ∧ cashO { data := #[99] } 0 5 13 = 2 ∧ cashB { data := #[99] } 0 5 13 = true := by
  have h3 : cashB { data := #[99] } 0 5 13 = true := by decide
  have hv : rtV 13 5 3 = 15 := by decide
  have := cashx h3
  rw [hv] at this
  exact ⟨this.1, this.2, h3⟩

set_option maxRecDepth 8000 in
set_option maxHeartbeats 2000000 in
theorem coins_walk (ad : Option Addr) (len cap : Nat) (w : World) (hl : len ≤ 1048576) (hr : ByteRow w w.heap.size ad len) :
    Calls Try.prog 4 #[.slice ad len cap] w fun e w' => e = .returned (.bool true) ∧ Below w.heap.size w w' := by
  have HR : Hid (ByteRow w w.heap.size ad len) := hr
  have hd : decide ((1048576 : Int) < (len : Int)) = false := decide_eq_false (by omega)
  have hl2 : len ≤ 9223372036854775000 := by omega
  have tk1 : True := trivial
  clear hr hl
  go_enter Try.func4, Try.ntmps4
  go_wp2_with (first
    | (go_at_call 10; refine (big_f _ _ _ _ hd).mono ?_; rintro e w1 ⟨rfl, ew⟩; replace ew := ew.symm; subst ew)
    | (go_at_call 16; refine (drawCash_any _ _ _ _ hl2 HR.out).mono ?_; rintro e w2 ⟨s, p, q, a, rfl, hs, b2⟩; have X2 := CB.new (w := w2) #[.string s, .int .i64 p, .int .i64 q] 33; have HB2 : Hid (Below w.heap.size w (w2.alloc (.cells #[.string s, .int .i64 p, .int .i64 q] 33 (0, 0)))) := b2.alloc b2.size _; obtain ⟨v, hv⟩ : ∃ v, cashV s p q a = v := ⟨_, rfl⟩; obtain ⟨o, ho⟩ : ∃ o, cashO s p q a = o := ⟨_, rfl⟩; clear b2; cases hk : cashB s p q a)
    | (go_at_call 17; have := tk1; clear tk1; refine (implCash_eq _ hs hv ho hk).mono ?_; rintro e w3 ⟨rfl, b3⟩; have X3 := X2.below b3 X2.lt; have HB3 : Hid (Below w.heap.size w w3) := bel_on HB2.out b3; clear b3)
    | (go_at_call 17; refine (implCash_eq _ (by decide) five.1 five.2.1 five.2.2).mono ?_; rintro e w4 ⟨rfl, b4⟩; have X4 := X3.below b4 X3.lt; have x2 := X4.cell 2; simp at x2; have HB4 : Hid (Below w.heap.size w w4) := bel_on HB3.out b4; clear b4 X4 X3 X2))
  · go_quiet (fail)
    go_wp2
    go_returns
    exact ⟨rfl, bdQ HB4.out _⟩
  · have hcr : rtB a q 3 = true := by unfold cashB at hk; simp at hk; exact hk.2
    obtain ⟨q1, q2, r1, r2, r3⟩ := coin hcr
    obtain ⟨⟨a1, a2⟩, v1, v2⟩ := rt_bounds hcr
    have ev := cashx hk
    rw [hv, ho] at ev
    rw [← ev.1] at r1 r2 r3 v1 v2
    obtain ⟨y, hy⟩ : ∃ y, absI o = y := ⟨_, rfl⟩
    have eo : o = v - a := by rw [ev.2, ← ev.1]
    rw [← eo, hy] at r2 r3
    have er : (v.tmod q == 0) = true := by simpa using r1
    have ea : a + o = v := by omega
    have o1 : -9223372036854775000 ≤ o := by omega
    have o2 : o ≤ 200000000000 := by omega
    have q0 : (q == 0) = false := by simp; omega
    have hq0 : ¬ q = 0 := by omega
    have wr1 : IntKind.i64.wrap (v.tmod q) = 0 := by rw [r1]; rfl
    have wr2 : IntKind.i64.wrap (2 * y) = 2 * y := IntWalk.i64_in _ (by omega)
    have wr3 : IntKind.i64.wrap (a + o) = v := by rw [ea]; exact IntWalk.i64_in _ (by omega)
    have t1 : decide (2 * y ≤ q) = true := decide_eq_true r2
    have t2 : (v == v) = true := by simp
    clear ev hcr hk eo
    go_quiet ((go_at_call 15; refine Calls.quiet_of_same (abs_eq _ o1 hy)))
    go_wp2
    go_returns
    exact ⟨rfl, bdQ HB4.out _⟩

end Go.Proofs.Ytidhnmodedbmgaa
