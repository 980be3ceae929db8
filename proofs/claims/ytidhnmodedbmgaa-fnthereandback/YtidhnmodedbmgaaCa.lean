/- Cash in the program and in the model: both answer 'cashV', 'cashO', 'cashB'. -/
import Derived.Test.YtidhnmodedbmgaaCq
import Derived.Test.YtidhnmodedbmgaaSm
import Derived.Test.YtidhnmodedbmgaaRt
namespace Go.Proofs.Ytidhnmodedbmgaa
open Go.ChangeShapes Go.WideShapes Go.ChangeAt Go.RowKit
set_option linter.unusedVariables false
set_option linter.unusedSimpArgs false

def cashB (s : ByteArray) (p q a : Int) : Bool := curB ⟨s, p, q⟩ && rtB a q 3
def cashV (s : ByteArray) (p q a : Int) : Int := if cashB s p q a = true then rtV a q 3 else 0
def cashO (s : ByteArray) (p q a : Int) : Int := if cashB s p q a = true then rtV a q 3 - a else 0

theorem rt_bounds {a s m : Int} (h : rtB a s m = true) : (-100000000000 ≤ a ∧ a ≤ 100000000000) ∧ -100000000000 ≤ rtV a s m ∧ rtV a s m ≤ 100000000000 := by
  have hok : RtOk a s m := by
    by_cases g : RtOk a s m
    · exact g
    · rw [(rt_bad g).1] at h; cases h
  have R := rt_ok hok
  rw [R.1] at h
  rw [R.2]
  unfold amB at h
  simp at h
  unfold RtOk at hok
  refine ⟨⟨hok.1, hok.2.1⟩, ?_⟩
  unfold am
  rw [if_pos h]
  exact h

theorem cashx {s : ByteArray} {p q a : Int} (h : cashB s p q a = true) : cashV s p q a = rtV a q 3 ∧ cashO s p q a = rtV a q 3 - a := ⟨if_pos h, if_pos h⟩
theorem cashy {s : ByteArray} {p q a : Int} (h : cashB s p q a = false) : cashV s p q a = 0 ∧ cashO s p q a = 0 := by
  constructor
  · unfold cashV; rw [h]; rfl
  · unfold cashO; rw [h]; rfl

theorem isR_eq {s : ByteArray} {p q : Int} {v : Bool} (w : World) (hs : s.size ≤ maxLen) (hv : curB ⟨s, p, q⟩ = v) :
    Calls Try.prog 47 #[.agg #[.string s, .int .i64 p, .int .i64 q]] w fun e w' => e = .returned (.bool v) ∧ Below w.heap.size w w' := hv ▸ isRight_any s p q w hs
theorem l3C_eq {s : ByteArray} {p q : Int} {v : Bool} (w : World) (hs : s.size ≤ maxLen) (hv : curB ⟨s, p, q⟩ = v) :
    Calls Try.prog 50 #[.agg #[.string s, .int .i64 p, .int .i64 q]] w fun e w' => e = .returned (.bool v) ∧ Below w.heap.size w w' := hv ▸ l3Cur_any s p q w hs
theorem implRT_eq {a s m x : Int} {v : Bool} (w : World) (h1 : rtV a s m = x) (h2 : rtB a s m = v) :
    Calls Try.prog 48 #[.int .i64 a, .int .i64 s, .int .i64 m] w fun e w' => e = .returned (.tuple #[.int .i64 x, .bool v]) ∧ Below w.heap.size w w' := by
  subst h1 h2; exact implRoundTo_any a s m w
theorem specRT_eq {a s m x : Int} {v : Bool} (w : World) (h1 : rtV a s m = x) (h2 : rtB a s m = v) :
    Calls Try.prog 59 #[.int .i64 a, .int .i64 s, .int .i64 m] w fun e w' => e = .returned (.tuple #[.int .i64 x, .bool v]) ∧ w' = w := by
  subst h1 h2; exact specRoundTo_any a s m w

theorem ret3 {a b c d : Int} {e f : Bool} (h1 : a = b) (h2 : c = d) (h3 : e = f) : Ending.returned (.tuple #[.int .i64 a, .int .i64 c, .bool e]) = .returned (.tuple #[.int .i64 b, .int .i64 d, .bool f]) := by rw [h1, h2, h3]

set_option maxHeartbeats 1000000 in
theorem implCash_any (s : ByteArray) (p q a : Int) (w : World) (hs : s.size ≤ maxLen) :
    Calls Try.prog 17 #[.agg #[.string s, .int .i64 p, .int .i64 q], .int .i64 a] w fun e w' => e = .returned (.tuple #[.int .i64 (cashV s p q a), .int .i64 (cashO s p q a), .bool (cashB s p q a)]) ∧ Below w.heap.size w w' := by
  have hB0 : Below w.heap.size w (w.alloc (.cells #[.string s, .int .i64 p, .int .i64 q] 33 (0, 0))) := (Below.refl _ _).alloc (Nat.le_refl _) _
  have hC := CB.new (w := w) #[.string s, .int .i64 p, .int .i64 q] 33
  cases hc : curB ⟨s, p, q⟩
  · have hx : cashB s p q a = false := by unfold cashB; rw [hc]; rfl
    have X := cashy hx
    have HX : Hid (cashB s p q a = false) := hx
    have HV : Hid (cashV s p q a = 0 ∧ cashO s p q a = 0) := X
    clear hx X
    go_enter Try.func17, Try.ntmps17
    go_wp2_with (go_at_call 47; refine (isR_eq _ hs hc).mono ?_; rintro e w1 ⟨rfl, b1⟩; replace b1 := bel_on hB0 b1)
    go_returns
    exact ⟨ret3 HV.out.1.symm HV.out.2.symm HX.out.symm, b1⟩
  · cases hr : rtB a q 3
    · have hx : cashB s p q a = false := by unfold cashB; rw [hc, hr]; rfl
      have X := cashy hx
      have HX : Hid (cashB s p q a = false) := hx
      have HV : Hid (cashV s p q a = 0 ∧ cashO s p q a = 0) := X
      have hv : rtV a q 3 = 0 := by unfold rtV; rw [hr]; rfl
      clear hx X
      go_enter Try.func17, Try.ntmps17
      go_wp2_with (first
        | (go_at_call 47; refine (isR_eq _ hs hc).mono ?_; rintro e w1 ⟨rfl, b1⟩; have X1 := hC.below b1 (by simp); have x2 := X1.cell 2; simp at x2; clear X1; replace b1 := bel_on hB0 b1)
        | (go_at_call 48; refine (implRT_eq _ hv hr).mono ?_; rintro e w2 ⟨rfl, b2⟩; replace b2 := bel_on b1 b2))
      go_returns
      exact ⟨ret3 HV.out.1.symm HV.out.2.symm HX.out.symm, b2⟩
    · have hx : cashB s p q a = true := by unfold cashB; rw [hc, hr]; rfl
      have X := cashx hx
      have HX : Hid (cashB s p q a = true) := hx
      obtain ⟨v, hv⟩ : ∃ v, rtV a q 3 = v := ⟨_, rfl⟩
      obtain ⟨⟨k1, k2⟩, k3, k4⟩ := rt_bounds hr
      rw [hv] at X k3 k4
      have HV : Hid (cashV s p q a = v ∧ cashO s p q a = v - a) := X
      clear hx X
      go_enter Try.func17, Try.ntmps17
      go_wp2_with (first
        | (go_at_call 47; refine (isR_eq _ hs hc).mono ?_; rintro e w1 ⟨rfl, b1⟩; have X1 := hC.below b1 (by simp); have x2 := X1.cell 2; simp at x2; clear X1; replace b1 := bel_on hB0 b1)
        | (go_at_call 48; refine (implRT_eq _ hv hr).mono ?_; rintro e w2 ⟨rfl, b2⟩; replace b2 := bel_on b1 b2))
      go_returns
      exact ⟨ret3 HV.out.1.symm HV.out.2.symm HX.out.symm, b2⟩

set_option maxHeartbeats 1000000 in
theorem specCash_any (s : ByteArray) (p q a : Int) (w : World) (hs : s.size ≤ maxLen) :
    Calls Try.prog 30 #[.agg #[.string s, .int .i64 p, .int .i64 q], .int .i64 a] w fun e w' => e = .returned (.tuple #[.int .i64 (cashV s p q a), .int .i64 (cashO s p q a), .bool (cashB s p q a)]) ∧ Below w.heap.size w w' := by
  have hB0 : Below w.heap.size w (w.alloc (.cells #[.string s, .int .i64 p, .int .i64 q] 33 (0, 0))) := (Below.refl _ _).alloc (Nat.le_refl _) _
  cases hc : curB ⟨s, p, q⟩ <;> cases hr : rtB a q 3
  · have hx : cashB s p q a = false := by unfold cashB; rw [hc, hr]; rfl
    have HX : Hid (cashB s p q a = false) := hx
    have HV : Hid (cashV s p q a = 0 ∧ cashO s p q a = 0) := cashy hx
    have hv : rtV a q 3 = 0 := by unfold rtV; rw [hr]; rfl
    clear hx
    go_enter Try.func30, Try.ntmps30
    go_wp2_with (first | (go_at_call 59; refine (specRT_eq _ hv hr).mono ?_; rintro e w2 ⟨rfl, ew⟩; replace ew := ew.symm; subst ew) | (go_at_call 50; refine (l3C_eq _ hs hc).mono ?_; rintro e w1 ⟨rfl, b1⟩; replace b1 := bel_on hB0 b1))
    go_returns
    exact ⟨ret3 HV.out.1.symm HV.out.2.symm HX.out.symm, b1⟩
  · have hx : cashB s p q a = false := by unfold cashB; rw [hc, hr]; rfl
    have HX : Hid (cashB s p q a = false) := hx
    have HV : Hid (cashV s p q a = 0 ∧ cashO s p q a = 0) := cashy hx
    obtain ⟨v, hv⟩ : ∃ v, rtV a q 3 = v := ⟨_, rfl⟩
    clear hx
    go_enter Try.func30, Try.ntmps30
    go_wp2_with (first | (go_at_call 59; refine (specRT_eq _ hv hr).mono ?_; rintro e w2 ⟨rfl, ew⟩; replace ew := ew.symm; subst ew) | (go_at_call 50; refine (l3C_eq _ hs hc).mono ?_; rintro e w1 ⟨rfl, b1⟩; replace b1 := bel_on hB0 b1))
    go_returns
    exact ⟨ret3 HV.out.1.symm HV.out.2.symm HX.out.symm, b1⟩
  · have hx : cashB s p q a = false := by unfold cashB; rw [hc, hr]; rfl
    have HX : Hid (cashB s p q a = false) := hx
    have HV : Hid (cashV s p q a = 0 ∧ cashO s p q a = 0) := cashy hx
    have hv : rtV a q 3 = 0 := by unfold rtV; rw [hr]; rfl
    clear hx
    go_enter Try.func30, Try.ntmps30
    go_wp2_with (first | (go_at_call 59; refine (specRT_eq _ hv hr).mono ?_; rintro e w2 ⟨rfl, ew⟩; replace ew := ew.symm; subst ew) | (go_at_call 50; refine (l3C_eq _ hs hc).mono ?_; rintro e w1 ⟨rfl, b1⟩; replace b1 := bel_on hB0 b1))
    go_returns
    exact ⟨ret3 HV.out.1.symm HV.out.2.symm HX.out.symm, b1⟩
  · have hx : cashB s p q a = true := by unfold cashB; rw [hc, hr]; rfl
    have X := cashx hx
    have HX : Hid (cashB s p q a = true) := hx
    obtain ⟨v, hv⟩ : ∃ v, rtV a q 3 = v := ⟨_, rfl⟩
    obtain ⟨⟨k1, k2⟩, k3, k4⟩ := rt_bounds hr
    rw [hv] at X k3 k4
    have HV : Hid (cashV s p q a = v ∧ cashO s p q a = v - a) := X
    clear hx X
    go_enter Try.func30, Try.ntmps30
    go_wp2_with (first | (go_at_call 59; refine (specRT_eq _ hv hr).mono ?_; rintro e w2 ⟨rfl, ew⟩; replace ew := ew.symm; subst ew) | (go_at_call 50; refine (l3C_eq _ hs hc).mono ?_; rintro e w1 ⟨rfl, b1⟩; replace b1 := bel_on hB0 b1))
    go_returns
    exact ⟨ret3 HV.out.1.symm HV.out.2.symm HX.out.symm, b1⟩

end Go.Proofs.Ytidhnmodedbmgaa
