/- One tax rule: its tests, the kinds of taxes, days within it, two rules that clash; in the program and in the model. -/
import Derived.Test.YtbhghghkgojpgaaTa
namespace Go.Proofs.Ytbhghghkgojpgaa
open Go.ChangeShapes Go.WideShapes Go.ChangeAt Go.RowKit
set_option linter.unusedVariables false
set_option linter.unusedSimpArgs false

theorem hid {P : Prop} (h : P) : Hid P := h
def inB (x lo hi : Int) : Bool := decide (lo ≤ x ∧ x ≤ hi)
theorem inB_t {x lo hi : Int} (h : inB x lo hi = true) : lo ≤ x ∧ x ≤ hi := of_decide_eq_true h
theorem inB_f {x lo hi : Int} (h : inB x lo hi = false) : ¬ (lo ≤ x ∧ x ≤ hi) := of_decide_eq_false h

theorem isDay_any (d : Int) (w : World) : Calls Try.prog 94 #[.int .i64 d] w fun e w' => e = .returned (.bool (inB d 0 40000)) ∧ w' = w := by
  go_enter Try.func94, Try.ntmps94
  go_wp2
  all_goals go_ret
  all_goals exact ⟨ret_bool (by unfold inB; rw [Bool.eq_iff_iff]; simp; try omega), rfl⟩
theorem isRate_any (d : Int) (w : World) : Calls Try.prog 95 #[.int .i64 d] w fun e w' => e = .returned (.bool (inB d 0 1000000)) ∧ w' = w := by
  go_enter Try.func95, Try.ntmps95
  go_wp2
  all_goals go_ret
  all_goals exact ⟨ret_bool (by unfold inB; rw [Bool.eq_iff_iff]; simp; try omega), rfl⟩
theorem l1In_any (x lo hi : Int) (w : World) : Calls Try.prog 56 #[.int .i64 x, .int .i64 lo, .int .i64 hi] w fun e w' => e = .returned (.bool (inB x lo hi)) ∧ w' = w := by
  go_enter Try.func56, Try.ntmps56
  go_wp2
  all_goals go_ret
  all_goals exact ⟨ret_bool (by unfold inB; rw [Bool.eq_iff_iff]; simp; try omega), rfl⟩
theorem l2Day_any (d : Int) (w : World) : Calls Try.prog 60 #[.int .i64 d] w fun e w' => e = .returned (.bool (inB d 0 40000)) ∧ w' = w := by
  go_enter Try.func60, Try.ntmps60
  go_wp2_with (go_at_call 56; refine (l1In_any _ _ _ _).mono ?_; rintro e w' ⟨rfl, rfl⟩)
  all_goals go_ret
  all_goals exact ⟨rfl, rfl⟩

/-- The value of a rule. -/
def T5.val (r : T5) : Value := .agg #[.string r.code, .int .i64 r.fr, .int .i64 r.to, .int .i64 r.rate, .int .i64 r.kind]

def kV (k : Int) : Value := if k = 1 then .iface 144 (.agg #[]) else if k = 2 then .iface 145 (.agg #[]) else if k = 3 then .iface 146 (.agg #[]) else if k = 4 then .iface 147 (.agg #[]) else .nilIface

theorem kind_any (k : Int) (w : World) : Calls Try.prog 82 #[.int .i64 k] w fun e w' => e = .returned (kV k) ∧ w' = w := by
  by_cases h1 : k = 1
  · subst h1
    go_enter Try.func82, Try.ntmps82
    go_wp2
    go_ret
    exact ⟨rfl, rfl⟩
  by_cases h2 : k = 2
  · subst h2
    go_enter Try.func82, Try.ntmps82
    go_wp2
    go_ret
    exact ⟨rfl, rfl⟩
  by_cases h3 : k = 3
  · subst h3
    go_enter Try.func82, Try.ntmps82
    go_wp2
    go_ret
    exact ⟨rfl, rfl⟩
  by_cases h4 : k = 4
  · subst h4
    go_enter Try.func82, Try.ntmps82
    go_wp2
    go_ret
    exact ⟨rfl, rfl⟩
  have e1 := eq_f h1
  have e2 := eq_f h2
  have e3 := eq_f h3
  have e4 := eq_f h4
  have HK : Hid (kV k = .nilIface) := hid (by unfold kV; rw [if_neg h1, if_neg h2, if_neg h3, if_neg h4])
  clear h1 h2 h3 h4
  go_enter Try.func82, Try.ntmps82
  go_wp2
  go_ret
  exact ⟨by rw [HK.out]; rfl, rfl⟩

theorem holdsOn_any (r : T5) (d : Int) (w : World) : Calls Try.prog 97 #[r.val, .int .i64 d] w fun e w' => e = .returned (.bool (inB d r.fr r.to)) ∧ Below w.heap.size w w' := by
  obtain ⟨s, fr, to, ra, ki⟩ := r
  unfold T5.val
  go_enter Try.func97, Try.ntmps97
  go_wp2
  all_goals go_returns
  all_goals exact ⟨ret_bool (by unfold inB; rw [Bool.eq_iff_iff]; simp; try omega), by go_grown⟩

theorem kV_in {k : Int} (h : 1 ≤ k ∧ k ≤ 4) : ∃ t, kV k = .iface t (.agg #[]) := by
  unfold kV
  by_cases h1 : k = 1
  · exact ⟨_, if_pos h1⟩
  by_cases h2 : k = 2
  · exact ⟨_, by rw [if_neg h1, if_pos h2]⟩
  by_cases h3 : k = 3
  · exact ⟨_, by rw [if_neg h1, if_neg h2, if_pos h3]⟩
  have h4 : k = 4 := by omega
  exact ⟨_, by rw [if_neg h1, if_neg h2, if_neg h3, if_pos h4]⟩
theorem kV_out {k : Int} (h : ¬ (1 ≤ k ∧ k ≤ 4)) : kV k = .nilIface := by
  unfold kV; rw [if_neg (by omega), if_neg (by omega), if_neg (by omega), if_neg (by omega)]
theorem kind_in {k : Int} (h : 1 ≤ k ∧ k ≤ 4) (w : World) : Calls Try.prog 82 #[.int .i64 k] w fun e w' => ∃ t, e = .returned (.iface t (.agg #[])) ∧ w' = w := by
  obtain ⟨t, ht⟩ := kV_in h
  refine (kind_any k w).mono ?_
  rintro e w' ⟨rfl, rfl⟩
  exact ⟨t, by rw [ht], rfl⟩
theorem kind_out {k : Int} (h : ¬ (1 ≤ k ∧ k ≤ 4)) (w : World) : Calls Try.prog 82 #[.int .i64 k] w fun e w' => e = .returned .nilIface ∧ w' = w := by
  refine (kind_any k w).mono ?_
  rintro e w' ⟨rfl, rfl⟩
  exact ⟨by rw [kV_out h], rfl⟩

/-- A rule that is right by itself. -/
def rOk (r : T5) : Bool := inB r.kind 1 4 && (nameB r.code && (inB r.fr 0 40000 && (inB r.to 0 40000 && (decide (r.fr ≤ r.to) && inB r.rate 0 1000000))))

set_option maxRecDepth 20000 in
set_option maxHeartbeats 4000000 in
theorem isRight_any (r : T5) (w : World) (hs : r.code.size ≤ maxLen) : Calls Try.prog 62 #[r.val] w fun e w' => e = .returned (.bool (rOk r)) ∧ Below w.heap.size w w' := by
  obtain ⟨s, fr, to, ra, ki⟩ := r
  have HS : Hid (s.size ≤ maxLen) := hs
  clear hs
  unfold T5.val
  cases hkind : inB ki 1 4
  · have HV : Hid (false = rOk ⟨s, fr, to, ra, ki⟩) := hid (by simp [rOk, hkind])
    have HKI : Hid (¬ (1 ≤ ki ∧ ki ≤ 4)) := hid (inB_f hkind)
    go_enter Try.func62, Try.ntmps62
    go_wp2_with (first | (go_at_call 82; refine (kind_out HKI.out _).mono ?_; rintro e w1 ⟨rfl, rfl⟩) | (go_at_call 93; refine (implName_any _ _ HS.out).mono ?_; rintro e w1 ⟨rfl, rfl⟩) | (go_at_call 94; refine (isDay_any _ _).mono ?_; rintro e w1 ⟨rfl, rfl⟩) | (go_at_call 95; refine (isRate_any _ _).mono ?_; rintro e w1 ⟨rfl, rfl⟩))
    go_returns
    exact ⟨ret_bool HV.out, by go_grown⟩
  cases hname : nameB s
  · have HV : Hid (false = rOk ⟨s, fr, to, ra, ki⟩) := hid (by simp [rOk, hkind, hname])
    have HKI : Hid ((1 ≤ ki ∧ ki ≤ 4)) := hid (inB_t hkind)
    go_enter Try.func62, Try.ntmps62
    go_wp2_with (first | (go_at_call 82; refine (kind_in HKI.out _).mono ?_; rintro e w1 ⟨t, rfl, rfl⟩) | (go_at_call 93; refine (implName_any _ _ HS.out).mono ?_; rintro e w1 ⟨rfl, rfl⟩) | (go_at_call 94; refine (isDay_any _ _).mono ?_; rintro e w1 ⟨rfl, rfl⟩) | (go_at_call 95; refine (isRate_any _ _).mono ?_; rintro e w1 ⟨rfl, rfl⟩))
    go_returns
    exact ⟨ret_bool HV.out, by go_grown⟩
  cases hfr : inB fr 0 40000
  · have HV : Hid (false = rOk ⟨s, fr, to, ra, ki⟩) := hid (by simp [rOk, hkind, hname, hfr])
    have HKI : Hid ((1 ≤ ki ∧ ki ≤ 4)) := hid (inB_t hkind)
    go_enter Try.func62, Try.ntmps62
    go_wp2_with (first | (go_at_call 82; refine (kind_in HKI.out _).mono ?_; rintro e w1 ⟨t, rfl, rfl⟩) | (go_at_call 93; refine (implName_any _ _ HS.out).mono ?_; rintro e w1 ⟨rfl, rfl⟩) | (go_at_call 94; refine (isDay_any _ _).mono ?_; rintro e w1 ⟨rfl, rfl⟩) | (go_at_call 95; refine (isRate_any _ _).mono ?_; rintro e w1 ⟨rfl, rfl⟩))
    go_returns
    exact ⟨ret_bool HV.out, by go_grown⟩
  cases hto : inB to 0 40000
  · have HV : Hid (false = rOk ⟨s, fr, to, ra, ki⟩) := hid (by simp [rOk, hkind, hname, hfr, hto])
    have HKI : Hid ((1 ≤ ki ∧ ki ≤ 4)) := hid (inB_t hkind)
    go_enter Try.func62, Try.ntmps62
    go_wp2_with (first | (go_at_call 82; refine (kind_in HKI.out _).mono ?_; rintro e w1 ⟨t, rfl, rfl⟩) | (go_at_call 93; refine (implName_any _ _ HS.out).mono ?_; rintro e w1 ⟨rfl, rfl⟩) | (go_at_call 94; refine (isDay_any _ _).mono ?_; rintro e w1 ⟨rfl, rfl⟩) | (go_at_call 95; refine (isRate_any _ _).mono ?_; rintro e w1 ⟨rfl, rfl⟩))
    go_returns
    exact ⟨ret_bool HV.out, by go_grown⟩
  cases hle : decide (fr ≤ to)
  · have HV : Hid (false = rOk ⟨s, fr, to, ra, ki⟩) := hid (by simp [rOk, hkind, hname, hfr, hto, hle])
    have HKI : Hid ((1 ≤ ki ∧ ki ≤ 4)) := hid (inB_t hkind)
    go_enter Try.func62, Try.ntmps62
    go_wp2_with (first | (go_at_call 82; refine (kind_in HKI.out _).mono ?_; rintro e w1 ⟨t, rfl, rfl⟩) | (go_at_call 93; refine (implName_any _ _ HS.out).mono ?_; rintro e w1 ⟨rfl, rfl⟩) | (go_at_call 94; refine (isDay_any _ _).mono ?_; rintro e w1 ⟨rfl, rfl⟩) | (go_at_call 95; refine (isRate_any _ _).mono ?_; rintro e w1 ⟨rfl, rfl⟩))
    go_returns
    exact ⟨ret_bool HV.out, by go_grown⟩
  cases hrate : inB ra 0 1000000
  · have HV : Hid (false = rOk ⟨s, fr, to, ra, ki⟩) := hid (by simp [rOk, hkind, hname, hfr, hto, hle, hrate])
    have HKI : Hid ((1 ≤ ki ∧ ki ≤ 4)) := hid (inB_t hkind)
    go_enter Try.func62, Try.ntmps62
    go_wp2_with (first | (go_at_call 82; refine (kind_in HKI.out _).mono ?_; rintro e w1 ⟨t, rfl, rfl⟩) | (go_at_call 93; refine (implName_any _ _ HS.out).mono ?_; rintro e w1 ⟨rfl, rfl⟩) | (go_at_call 94; refine (isDay_any _ _).mono ?_; rintro e w1 ⟨rfl, rfl⟩) | (go_at_call 95; refine (isRate_any _ _).mono ?_; rintro e w1 ⟨rfl, rfl⟩))
    go_returns
    exact ⟨ret_bool HV.out, by go_grown⟩
  have HV : Hid (true = rOk ⟨s, fr, to, ra, ki⟩) := hid (by simp [rOk, hkind, hname, hfr, hto, hle, hrate])
  have HKI : Hid ((1 ≤ ki ∧ ki ≤ 4)) := hid (inB_t hkind)
  go_enter Try.func62, Try.ntmps62
  go_wp2_with (first | (go_at_call 82; refine (kind_in HKI.out _).mono ?_; rintro e w1 ⟨t, rfl, rfl⟩) | (go_at_call 93; refine (implName_any _ _ HS.out).mono ?_; rintro e w1 ⟨rfl, rfl⟩) | (go_at_call 94; refine (isDay_any _ _).mono ?_; rintro e w1 ⟨rfl, rfl⟩) | (go_at_call 95; refine (isRate_any _ _).mono ?_; rintro e w1 ⟨rfl, rfl⟩))
  go_returns
  exact ⟨ret_bool HV.out, by go_grown⟩

theorem holdsOn_eq (r : T5) (d : Int) (v : Bool) (w : World) (h : inB d r.fr r.to = v) : Calls Try.prog 97 #[r.val, .int .i64 d] w fun e w' => e = .returned (.bool v) ∧ Below w.heap.size w w' := by
  subst h; exact holdsOn_any r d w
theorem two_bl {w w1 : World} {bs cs : Array Value} {s t : TypeId} (b : Below ((w.alloc (.cells bs s (0, 0))).alloc (.cells cs t (0, 0))).heap.size ((w.alloc (.cells bs s (0, 0))).alloc (.cells cs t (0, 0))) w1) :
    CB w1 w.heap.size bs s ∧ CB w1 (w.heap.size + 1) cs t ∧ Below w.heap.size w w1 := by
  refine ⟨?_, ?_, ?_⟩
  · exact ((CB.new bs s).alloc _).below b (by simp; omega)
  · exact (CB.newAt (by simp) cs t).below b (by simp)
  · exact bel_on (((Below.refl _ _).alloc (Nat.le_refl _) _).alloc (by simp) _) b
theorem lists_t {s t : ByteArray} (h : s = t) : (s.toList == t.toList) = true := by subst h; simp
theorem lists_f {s t : ByteArray} (h : s ≠ t) : (s.toList == t.toList) = false := by
  rw [Bool.eq_false_iff]
  intro g
  simp only [beq_iff_eq, ByteArray.toList_eq] at g
  exact h (by cases s; cases t; simp_all)
def clB (r o : T5) : Bool := decide (r.code = o.code ∧ ((r.fr ≤ o.fr ∧ o.fr ≤ r.to) ∨ (o.fr ≤ r.fr ∧ r.fr ≤ o.to)))

set_option maxRecDepth 20000 in
set_option maxHeartbeats 4000000 in
theorem clashes_any (r o : T5) (w : World) : Calls Try.prog 64 #[r.val, o.val] w fun e w' => e = .returned (.bool (clB r o)) ∧ Below w.heap.size w w' := by
  obtain ⟨s, fr, to, ra, ki⟩ := r
  obtain ⟨s2, fr2, to2, ra2, ki2⟩ := o
  by_cases hc : s = s2
  · subst hc
    cases h1 : inB fr2 fr to
    · cases h2 : inB fr fr2 to2
      · have HV : Hid (false = clB ⟨s, fr, to, ra, ki⟩ ⟨s, fr2, to2, ra2, ki2⟩) := hid (by have := inB_f h1; have := inB_f h2; simp [clB]; omega)
        show Calls Try.prog 64 #[.agg #[.string s, .int .i64 fr, .int .i64 to, .int .i64 ra, .int .i64 ki], .agg #[.string s, .int .i64 fr2, .int .i64 to2, .int .i64 ra2, .int .i64 ki2]] w _
        go_enter Try.func64, Try.ntmps64
        go_wp2_with (go_at_call 97; first | (refine (holdsOn_eq ⟨s, fr, to, ra, ki⟩ fr2 _ _ h1).mono ?_; rintro e w1 ⟨rfl, b1⟩; obtain ⟨C0, C1, B1⟩ := two_bl b1; have k0 := (C0.cell 0).trans rfl; have k1 := (C0.cell 1).trans rfl; have k2 := (C0.cell 2).trans rfl; have k3 := (C0.cell 3).trans rfl; have k4 := (C0.cell 4).trans rfl; have m0 := (C1.cell 0).trans rfl; have m1 := (C1.cell 1).trans rfl; have m2 := (C1.cell 2).trans rfl; have m3 := (C1.cell 3).trans rfl; have m4 := (C1.cell 4).trans rfl; have HB1 : Hid (Below w.heap.size w w1) := hid B1; clear C0 C1 B1 b1; clear h1) | (refine (holdsOn_eq ⟨s, fr2, to2, ra2, ki2⟩ fr _ _ h2).mono ?_; rintro e w2 ⟨rfl, b2⟩; have HB2 : Hid (Below w.heap.size w w2) := hid (bel_on HB1.out b2); clear b2))
        go_returns
        exact ⟨ret_bool HV.out, by first | exact HB2.out | exact HB1.out | go_grown⟩
      · have HV : Hid (true = clB ⟨s, fr, to, ra, ki⟩ ⟨s, fr2, to2, ra2, ki2⟩) := hid (by have := inB_f h1; have := inB_t h2; simp [clB]; omega)
        show Calls Try.prog 64 #[.agg #[.string s, .int .i64 fr, .int .i64 to, .int .i64 ra, .int .i64 ki], .agg #[.string s, .int .i64 fr2, .int .i64 to2, .int .i64 ra2, .int .i64 ki2]] w _
        go_enter Try.func64, Try.ntmps64
        go_wp2_with (go_at_call 97; first | (refine (holdsOn_eq ⟨s, fr, to, ra, ki⟩ fr2 _ _ h1).mono ?_; rintro e w1 ⟨rfl, b1⟩; obtain ⟨C0, C1, B1⟩ := two_bl b1; have k0 := (C0.cell 0).trans rfl; have k1 := (C0.cell 1).trans rfl; have k2 := (C0.cell 2).trans rfl; have k3 := (C0.cell 3).trans rfl; have k4 := (C0.cell 4).trans rfl; have m0 := (C1.cell 0).trans rfl; have m1 := (C1.cell 1).trans rfl; have m2 := (C1.cell 2).trans rfl; have m3 := (C1.cell 3).trans rfl; have m4 := (C1.cell 4).trans rfl; have HB1 : Hid (Below w.heap.size w w1) := hid B1; clear C0 C1 B1 b1; clear h1) | (refine (holdsOn_eq ⟨s, fr2, to2, ra2, ki2⟩ fr _ _ h2).mono ?_; rintro e w2 ⟨rfl, b2⟩; have HB2 : Hid (Below w.heap.size w w2) := hid (bel_on HB1.out b2); clear b2))
        go_returns
        exact ⟨ret_bool HV.out, by first | exact HB2.out | exact HB1.out | go_grown⟩
    · have HV : Hid (true = clB ⟨s, fr, to, ra, ki⟩ ⟨s, fr2, to2, ra2, ki2⟩) := hid (by have := inB_t h1; simp [clB]; omega)
      show Calls Try.prog 64 #[.agg #[.string s, .int .i64 fr, .int .i64 to, .int .i64 ra, .int .i64 ki], .agg #[.string s, .int .i64 fr2, .int .i64 to2, .int .i64 ra2, .int .i64 ki2]] w _
      go_enter Try.func64, Try.ntmps64
      go_wp2_with (go_at_call 97; first | (refine (holdsOn_eq ⟨s, fr, to, ra, ki⟩ fr2 _ _ h1).mono ?_; rintro e w1 ⟨rfl, b1⟩; obtain ⟨C0, C1, B1⟩ := two_bl b1; have k0 := (C0.cell 0).trans rfl; have k1 := (C0.cell 1).trans rfl; have k2 := (C0.cell 2).trans rfl; have k3 := (C0.cell 3).trans rfl; have k4 := (C0.cell 4).trans rfl; have m0 := (C1.cell 0).trans rfl; have m1 := (C1.cell 1).trans rfl; have m2 := (C1.cell 2).trans rfl; have m3 := (C1.cell 3).trans rfl; have m4 := (C1.cell 4).trans rfl; have HB1 : Hid (Below w.heap.size w w1) := hid B1; clear C0 C1 B1 b1; clear h1) | (refine (holdsOn_eq ⟨s, fr2, to2, ra2, ki2⟩ fr _ _ h2).mono ?_; rintro e w2 ⟨rfl, b2⟩; have HB2 : Hid (Below w.heap.size w w2) := hid (bel_on HB1.out b2); clear b2))
      go_returns
      exact ⟨ret_bool HV.out, by first | exact HB2.out | exact HB1.out | go_grown⟩
  · have hcc := lists_f hc
    have HV : Hid (false = clB ⟨s, fr, to, ra, ki⟩ ⟨s2, fr2, to2, ra2, ki2⟩) := hid (by simp [clB, hc])
    clear hc
    show Calls Try.prog 64 #[.agg #[.string s, .int .i64 fr, .int .i64 to, .int .i64 ra, .int .i64 ki], .agg #[.string s2, .int .i64 fr2, .int .i64 to2, .int .i64 ra2, .int .i64 ki2]] w _
    go_enter Try.func64, Try.ntmps64
    go_wp2_with (go_at_call 97; first | (refine (holdsOn_eq ⟨s, fr, to, ra, ki⟩ fr2 _ _ h1).mono ?_; rintro e w1 ⟨rfl, b1⟩; obtain ⟨C0, C1, B1⟩ := two_bl b1; have k0 := (C0.cell 0).trans rfl; have k1 := (C0.cell 1).trans rfl; have k2 := (C0.cell 2).trans rfl; have k3 := (C0.cell 3).trans rfl; have k4 := (C0.cell 4).trans rfl; have m0 := (C1.cell 0).trans rfl; have m1 := (C1.cell 1).trans rfl; have m2 := (C1.cell 2).trans rfl; have m3 := (C1.cell 3).trans rfl; have m4 := (C1.cell 4).trans rfl; have HB1 : Hid (Below w.heap.size w w1) := hid B1; clear C0 C1 B1 b1; clear h1) | (refine (holdsOn_eq ⟨s2, fr2, to2, ra2, ki2⟩ fr _ _ h2).mono ?_; rintro e w2 ⟨rfl, b2⟩; have HB2 : Hid (Below w.heap.size w w2) := hid (bel_on HB1.out b2); clear b2))
    go_returns
    exact ⟨ret_bool HV.out, by first | exact HB2.out | exact HB1.out | go_grown⟩
end Go.Proofs.Ytbhghghkgojpgaa
