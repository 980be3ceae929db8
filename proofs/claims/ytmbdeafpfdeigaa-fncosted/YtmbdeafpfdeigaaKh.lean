/- Needs, Explode and Output of the program. -/
import Derived.Test.YtmbdeafpfdeigaaKg
namespace Go.Proofs.Ytmbdeafpfdeigaa
open Go Go.ChangeShapes Go.WideShapes Go.ChangeAt Go.RowKit
set_option linter.unusedVariables false
set_option linter.unusedSimpArgs false

def z0 : Nat → Int := fun _ => 0
theorem z0_q : FQ z0 := fun _ => ⟨Int.le_refl _, by show (0 : Int) ≤ 1000000; omega⟩
/-- What is asked is right. -/
noncomputable def akB (n : Nat) (c : Nat → IT) (a q d : Int) : Bool := isB n c && inB a 0 ((n : Int) - 1) && inB q 0 1000000 && inB d 0 40000
theorem akB_p {n : Nat} {c : Nat → IT} {a q d : Int} (h : akB n c a q d = true) : isB n c = true ∧ (0 ≤ a ∧ a ≤ (n : Int) - 1) ∧ (0 ≤ q ∧ q ≤ 1000000) ∧ (0 ≤ d ∧ d ≤ 40000) := by
  unfold akB at h
  simp only [Bool.and_eq_true] at h
  exact ⟨h.1.1.1, inB_t h.1.1.2, inB_t h.1.2, inB_t h.2⟩
def neB (n : Nat) (c : Nat → IT) (d : Int) (i : Nat) (q : Int) : Bool := xpB c d z0 i q && ndB c d (n - (i + 1)) (i + 1) (xpF c d z0 i q)
def neF (n : Nat) (c : Nat → IT) (d : Int) (i : Nat) (q : Int) : Nat → Int := ndF c d (n - (i + 1)) (i + 1) (xpF c d z0 i q)
def eoB (n : Nat) (c : Nat → IT) (d : Int) (i : Nat) (q : Int) : Bool := epB c d i (upI z0 i q) (n - i)
def eoF (n : Nat) (c : Nat → IT) (d : Int) (i : Nat) (q : Int) : Nat → Int := epF c d i (upI z0 i q) (n - i)
def ouB (n : Nat) (c : Nat → IT) (d : Int) (i : Nat) (q : Int) : Bool := brB c d z0 i q
def ouF (n : Nat) (c : Nat → IT) (d : Int) (i : Nat) (q : Int) : Nat → Int := brF c d z0 i q
/-- Each one's answer: how many numbers, whether there are, and which. -/
noncomputable def rkB (X : Nat → (Nat → IT) → Int → Nat → Int → Bool) (n : Nat) (c : Nat → IT) (a q d : Int) : Bool := akB n c a q d && X n c d a.toNat q
noncomputable def rkM (X : Nat → (Nat → IT) → Int → Nat → Int → Bool) (n : Nat) (c : Nat → IT) (a q d : Int) : Nat := if rkB X n c a q d = true then n else 0
set_option maxRecDepth 20000 in
set_option maxHeartbeats 8000000 in
theorem reckon_ne (ad : Option Addr) (n cap : Nat) (c : Nat → IT) (a q d : Int) (w : World) (h : (n : Int) ≤ 1048576) (hz : IZ n c) (hr : ITr w ad n c) :
    Calls Try.prog 50 #[.slice ad n cap, .int .i64 a, .int .i64 q, .int .i64 d, .func (.func 51) #[] #[]] w fun e w' => ∃ ad cap, e = .returned (.tuple #[.slice ad (rkM neB n c a q d) cap, .bool (rkB neB n c a q d)]) ∧ OwnI w' w.heap.size ad (rkM neB n c a q d) (neF n c d a.toNat q) ∧ Below w.heap.size w w' := by
  have HR : Hid (ITr w ad n c) := hr
  have HZ : Hid (IZ n c) := hz
  have HFA : Hid (rkB neB n c a q d = false → rkM neB n c a q d = 0) := hid (fun q => by unfold rkM; rw [q]; rfl)
  clear hr hz
  cases h1 : isB n c
  · have HV : Hid (rkB neB n c a q d = false ∧ rkM neB n c a q d = 0) := hid (by
      have e : rkB neB n c a q d = false := by simp [rkB, akB, h1]
      exact ⟨e, HFA.out e⟩)
    rw [HV.out.1, HV.out.2]
    go_enter Try.func50, Try.ntmps50
    go_wp2_with (first | (go_at_call 38; refine (implItems_eq ad n cap c _ _ h HZ.out HR.out h1).mono ?_; rintro e w1 ⟨rfl, b1⟩; have HB1 : Hid (Below w.heap.size w w1) := b1; clear b1) | (go_at_call 98; refine (isPlace_eq _ _ _ _ h2).mono ?_; rintro e w2 ⟨rfl, ew⟩; replace ew := ew.symm; subst ew) | (go_at_call 76; refine (isQty_eq _ _ _ h3).mono ?_; rintro e w3 ⟨rfl, ew⟩; replace ew := ew.symm; subst ew) | (go_at_call 99; refine (isDay_eq _ _ _ h4).mono ?_; rintro e w4 ⟨rfl, ew⟩; replace ew := ew.symm; subst ew))
    go_returns
    exact ⟨_, _, rfl, .inl rfl, by first | exact bel_on HB1.out ((Below.refl _ _).alloc (Nat.le_refl _) _) | go_grown⟩
  cases h2 : inB a 0 ((n : Int) - 1)
  · have HV : Hid (rkB neB n c a q d = false ∧ rkM neB n c a q d = 0) := hid (by
      have e : rkB neB n c a q d = false := by simp [rkB, akB, h1, h2]
      exact ⟨e, HFA.out e⟩)
    rw [HV.out.1, HV.out.2]
    go_enter Try.func50, Try.ntmps50
    go_wp2_with (first | (go_at_call 38; refine (implItems_eq ad n cap c _ _ h HZ.out HR.out h1).mono ?_; rintro e w1 ⟨rfl, b1⟩; have HB1 : Hid (Below w.heap.size w w1) := b1; clear b1) | (go_at_call 98; refine (isPlace_eq _ _ _ _ h2).mono ?_; rintro e w2 ⟨rfl, ew⟩; replace ew := ew.symm; subst ew) | (go_at_call 76; refine (isQty_eq _ _ _ h3).mono ?_; rintro e w3 ⟨rfl, ew⟩; replace ew := ew.symm; subst ew) | (go_at_call 99; refine (isDay_eq _ _ _ h4).mono ?_; rintro e w4 ⟨rfl, ew⟩; replace ew := ew.symm; subst ew))
    go_returns
    exact ⟨_, _, rfl, .inl rfl, by first | exact bel_on HB1.out ((Below.refl _ _).alloc (Nat.le_refl _) _) | go_grown⟩
  cases h3 : inB q 0 1000000
  · have HV : Hid (rkB neB n c a q d = false ∧ rkM neB n c a q d = 0) := hid (by
      have e : rkB neB n c a q d = false := by simp [rkB, akB, h1, h2, h3]
      exact ⟨e, HFA.out e⟩)
    rw [HV.out.1, HV.out.2]
    go_enter Try.func50, Try.ntmps50
    go_wp2_with (first | (go_at_call 38; refine (implItems_eq ad n cap c _ _ h HZ.out HR.out h1).mono ?_; rintro e w1 ⟨rfl, b1⟩; have HB1 : Hid (Below w.heap.size w w1) := b1; clear b1) | (go_at_call 98; refine (isPlace_eq _ _ _ _ h2).mono ?_; rintro e w2 ⟨rfl, ew⟩; replace ew := ew.symm; subst ew) | (go_at_call 76; refine (isQty_eq _ _ _ h3).mono ?_; rintro e w3 ⟨rfl, ew⟩; replace ew := ew.symm; subst ew) | (go_at_call 99; refine (isDay_eq _ _ _ h4).mono ?_; rintro e w4 ⟨rfl, ew⟩; replace ew := ew.symm; subst ew))
    go_returns
    exact ⟨_, _, rfl, .inl rfl, by first | exact bel_on HB1.out ((Below.refl _ _).alloc (Nat.le_refl _) _) | go_grown⟩
  cases h4 : inB d 0 40000
  · have HV : Hid (rkB neB n c a q d = false ∧ rkM neB n c a q d = 0) := hid (by
      have e : rkB neB n c a q d = false := by simp [rkB, akB, h1, h2, h3, h4]
      exact ⟨e, HFA.out e⟩)
    rw [HV.out.1, HV.out.2]
    go_enter Try.func50, Try.ntmps50
    go_wp2_with (first | (go_at_call 38; refine (implItems_eq ad n cap c _ _ h HZ.out HR.out h1).mono ?_; rintro e w1 ⟨rfl, b1⟩; have HB1 : Hid (Below w.heap.size w w1) := b1; clear b1) | (go_at_call 98; refine (isPlace_eq _ _ _ _ h2).mono ?_; rintro e w2 ⟨rfl, ew⟩; replace ew := ew.symm; subst ew) | (go_at_call 76; refine (isQty_eq _ _ _ h3).mono ?_; rintro e w3 ⟨rfl, ew⟩; replace ew := ew.symm; subst ew) | (go_at_call 99; refine (isDay_eq _ _ _ h4).mono ?_; rintro e w4 ⟨rfl, ew⟩; replace ew := ew.symm; subst ew))
    go_returns
    exact ⟨_, _, rfl, .inl rfl, by first | exact bel_on HB1.out ((Below.refl _ _).alloc (Nat.le_refl _) _) | go_grown⟩
  have hak : akB n c a q d = true := by simp [akB, h1, h2, h3, h4]
  obtain ⟨ha0, ha1⟩ := inB_t h2
  obtain ⟨hq0, hq1⟩ := inB_t h3
  obtain ⟨i, rfl⟩ : ∃ i : Nat, a = (i : Int) := ⟨a.toNat, by omega⟩
  have hi : i < n := by omega
  have hn60 : (n : Int) ≤ 60 := by have := (isB_p h1).1; omega
  have hmk := mkI n (by omega)
  simp only [Int.toNat_natCast]
  have HKK : Hid (∀ w1 : World, Below w.heap.size w w1 → Calls Try.prog 51 #[.pointer (some ⟨w1.heap.size + 1, 0, none⟩), .int .i64 (i : Int), .int .i64 q] ((w1.alloc (.cells (zeros n) 3)).alloc (.cells #[.slice ad n cap, .int .i64 d, .slice (some ⟨w1.heap.size, 0, none⟩) n n] 109 (0, 0))) (ApP2 ad n cap d (w1.heap.size + 1) w1.heap.size (neF n c d i q) (neB n c d i q) ((w1.alloc (.cells (zeros n) 3)).alloc (.cells #[.slice ad n cap, .int .i64 d, .slice (some ⟨w1.heap.size, 0, none⟩) n n] 109 (0, 0))))) := hid (fun w1 b => by
    have I1 : IB ((w1.alloc (.cells (zeros n) 3)).alloc (.cells #[.slice ad n cap, .int .i64 d, .slice (some ⟨w1.heap.size, 0, none⟩) n n] 109 (0, 0))) w1.heap.size n z0 := ⟨zeros n, (CB.new _ _).alloc _, fun j hj => zeros_get hj⟩
    have M1 : CB ((w1.alloc (.cells (zeros n) 3)).alloc (.cells #[.slice ad n cap, .int .i64 d, .slice (some ⟨w1.heap.size, 0, none⟩) n n] 109 (0, 0))) (w1.heap.size + 1) #[.slice ad n cap, .int .i64 d, .slice (some ⟨w1.heap.size, 0, none⟩) n n] 109 := CB.newAt (by simp) _ _
    exact need_any ad n cap c d _ _ z0 i q _ h1 ⟨M1, I1, by omega⟩ ⟨w, b.size, HR.out, bel_on b (((Below.refl _ _).alloc (Nat.le_refl _) _).alloc (by simp) _)⟩ z0_q hi hq0 hq1)
  have HRB : Hid (rkB neB n c (i : Int) q d = neB n c d i q ∧ rkM neB n c (i : Int) q d = if neB n c d i q = true then n else 0) := hid (by
    have e : rkB neB n c (i : Int) q d = neB n c d i q := by unfold rkB; rw [hak, Int.toNat_natCast]; rfl
    exact ⟨e, by unfold rkM; rw [e]⟩)
  rw [HRB.out.1, HRB.out.2]
  clear hak ha0 ha1 hq0 hq1 HRB HFA
  generalize neB n c d i q = TV at *
  generalize neF n c d i q = G at *
  cases TV
  · simp only [Bool.false_eq_true, if_false]
    go_enter Try.func50, Try.ntmps50
    go_wp2_with (first | (go_at_call 38; refine (implItems_eq ad n cap c _ _ h HZ.out HR.out h1).mono ?_; rintro e w1 ⟨rfl, b1⟩; have HB1 : Hid (Below w.heap.size w w1) := b1; clear b1) | (go_at_call 98; refine (isPlace_eq _ _ _ _ h2).mono ?_; rintro e w2 ⟨rfl, ew⟩; replace ew := ew.symm; subst ew) | (go_at_call 76; refine (isQty_eq _ _ _ h3).mono ?_; rintro e w3 ⟨rfl, ew⟩; replace ew := ew.symm; subst ew) | (go_at_call 99; refine (isDay_eq _ _ _ h4).mono ?_; rintro e w4 ⟨rfl, ew⟩; replace ew := ew.symm; subst ew) | (go_at_call 51; refine (HKK.out _ HB1.out).mono ?_; rintro e w5 ⟨rfl, b5, g5⟩; have HB5 : Hid (Below w.heap.size w w5) := hid ((bel_on HB1.out (((Below.refl _ _).alloc (Nat.le_refl _) _).alloc (by simp) _)).trans (b5.2.mono HB1.out.size)); clear b5 g5))
    go_returns
    exact ⟨_, _, rfl, .inl rfl, bel_on HB5.out ((Below.refl _ _).alloc (Nat.le_refl _) _)⟩
  · simp only [if_true]
    go_enter Try.func50, Try.ntmps50
    go_wp2_with (first | (go_at_call 38; refine (implItems_eq ad n cap c _ _ h HZ.out HR.out h1).mono ?_; rintro e w1 ⟨rfl, b1⟩; have HB1 : Hid (Below w.heap.size w w1) := b1; clear b1) | (go_at_call 98; refine (isPlace_eq _ _ _ _ h2).mono ?_; rintro e w2 ⟨rfl, ew⟩; replace ew := ew.symm; subst ew) | (go_at_call 76; refine (isQty_eq _ _ _ h3).mono ?_; rintro e w3 ⟨rfl, ew⟩; replace ew := ew.symm; subst ew) | (go_at_call 99; refine (isDay_eq _ _ _ h4).mono ?_; rintro e w4 ⟨rfl, ew⟩; replace ew := ew.symm; subst ew) | (go_at_call 51; refine (HKK.out _ HB1.out).mono ?_; rintro e w5 ⟨rfl, b5, g5⟩; have HB5 : Hid (Below w.heap.size w w5 ∧ MG ad n cap d (w1.heap.size + 1) w1.heap.size G w5 ∧ w.heap.size ≤ w1.heap.size) := hid ⟨(bel_on HB1.out (((Below.refl _ _).alloc (Nat.le_refl _) _).alloc (by simp) _)).trans (b5.2.mono HB1.out.size), g5 rfl, HB1.out.size⟩; have j2 : w5.cell? ⟨w1.heap.size + 1, 2, none⟩ = some (.slice (some ⟨w1.heap.size, 0, none⟩) n n) := (HB5.out.2.1.m.cell 2).trans rfl; clear b5 g5))
    go_returns
    exact ⟨_, _, rfl, HB5.out.2.1.q.own HB5.out.2.2, HB5.out.1⟩
set_option maxRecDepth 20000 in
set_option maxHeartbeats 2000000 in
theorem implNeeds_any (ad : Option Addr) (n cap : Nat) (c : Nat → IT) (a q d : Int) (w : World) (h : (n : Int) ≤ 1048576) (hz : IZ n c) (hr : ITr w ad n c) :
    Calls Try.prog 17 #[.slice ad n cap, .int .i64 a, .int .i64 q, .int .i64 d] w fun e w' => ∃ ad cap, e = .returned (.tuple #[.slice ad (rkM neB n c a q d) cap, .bool (rkB neB n c a q d)]) ∧ OwnI w' w.heap.size ad (rkM neB n c a q d) (neF n c d a.toNat q) ∧ Below w.heap.size w w' := by
  have HK := hid (reckon_ne ad n cap c a q d w h hz hr)
  clear hz hr
  generalize rkM neB n c a q d = M at *
  generalize rkB neB n c a q d = TV at *
  generalize neF n c d a.toNat q = G at *
  obtain ⟨fv, hf⟩ : ∃ f, Value.func (Fn.func 51) #[] #[] = f := ⟨_, rfl⟩
  rw [hf] at HK
  go_enter Try.func17, Try.ntmps17
  go_wp2_with (go_at_call 50; refine HK.out.mono ?_; rintro e w1 ⟨ad2, cap2, rfl, o1, b1⟩; have HO : Hid (OwnI w1 w.heap.size ad2 M G ∧ Below w.heap.size w w1) := hid ⟨o1, b1⟩; clear o1 b1)
  go_returns
  exact ⟨_, _, rfl, HO.out⟩
set_option maxRecDepth 20000 in
set_option maxHeartbeats 8000000 in
theorem reckon_eo (ad : Option Addr) (n cap : Nat) (c : Nat → IT) (a q d : Int) (w : World) (h : (n : Int) ≤ 1048576) (hz : IZ n c) (hr : ITr w ad n c) :
    Calls Try.prog 50 #[.slice ad n cap, .int .i64 a, .int .i64 q, .int .i64 d, .func (.func 58) #[] #[]] w fun e w' => ∃ ad cap, e = .returned (.tuple #[.slice ad (rkM eoB n c a q d) cap, .bool (rkB eoB n c a q d)]) ∧ OwnI w' w.heap.size ad (rkM eoB n c a q d) (eoF n c d a.toNat q) ∧ Below w.heap.size w w' := by
  have HR : Hid (ITr w ad n c) := hr
  have HZ : Hid (IZ n c) := hz
  have HFA : Hid (rkB eoB n c a q d = false → rkM eoB n c a q d = 0) := hid (fun q => by unfold rkM; rw [q]; rfl)
  clear hr hz
  cases h1 : isB n c
  · have HV : Hid (rkB eoB n c a q d = false ∧ rkM eoB n c a q d = 0) := hid (by
      have e : rkB eoB n c a q d = false := by simp [rkB, akB, h1]
      exact ⟨e, HFA.out e⟩)
    rw [HV.out.1, HV.out.2]
    go_enter Try.func50, Try.ntmps50
    go_wp2_with (first | (go_at_call 38; refine (implItems_eq ad n cap c _ _ h HZ.out HR.out h1).mono ?_; rintro e w1 ⟨rfl, b1⟩; have HB1 : Hid (Below w.heap.size w w1) := b1; clear b1) | (go_at_call 98; refine (isPlace_eq _ _ _ _ h2).mono ?_; rintro e w2 ⟨rfl, ew⟩; replace ew := ew.symm; subst ew) | (go_at_call 76; refine (isQty_eq _ _ _ h3).mono ?_; rintro e w3 ⟨rfl, ew⟩; replace ew := ew.symm; subst ew) | (go_at_call 99; refine (isDay_eq _ _ _ h4).mono ?_; rintro e w4 ⟨rfl, ew⟩; replace ew := ew.symm; subst ew))
    go_returns
    exact ⟨_, _, rfl, .inl rfl, by first | exact bel_on HB1.out ((Below.refl _ _).alloc (Nat.le_refl _) _) | go_grown⟩
  cases h2 : inB a 0 ((n : Int) - 1)
  · have HV : Hid (rkB eoB n c a q d = false ∧ rkM eoB n c a q d = 0) := hid (by
      have e : rkB eoB n c a q d = false := by simp [rkB, akB, h1, h2]
      exact ⟨e, HFA.out e⟩)
    rw [HV.out.1, HV.out.2]
    go_enter Try.func50, Try.ntmps50
    go_wp2_with (first | (go_at_call 38; refine (implItems_eq ad n cap c _ _ h HZ.out HR.out h1).mono ?_; rintro e w1 ⟨rfl, b1⟩; have HB1 : Hid (Below w.heap.size w w1) := b1; clear b1) | (go_at_call 98; refine (isPlace_eq _ _ _ _ h2).mono ?_; rintro e w2 ⟨rfl, ew⟩; replace ew := ew.symm; subst ew) | (go_at_call 76; refine (isQty_eq _ _ _ h3).mono ?_; rintro e w3 ⟨rfl, ew⟩; replace ew := ew.symm; subst ew) | (go_at_call 99; refine (isDay_eq _ _ _ h4).mono ?_; rintro e w4 ⟨rfl, ew⟩; replace ew := ew.symm; subst ew))
    go_returns
    exact ⟨_, _, rfl, .inl rfl, by first | exact bel_on HB1.out ((Below.refl _ _).alloc (Nat.le_refl _) _) | go_grown⟩
  cases h3 : inB q 0 1000000
  · have HV : Hid (rkB eoB n c a q d = false ∧ rkM eoB n c a q d = 0) := hid (by
      have e : rkB eoB n c a q d = false := by simp [rkB, akB, h1, h2, h3]
      exact ⟨e, HFA.out e⟩)
    rw [HV.out.1, HV.out.2]
    go_enter Try.func50, Try.ntmps50
    go_wp2_with (first | (go_at_call 38; refine (implItems_eq ad n cap c _ _ h HZ.out HR.out h1).mono ?_; rintro e w1 ⟨rfl, b1⟩; have HB1 : Hid (Below w.heap.size w w1) := b1; clear b1) | (go_at_call 98; refine (isPlace_eq _ _ _ _ h2).mono ?_; rintro e w2 ⟨rfl, ew⟩; replace ew := ew.symm; subst ew) | (go_at_call 76; refine (isQty_eq _ _ _ h3).mono ?_; rintro e w3 ⟨rfl, ew⟩; replace ew := ew.symm; subst ew) | (go_at_call 99; refine (isDay_eq _ _ _ h4).mono ?_; rintro e w4 ⟨rfl, ew⟩; replace ew := ew.symm; subst ew))
    go_returns
    exact ⟨_, _, rfl, .inl rfl, by first | exact bel_on HB1.out ((Below.refl _ _).alloc (Nat.le_refl _) _) | go_grown⟩
  cases h4 : inB d 0 40000
  · have HV : Hid (rkB eoB n c a q d = false ∧ rkM eoB n c a q d = 0) := hid (by
      have e : rkB eoB n c a q d = false := by simp [rkB, akB, h1, h2, h3, h4]
      exact ⟨e, HFA.out e⟩)
    rw [HV.out.1, HV.out.2]
    go_enter Try.func50, Try.ntmps50
    go_wp2_with (first | (go_at_call 38; refine (implItems_eq ad n cap c _ _ h HZ.out HR.out h1).mono ?_; rintro e w1 ⟨rfl, b1⟩; have HB1 : Hid (Below w.heap.size w w1) := b1; clear b1) | (go_at_call 98; refine (isPlace_eq _ _ _ _ h2).mono ?_; rintro e w2 ⟨rfl, ew⟩; replace ew := ew.symm; subst ew) | (go_at_call 76; refine (isQty_eq _ _ _ h3).mono ?_; rintro e w3 ⟨rfl, ew⟩; replace ew := ew.symm; subst ew) | (go_at_call 99; refine (isDay_eq _ _ _ h4).mono ?_; rintro e w4 ⟨rfl, ew⟩; replace ew := ew.symm; subst ew))
    go_returns
    exact ⟨_, _, rfl, .inl rfl, by first | exact bel_on HB1.out ((Below.refl _ _).alloc (Nat.le_refl _) _) | go_grown⟩
  have hak : akB n c a q d = true := by simp [akB, h1, h2, h3, h4]
  obtain ⟨ha0, ha1⟩ := inB_t h2
  obtain ⟨hq0, hq1⟩ := inB_t h3
  obtain ⟨i, rfl⟩ : ∃ i : Nat, a = (i : Int) := ⟨a.toNat, by omega⟩
  have hi : i < n := by omega
  have hn60 : (n : Int) ≤ 60 := by have := (isB_p h1).1; omega
  have hmk := mkI n (by omega)
  simp only [Int.toNat_natCast]
  have HKK : Hid (∀ w1 : World, Below w.heap.size w w1 → Calls Try.prog 58 #[.pointer (some ⟨w1.heap.size + 1, 0, none⟩), .int .i64 (i : Int), .int .i64 q] ((w1.alloc (.cells (zeros n) 3)).alloc (.cells #[.slice ad n cap, .int .i64 d, .slice (some ⟨w1.heap.size, 0, none⟩) n n] 109 (0, 0))) (ApP2 ad n cap d (w1.heap.size + 1) w1.heap.size (eoF n c d i q) (eoB n c d i q) ((w1.alloc (.cells (zeros n) 3)).alloc (.cells #[.slice ad n cap, .int .i64 d, .slice (some ⟨w1.heap.size, 0, none⟩) n n] 109 (0, 0))))) := hid (fun w1 b => by
    have I1 : IB ((w1.alloc (.cells (zeros n) 3)).alloc (.cells #[.slice ad n cap, .int .i64 d, .slice (some ⟨w1.heap.size, 0, none⟩) n n] 109 (0, 0))) w1.heap.size n z0 := ⟨zeros n, (CB.new _ _).alloc _, fun j hj => zeros_get hj⟩
    have M1 : CB ((w1.alloc (.cells (zeros n) 3)).alloc (.cells #[.slice ad n cap, .int .i64 d, .slice (some ⟨w1.heap.size, 0, none⟩) n n] 109 (0, 0))) (w1.heap.size + 1) #[.slice ad n cap, .int .i64 d, .slice (some ⟨w1.heap.size, 0, none⟩) n n] 109 := CB.newAt (by simp) _ _
    exact explode_any ad n cap c d _ _ z0 i q _ h1 ⟨M1, I1, by omega⟩ ⟨w, b.size, HR.out, bel_on b (((Below.refl _ _).alloc (Nat.le_refl _) _).alloc (by simp) _)⟩ z0_q hi hq0 hq1)
  have HRB : Hid (rkB eoB n c (i : Int) q d = eoB n c d i q ∧ rkM eoB n c (i : Int) q d = if eoB n c d i q = true then n else 0) := hid (by
    have e : rkB eoB n c (i : Int) q d = eoB n c d i q := by unfold rkB; rw [hak, Int.toNat_natCast]; rfl
    exact ⟨e, by unfold rkM; rw [e]⟩)
  rw [HRB.out.1, HRB.out.2]
  clear hak ha0 ha1 hq0 hq1 HRB HFA
  generalize eoB n c d i q = TV at *
  generalize eoF n c d i q = G at *
  cases TV
  · simp only [Bool.false_eq_true, if_false]
    go_enter Try.func50, Try.ntmps50
    go_wp2_with (first | (go_at_call 38; refine (implItems_eq ad n cap c _ _ h HZ.out HR.out h1).mono ?_; rintro e w1 ⟨rfl, b1⟩; have HB1 : Hid (Below w.heap.size w w1) := b1; clear b1) | (go_at_call 98; refine (isPlace_eq _ _ _ _ h2).mono ?_; rintro e w2 ⟨rfl, ew⟩; replace ew := ew.symm; subst ew) | (go_at_call 76; refine (isQty_eq _ _ _ h3).mono ?_; rintro e w3 ⟨rfl, ew⟩; replace ew := ew.symm; subst ew) | (go_at_call 99; refine (isDay_eq _ _ _ h4).mono ?_; rintro e w4 ⟨rfl, ew⟩; replace ew := ew.symm; subst ew) | (go_at_call 58; refine (HKK.out _ HB1.out).mono ?_; rintro e w5 ⟨rfl, b5, g5⟩; have HB5 : Hid (Below w.heap.size w w5) := hid ((bel_on HB1.out (((Below.refl _ _).alloc (Nat.le_refl _) _).alloc (by simp) _)).trans (b5.2.mono HB1.out.size)); clear b5 g5))
    go_returns
    exact ⟨_, _, rfl, .inl rfl, bel_on HB5.out ((Below.refl _ _).alloc (Nat.le_refl _) _)⟩
  · simp only [if_true]
    go_enter Try.func50, Try.ntmps50
    go_wp2_with (first | (go_at_call 38; refine (implItems_eq ad n cap c _ _ h HZ.out HR.out h1).mono ?_; rintro e w1 ⟨rfl, b1⟩; have HB1 : Hid (Below w.heap.size w w1) := b1; clear b1) | (go_at_call 98; refine (isPlace_eq _ _ _ _ h2).mono ?_; rintro e w2 ⟨rfl, ew⟩; replace ew := ew.symm; subst ew) | (go_at_call 76; refine (isQty_eq _ _ _ h3).mono ?_; rintro e w3 ⟨rfl, ew⟩; replace ew := ew.symm; subst ew) | (go_at_call 99; refine (isDay_eq _ _ _ h4).mono ?_; rintro e w4 ⟨rfl, ew⟩; replace ew := ew.symm; subst ew) | (go_at_call 58; refine (HKK.out _ HB1.out).mono ?_; rintro e w5 ⟨rfl, b5, g5⟩; have HB5 : Hid (Below w.heap.size w w5 ∧ MG ad n cap d (w1.heap.size + 1) w1.heap.size G w5 ∧ w.heap.size ≤ w1.heap.size) := hid ⟨(bel_on HB1.out (((Below.refl _ _).alloc (Nat.le_refl _) _).alloc (by simp) _)).trans (b5.2.mono HB1.out.size), g5 rfl, HB1.out.size⟩; have j2 : w5.cell? ⟨w1.heap.size + 1, 2, none⟩ = some (.slice (some ⟨w1.heap.size, 0, none⟩) n n) := (HB5.out.2.1.m.cell 2).trans rfl; clear b5 g5))
    go_returns
    exact ⟨_, _, rfl, HB5.out.2.1.q.own HB5.out.2.2, HB5.out.1⟩
set_option maxRecDepth 20000 in
set_option maxHeartbeats 2000000 in
theorem implExplode_any (ad : Option Addr) (n cap : Nat) (c : Nat → IT) (a q d : Int) (w : World) (h : (n : Int) ≤ 1048576) (hz : IZ n c) (hr : ITr w ad n c) :
    Calls Try.prog 22 #[.slice ad n cap, .int .i64 a, .int .i64 q, .int .i64 d] w fun e w' => ∃ ad cap, e = .returned (.tuple #[.slice ad (rkM eoB n c a q d) cap, .bool (rkB eoB n c a q d)]) ∧ OwnI w' w.heap.size ad (rkM eoB n c a q d) (eoF n c d a.toNat q) ∧ Below w.heap.size w w' := by
  have HK := hid (reckon_eo ad n cap c a q d w h hz hr)
  clear hz hr
  generalize rkM eoB n c a q d = M at *
  generalize rkB eoB n c a q d = TV at *
  generalize eoF n c d a.toNat q = G at *
  obtain ⟨fv, hf⟩ : ∃ f, Value.func (Fn.func 58) #[] #[] = f := ⟨_, rfl⟩
  rw [hf] at HK
  go_enter Try.func22, Try.ntmps22
  go_wp2_with (go_at_call 50; refine HK.out.mono ?_; rintro e w1 ⟨ad2, cap2, rfl, o1, b1⟩; have HO : Hid (OwnI w1 w.heap.size ad2 M G ∧ Below w.heap.size w w1) := hid ⟨o1, b1⟩; clear o1 b1)
  go_returns
  exact ⟨_, _, rfl, HO.out⟩
set_option maxRecDepth 20000 in
set_option maxHeartbeats 8000000 in
theorem reckon_ou (ad : Option Addr) (n cap : Nat) (c : Nat → IT) (a q d : Int) (w : World) (h : (n : Int) ≤ 1048576) (hz : IZ n c) (hr : ITr w ad n c) :
    Calls Try.prog 50 #[.slice ad n cap, .int .i64 a, .int .i64 q, .int .i64 d, .func (.func 97) #[] #[]] w fun e w' => ∃ ad cap, e = .returned (.tuple #[.slice ad (rkM ouB n c a q d) cap, .bool (rkB ouB n c a q d)]) ∧ OwnI w' w.heap.size ad (rkM ouB n c a q d) (ouF n c d a.toNat q) ∧ Below w.heap.size w w' := by
  have HR : Hid (ITr w ad n c) := hr
  have HZ : Hid (IZ n c) := hz
  have HFA : Hid (rkB ouB n c a q d = false → rkM ouB n c a q d = 0) := hid (fun q => by unfold rkM; rw [q]; rfl)
  clear hr hz
  cases h1 : isB n c
  · have HV : Hid (rkB ouB n c a q d = false ∧ rkM ouB n c a q d = 0) := hid (by
      have e : rkB ouB n c a q d = false := by simp [rkB, akB, h1]
      exact ⟨e, HFA.out e⟩)
    rw [HV.out.1, HV.out.2]
    go_enter Try.func50, Try.ntmps50
    go_wp2_with (first | (go_at_call 38; refine (implItems_eq ad n cap c _ _ h HZ.out HR.out h1).mono ?_; rintro e w1 ⟨rfl, b1⟩; have HB1 : Hid (Below w.heap.size w w1) := b1; clear b1) | (go_at_call 98; refine (isPlace_eq _ _ _ _ h2).mono ?_; rintro e w2 ⟨rfl, ew⟩; replace ew := ew.symm; subst ew) | (go_at_call 76; refine (isQty_eq _ _ _ h3).mono ?_; rintro e w3 ⟨rfl, ew⟩; replace ew := ew.symm; subst ew) | (go_at_call 99; refine (isDay_eq _ _ _ h4).mono ?_; rintro e w4 ⟨rfl, ew⟩; replace ew := ew.symm; subst ew))
    go_returns
    exact ⟨_, _, rfl, .inl rfl, by first | exact bel_on HB1.out ((Below.refl _ _).alloc (Nat.le_refl _) _) | go_grown⟩
  cases h2 : inB a 0 ((n : Int) - 1)
  · have HV : Hid (rkB ouB n c a q d = false ∧ rkM ouB n c a q d = 0) := hid (by
      have e : rkB ouB n c a q d = false := by simp [rkB, akB, h1, h2]
      exact ⟨e, HFA.out e⟩)
    rw [HV.out.1, HV.out.2]
    go_enter Try.func50, Try.ntmps50
    go_wp2_with (first | (go_at_call 38; refine (implItems_eq ad n cap c _ _ h HZ.out HR.out h1).mono ?_; rintro e w1 ⟨rfl, b1⟩; have HB1 : Hid (Below w.heap.size w w1) := b1; clear b1) | (go_at_call 98; refine (isPlace_eq _ _ _ _ h2).mono ?_; rintro e w2 ⟨rfl, ew⟩; replace ew := ew.symm; subst ew) | (go_at_call 76; refine (isQty_eq _ _ _ h3).mono ?_; rintro e w3 ⟨rfl, ew⟩; replace ew := ew.symm; subst ew) | (go_at_call 99; refine (isDay_eq _ _ _ h4).mono ?_; rintro e w4 ⟨rfl, ew⟩; replace ew := ew.symm; subst ew))
    go_returns
    exact ⟨_, _, rfl, .inl rfl, by first | exact bel_on HB1.out ((Below.refl _ _).alloc (Nat.le_refl _) _) | go_grown⟩
  cases h3 : inB q 0 1000000
  · have HV : Hid (rkB ouB n c a q d = false ∧ rkM ouB n c a q d = 0) := hid (by
      have e : rkB ouB n c a q d = false := by simp [rkB, akB, h1, h2, h3]
      exact ⟨e, HFA.out e⟩)
    rw [HV.out.1, HV.out.2]
    go_enter Try.func50, Try.ntmps50
    go_wp2_with (first | (go_at_call 38; refine (implItems_eq ad n cap c _ _ h HZ.out HR.out h1).mono ?_; rintro e w1 ⟨rfl, b1⟩; have HB1 : Hid (Below w.heap.size w w1) := b1; clear b1) | (go_at_call 98; refine (isPlace_eq _ _ _ _ h2).mono ?_; rintro e w2 ⟨rfl, ew⟩; replace ew := ew.symm; subst ew) | (go_at_call 76; refine (isQty_eq _ _ _ h3).mono ?_; rintro e w3 ⟨rfl, ew⟩; replace ew := ew.symm; subst ew) | (go_at_call 99; refine (isDay_eq _ _ _ h4).mono ?_; rintro e w4 ⟨rfl, ew⟩; replace ew := ew.symm; subst ew))
    go_returns
    exact ⟨_, _, rfl, .inl rfl, by first | exact bel_on HB1.out ((Below.refl _ _).alloc (Nat.le_refl _) _) | go_grown⟩
  cases h4 : inB d 0 40000
  · have HV : Hid (rkB ouB n c a q d = false ∧ rkM ouB n c a q d = 0) := hid (by
      have e : rkB ouB n c a q d = false := by simp [rkB, akB, h1, h2, h3, h4]
      exact ⟨e, HFA.out e⟩)
    rw [HV.out.1, HV.out.2]
    go_enter Try.func50, Try.ntmps50
    go_wp2_with (first | (go_at_call 38; refine (implItems_eq ad n cap c _ _ h HZ.out HR.out h1).mono ?_; rintro e w1 ⟨rfl, b1⟩; have HB1 : Hid (Below w.heap.size w w1) := b1; clear b1) | (go_at_call 98; refine (isPlace_eq _ _ _ _ h2).mono ?_; rintro e w2 ⟨rfl, ew⟩; replace ew := ew.symm; subst ew) | (go_at_call 76; refine (isQty_eq _ _ _ h3).mono ?_; rintro e w3 ⟨rfl, ew⟩; replace ew := ew.symm; subst ew) | (go_at_call 99; refine (isDay_eq _ _ _ h4).mono ?_; rintro e w4 ⟨rfl, ew⟩; replace ew := ew.symm; subst ew))
    go_returns
    exact ⟨_, _, rfl, .inl rfl, by first | exact bel_on HB1.out ((Below.refl _ _).alloc (Nat.le_refl _) _) | go_grown⟩
  have hak : akB n c a q d = true := by simp [akB, h1, h2, h3, h4]
  obtain ⟨ha0, ha1⟩ := inB_t h2
  obtain ⟨hq0, hq1⟩ := inB_t h3
  obtain ⟨i, rfl⟩ : ∃ i : Nat, a = (i : Int) := ⟨a.toNat, by omega⟩
  have hi : i < n := by omega
  have hn60 : (n : Int) ≤ 60 := by have := (isB_p h1).1; omega
  have hmk := mkI n (by omega)
  simp only [Int.toNat_natCast]
  have HKK : Hid (∀ w1 : World, Below w.heap.size w w1 → Calls Try.prog 97 #[.pointer (some ⟨w1.heap.size + 1, 0, none⟩), .int .i64 (i : Int), .int .i64 q] ((w1.alloc (.cells (zeros n) 3)).alloc (.cells #[.slice ad n cap, .int .i64 d, .slice (some ⟨w1.heap.size, 0, none⟩) n n] 109 (0, 0))) (ApP2 ad n cap d (w1.heap.size + 1) w1.heap.size (ouF n c d i q) (ouB n c d i q) ((w1.alloc (.cells (zeros n) 3)).alloc (.cells #[.slice ad n cap, .int .i64 d, .slice (some ⟨w1.heap.size, 0, none⟩) n n] 109 (0, 0))))) := hid (fun w1 b => by
    have I1 : IB ((w1.alloc (.cells (zeros n) 3)).alloc (.cells #[.slice ad n cap, .int .i64 d, .slice (some ⟨w1.heap.size, 0, none⟩) n n] 109 (0, 0))) w1.heap.size n z0 := ⟨zeros n, (CB.new _ _).alloc _, fun j hj => zeros_get hj⟩
    have M1 : CB ((w1.alloc (.cells (zeros n) 3)).alloc (.cells #[.slice ad n cap, .int .i64 d, .slice (some ⟨w1.heap.size, 0, none⟩) n n] 109 (0, 0))) (w1.heap.size + 1) #[.slice ad n cap, .int .i64 d, .slice (some ⟨w1.heap.size, 0, none⟩) n n] 109 := CB.newAt (by simp) _ _
    exact bring_any ad n cap c d _ _ z0 i q _ h1 ⟨M1, I1, by omega⟩ ⟨w, b.size, HR.out, bel_on b (((Below.refl _ _).alloc (Nat.le_refl _) _).alloc (by simp) _)⟩ z0_q hi hq0 hq1)
  have HRB : Hid (rkB ouB n c (i : Int) q d = ouB n c d i q ∧ rkM ouB n c (i : Int) q d = if ouB n c d i q = true then n else 0) := hid (by
    have e : rkB ouB n c (i : Int) q d = ouB n c d i q := by unfold rkB; rw [hak, Int.toNat_natCast]; rfl
    exact ⟨e, by unfold rkM; rw [e]⟩)
  rw [HRB.out.1, HRB.out.2]
  clear hak ha0 ha1 hq0 hq1 HRB HFA
  generalize ouB n c d i q = TV at *
  generalize ouF n c d i q = G at *
  cases TV
  · simp only [Bool.false_eq_true, if_false]
    go_enter Try.func50, Try.ntmps50
    go_wp2_with (first | (go_at_call 38; refine (implItems_eq ad n cap c _ _ h HZ.out HR.out h1).mono ?_; rintro e w1 ⟨rfl, b1⟩; have HB1 : Hid (Below w.heap.size w w1) := b1; clear b1) | (go_at_call 98; refine (isPlace_eq _ _ _ _ h2).mono ?_; rintro e w2 ⟨rfl, ew⟩; replace ew := ew.symm; subst ew) | (go_at_call 76; refine (isQty_eq _ _ _ h3).mono ?_; rintro e w3 ⟨rfl, ew⟩; replace ew := ew.symm; subst ew) | (go_at_call 99; refine (isDay_eq _ _ _ h4).mono ?_; rintro e w4 ⟨rfl, ew⟩; replace ew := ew.symm; subst ew) | (go_at_call 97; refine (HKK.out _ HB1.out).mono ?_; rintro e w5 ⟨rfl, b5, g5⟩; have HB5 : Hid (Below w.heap.size w w5) := hid ((bel_on HB1.out (((Below.refl _ _).alloc (Nat.le_refl _) _).alloc (by simp) _)).trans (b5.2.mono HB1.out.size)); clear b5 g5))
    go_returns
    exact ⟨_, _, rfl, .inl rfl, bel_on HB5.out ((Below.refl _ _).alloc (Nat.le_refl _) _)⟩
  · simp only [if_true]
    go_enter Try.func50, Try.ntmps50
    go_wp2_with (first | (go_at_call 38; refine (implItems_eq ad n cap c _ _ h HZ.out HR.out h1).mono ?_; rintro e w1 ⟨rfl, b1⟩; have HB1 : Hid (Below w.heap.size w w1) := b1; clear b1) | (go_at_call 98; refine (isPlace_eq _ _ _ _ h2).mono ?_; rintro e w2 ⟨rfl, ew⟩; replace ew := ew.symm; subst ew) | (go_at_call 76; refine (isQty_eq _ _ _ h3).mono ?_; rintro e w3 ⟨rfl, ew⟩; replace ew := ew.symm; subst ew) | (go_at_call 99; refine (isDay_eq _ _ _ h4).mono ?_; rintro e w4 ⟨rfl, ew⟩; replace ew := ew.symm; subst ew) | (go_at_call 97; refine (HKK.out _ HB1.out).mono ?_; rintro e w5 ⟨rfl, b5, g5⟩; have HB5 : Hid (Below w.heap.size w w5 ∧ MG ad n cap d (w1.heap.size + 1) w1.heap.size G w5 ∧ w.heap.size ≤ w1.heap.size) := hid ⟨(bel_on HB1.out (((Below.refl _ _).alloc (Nat.le_refl _) _).alloc (by simp) _)).trans (b5.2.mono HB1.out.size), g5 rfl, HB1.out.size⟩; have j2 : w5.cell? ⟨w1.heap.size + 1, 2, none⟩ = some (.slice (some ⟨w1.heap.size, 0, none⟩) n n) := (HB5.out.2.1.m.cell 2).trans rfl; clear b5 g5))
    go_returns
    exact ⟨_, _, rfl, HB5.out.2.1.q.own HB5.out.2.2, HB5.out.1⟩
set_option maxRecDepth 20000 in
set_option maxHeartbeats 2000000 in
theorem implOutput_any (ad : Option Addr) (n cap : Nat) (c : Nat → IT) (a q d : Int) (w : World) (h : (n : Int) ≤ 1048576) (hz : IZ n c) (hr : ITr w ad n c) :
    Calls Try.prog 45 #[.slice ad n cap, .int .i64 a, .int .i64 q, .int .i64 d] w fun e w' => ∃ ad cap, e = .returned (.tuple #[.slice ad (rkM ouB n c a q d) cap, .bool (rkB ouB n c a q d)]) ∧ OwnI w' w.heap.size ad (rkM ouB n c a q d) (ouF n c d a.toNat q) ∧ Below w.heap.size w w' := by
  have HK := hid (reckon_ou ad n cap c a q d w h hz hr)
  clear hz hr
  generalize rkM ouB n c a q d = M at *
  generalize rkB ouB n c a q d = TV at *
  generalize ouF n c d a.toNat q = G at *
  obtain ⟨fv, hf⟩ : ∃ f, Value.func (Fn.func 97) #[] #[] = f := ⟨_, rfl⟩
  rw [hf] at HK
  go_enter Try.func45, Try.ntmps45
  go_wp2_with (go_at_call 50; refine HK.out.mono ?_; rintro e w1 ⟨ad2, cap2, rfl, o1, b1⟩; have HO : Hid (OwnI w1 w.heap.size ad2 M G ∧ Below w.heap.size w w1) := hid ⟨o1, b1⟩; clear o1 b1)
  go_returns
  exact ⟨_, _, rfl, HO.out⟩
end Go.Proofs.Ytmbdeafpfdeigaa
