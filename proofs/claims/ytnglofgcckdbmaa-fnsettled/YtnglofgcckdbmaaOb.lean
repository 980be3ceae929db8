/- Open items: one that is right, a list that is right; areOpen of the program and l13Open of the model answer 'opB'. -/
import Derived.Test.YtnglofgcckdbmaaOa
import Derived.Test.YtnglofgcckdbmaaSm
import Derived.Deep.QuietTactic
namespace Go.Proofs.Ytnglofgcckdbmaa
open Go.ChangeShapes Go.WideShapes Go.ChangeAt Go.RowKit
set_option linter.unusedVariables false
set_option linter.unusedSimpArgs false

/-- The lowest place from s on, of f places, at which p holds; -1 if there is none. -/
def fstF (p : Nat → Bool) : Nat → Nat → Int
  | 0, _ => -1
  | f + 1, s => if p s = true then (s : Int) else fstF p f (s + 1)
theorem fstF_hit {p : Nat → Bool} {len k : Nat} (hk : k < len) (h : p k = true) : fstF p (len - k) k = (k : Int) := by
  obtain ⟨f, hf⟩ : ∃ f, len - k = f + 1 := ⟨len - k - 1, by omega⟩
  rw [hf]; exact if_pos h
theorem fstF_miss {p : Nat → Bool} {len k : Nat} (hk : k < len) (h : p k = false) : fstF p (len - k) k = fstF p (len - (k + 1)) (k + 1) := by
  obtain ⟨f, hf⟩ : ∃ f, len - k = f + 1 := ⟨len - k - 1, by omega⟩
  rw [hf, show len - (k + 1) = f by omega]; exact if_neg (by rw [h]; decide)
theorem fstF_end {p : Nat → Bool} {k : Nat} : fstF p (k - k) k = -1 := by rw [Nat.sub_self]; rfl
theorem fstF_spec (p : Nat → Bool) : ∀ f s, (fstF p f s = -1 ∧ ∀ j, s ≤ j → j < s + f → p j = false) ∨ ∃ k : Nat, fstF p f s = (k : Int) ∧ s ≤ k ∧ k < s + f ∧ p k = true ∧ ∀ j, s ≤ j → j < k → p j = false
  | 0, s => .inl ⟨rfl, fun j h1 h2 => by omega⟩
  | f + 1, s => by
    cases h : p s
    · have e : fstF p (f + 1) s = fstF p f (s + 1) := if_neg (by rw [h]; decide)
      rcases fstF_spec p f (s + 1) with ⟨h1, h2⟩ | ⟨k, h1, h2, h3, h4, h5⟩
      · refine .inl ⟨e.trans h1, fun j g1 g2 => ?_⟩
        by_cases q : j = s
        · subst q; exact h
        · exact h2 j (by omega) (by omega)
      · refine .inr ⟨k, e.trans h1, by omega, by omega, h4, fun j g1 g2 => ?_⟩
        by_cases q : j = s
        · subst q; exact h
        · exact h5 j (by omega) g2
    · exact .inr ⟨s, if_pos h, by omega, by omega, h, fun j g1 g2 => by omega⟩


def OI2.val (r : OI2) : Value := .agg #[.int .i64 r.day, .int .i64 r.amount]
def oiB (r : OI2) : Bool := inB r.day 0 40000 && inB r.amount 1 100000000000
def OpP (n : Nat) (c : Nat → OI2) : Prop := n ≤ 100 ∧ ∀ j, j < n → oiB (c j) = true
open Classical in
noncomputable def opB (n : Nat) (c : Nat → OI2) : Bool := decide (OpP n c)
open Classical in
theorem opB_t {n : Nat} {c : Nat → OI2} (h : OpP n c) : opB n c = true := by unfold opB; exact decide_eq_true h
open Classical in
theorem opB_f {n : Nat} {c : Nat → OI2} (h : ¬ OpP n c) : opB n c = false := by unfold opB; exact decide_eq_false h
open Classical in
theorem opB_p {n : Nat} {c : Nat → OI2} (h : opB n c = true) : OpP n c := by unfold opB at h; exact of_decide_eq_true h
theorem opB_bad {n j : Nat} {c : Nat → OI2} (hj : j < n) (h : oiB (c j) = false) : opB n c = false := opB_f fun H => by have := H.2 j hj; rw [h] at this; cases this
theorem oiB_p {r : OI2} (h : oiB r = true) : (0 ≤ r.day ∧ r.day ≤ 40000) ∧ (1 ≤ r.amount ∧ r.amount ≤ 100000000000) := by
  unfold oiB at h
  simp only [Bool.and_eq_true] at h
  exact ⟨inB_t h.1, inB_t h.2⟩

set_option maxRecDepth 20000 in
set_option maxHeartbeats 4000000 in
theorem oiRight_any (r : OI2) (w : World) : Calls Try.prog 180 #[r.val] w fun e w' => e = .returned (.bool (oiB r)) ∧ Below w.heap.size w w' := by
  obtain ⟨d, a⟩ := r
  unfold OI2.val
  cases hn : inB d 0 40000
  · have HV : Hid (false = oiB ⟨d, a⟩) := hid (by simp [oiB, hn])
    go_enter Try.func180, Try.ntmps180
    go_wp2_with (first | (go_at_call 45; refine (isDay_any _ _).mono ?_; rintro e w1 ⟨rfl, rfl⟩) | (go_at_call 175; refine (isAmtA_any _ _).mono ?_; rintro e w1 ⟨rfl, rfl⟩))
    go_returns
    exact ⟨ret_bool HV.out, by go_grown⟩
  cases hq : inB a 1 100000000000
  · have HV : Hid (false = oiB ⟨d, a⟩) := hid (by simp [oiB, hn, hq])
    go_enter Try.func180, Try.ntmps180
    go_wp2_with (first | (go_at_call 45; refine (isDay_any _ _).mono ?_; rintro e w1 ⟨rfl, rfl⟩) | (go_at_call 175; refine (isAmtA_any _ _).mono ?_; rintro e w1 ⟨rfl, rfl⟩))
    go_returns
    exact ⟨ret_bool HV.out, by go_grown⟩
  have HV : Hid (true = oiB ⟨d, a⟩) := hid (by simp [oiB, hn, hq])
  go_enter Try.func180, Try.ntmps180
  go_wp2_with (first | (go_at_call 45; refine (isDay_any _ _).mono ?_; rintro e w1 ⟨rfl, rfl⟩) | (go_at_call 175; refine (isAmtA_any _ _).mono ?_; rintro e w1 ⟨rfl, rfl⟩))
  go_returns
  exact ⟨ret_bool HV.out, by go_grown⟩
theorem oiRight_eq (r : OI2) (v : Bool) (w : World) (h : oiB r = v) : Calls Try.prog 180 #[r.val] w fun e w' => e = .returned (.bool v) ∧ Below w.heap.size w w' := by
  subst h; exact oiRight_any r w
theorem oiWrong_eq (r : OI2) (v : Bool) (w : World) (h : oiB r = v) : Calls Try.prog 134 #[r.val] w fun e w' => e = .returned (.bool (!v)) ∧ Below w.heap.size w w' := by
  have HV : Hid (oiB r = v) := h
  clear h
  obtain ⟨d, a⟩ := r
  unfold OI2.val
  have hn : ∀ w, (nilAhead 299 60 (.agg #[.int .i64 d, .int .i64 a]) "loop.example/g00040/impl.isRight").run Try.prog w = .ok (some false) w := fun w => by kernel_rfl
  have hm : ∀ w, (method 299 60 (.agg #[.int .i64 d, .int .i64 a]) "loop.example/g00040/impl.isRight").run Try.prog w = .ok (180, .agg #[.int .i64 d, .int .i64 a]) w := fun w => by kernel_rfl
  go_enter Try.func134, Try.ntmps134
  go_wp2_with (go_at_call 180; refine (oiRight_eq ⟨d, a⟩ _ _ HV.out).mono ?_; rintro e w1 ⟨rfl, b1⟩; have HB : Hid (Below w.heap.size w w1) := bel_on ((Below.refl _ _).alloc (Nat.le_refl _) _) b1; clear b1)
  go_returns
  exact ⟨rfl, HB.out⟩

set_option maxRecDepth 20000 in
set_option maxHeartbeats 2000000 in
theorem idxOpen_any (ad : Option Addr) (len cap : Nat) (c : Nat → OI2) (w : World) (h : (len : Int) ≤ 1048576) (hr : OIr w ad len c) :
    Calls Try.prog 142 #[.slice ad len cap, .func (Fn.func 134) #[] #[]] w fun e w' => e = .returned (.int .i64 (fstF (fun j => !oiB (c j)) len 0)) ∧ Below w.heap.size w w' := by
  have HR : Hid (OIr w ad len c) := hr
  clear hr
  go_enter Try.func142, Try.ntmps142
  go_wp2
  go_loopw [8] (fun i wr => ∃ k : Nat, k ≤ len ∧ i = .int .i64 (k : Int) ∧ Hid (fstF (fun j => !oiB (c j)) (len - k) k = fstF (fun j => !oiB (c j)) len 0) ∧ Hid (Below w.heap.size w wr)) (fun i _ => len - (intOf i).toNat)
  case atStart => exact ⟨0, Nat.zero_le _, rfl, rfl, Below.refl _ _⟩
  case round =>
    obtain ⟨k, hk, rfl, hP, HB⟩ := hrel
    by_cases hlt : k < len
    · have hlt2 : (k : Int) < (len : Int) := by omega
      obtain ⟨kb, off, rfl, _⟩ := HR.out.addr (by omega)
      obtain ⟨c0, c1⟩ := (HR.out.below HB.out).cell hlt
      cases g : oiB (c k)
      · have HF : Hid (fstF (fun j => !oiB (c j)) len 0 = (k : Int)) := hid (by rw [← hP.out]; exact fstF_hit hlt (by simp [g]))
        have HG : Hid (oiB (c k) = false) := g
        clear g
        go_wp2_with (go_at_call 134; refine (oiWrong_eq (c k) _ _ HG.out).mono ?_; rintro e w1 ⟨rfl, b1⟩; have HB1 : Hid (Below w.heap.size w w1) := bel_on HB.out b1; clear b1)
        go_returns
        exact ⟨ret_i HF.out.symm, HB1.out⟩
      · have HF : Hid (fstF (fun j => !oiB (c j)) (len - (k + 1)) (k + 1) = fstF (fun j => !oiB (c j)) len 0) := hid (by rw [← hP.out]; exact (fstF_miss hlt (by simp [g])).symm)
        have HG : Hid (oiB (c k) = true) := g
        clear g
        go_wp2_with (go_at_call 134; refine (oiWrong_eq (c k) _ _ HG.out).mono ?_; rintro e w1 ⟨rfl, b1⟩; have HB1 : Hid (Below w.heap.size w w1) := bel_on HB.out b1; clear b1)
        go_roundw
        case rel => exact ⟨k + 1, by omega, by go_num, HF, HB1⟩
        case measure => simp [intOf]; omega
    · obtain rfl : k = len := by omega
      have lkk : ¬ (k : Int) < (k : Int) := by omega
      have HF : Hid (fstF (fun j => !oiB (c j)) k 0 = -1) := hid (by rw [← hP.out]; exact fstF_end)
      go_wp2
      go_returns
      exact ⟨ret_i HF.out.symm, HB.out⟩

theorem anyOpen (ad : Option Addr) (len cap : Nat) (c : Nat → OI2) (v : Bool) (w : World) (h : (len : Int) ≤ 1048576) (hr : OIr w ad len c) (hv : decide (0 ≤ fstF (fun j => !oiB (c j)) len 0) = v) :
    Calls Try.prog 133 #[.slice ad len cap, .func (Fn.func 134) #[] #[]] w fun e w' => e = .returned (.bool v) ∧ Below w.heap.size w w' := by
  have HC := idxOpen_any ad len cap c w h hr
  obtain ⟨x, hx⟩ : ∃ x, fstF (fun j => !oiB (c j)) len 0 = x := ⟨_, rfl⟩
  rw [hx] at HC hv
  have HC2 : Hid (Calls Try.prog 142 #[.slice ad len cap, .func (Fn.func 134) #[] #[]] w fun e w' => e = .returned (.int .i64 x) ∧ Below w.heap.size w w') := HC
  obtain ⟨fv, hf⟩ : ∃ f, Value.func (Fn.func 134) #[] #[] = f := ⟨_, rfl⟩
  rw [hf] at HC2 ⊢
  clear HC hr hx hf
  subst hv
  go_enter Try.func133, Try.ntmps133
  go_wp2_with (go_at_call 142; refine HC2.out.mono ?_; rintro e w1 ⟨rfl, b1⟩)
  all_goals go_returns
  all_goals exact ⟨rfl, b1⟩
theorem fst_opB {len : Nat} {c : Nat → OI2} (h6 : len ≤ 100) : opB len c = !decide (0 ≤ fstF (fun j => !oiB (c j)) len 0) := by
  rcases fstF_spec (fun j => !oiB (c j)) len 0 with ⟨h, g⟩ | ⟨k, h, _, hk, hp, _⟩
  · rw [h, opB_t ⟨h6, fun j hj => by have := g j (by omega) (by omega); simpa using this⟩]; rfl
  · rw [h, opB_bad (j := k) (by omega) (by simpa using hp)]; simp

set_option maxRecDepth 20000 in
set_option maxHeartbeats 2000000 in
theorem areROpen_any (ad : Option Addr) (len cap : Nat) (c : Nat → OI2) (w : World) (h : (len : Int) ≤ 1048576) (hr : OIr w ad len c) :
    Calls Try.prog 107 #[.slice ad len cap, .int .i64 100] w fun e w' => e = .returned (.bool (opB len c)) ∧ Below w.heap.size w w' := by
  have HR : Hid (OIr w ad len c) := hr
  clear hr
  by_cases h6 : (100 : Int) < (len : Int)
  · have HV : Hid (opB len c = false) := opB_f fun H => by have := H.1; omega
    have h7 : ¬ (len : Int) ≤ 100 := by omega
    go_enter Try.func107, Try.ntmps107
    go_wp2
    go_returns
    exact ⟨ret_bool HV.out.symm, Below.refl _ _⟩
  have g6 : (len : Int) ≤ 100 := by omega
  clear h6
  obtain ⟨v, hv⟩ : ∃ v, decide (0 ≤ fstF (fun j => !oiB (c j)) len 0) = v := ⟨_, rfl⟩
  have HV : Hid (opB len c = !v) := hid (by rw [fst_opB (by omega), hv])
  have HW : Hid (decide (0 ≤ fstF (fun j => !oiB (c j)) len 0) = v) := hv
  clear hv
  go_enter Try.func107, Try.ntmps107
  go_wp2_with (go_at_call 133; refine (anyOpen ad len cap c v w h HR.out HW.out).mono ?_; rintro e w1 ⟨rfl, b1⟩)
  go_returns
  exact ⟨ret_bool HV.out.symm, b1⟩

theorem areOpen_any (ad : Option Addr) (len cap : Nat) (c : Nat → OI2) (w : World) (h : (len : Int) ≤ 1048576) (hr : OIr w ad len c) :
    Calls Try.prog 73 #[.slice ad len cap] w fun e w' => e = .returned (.bool (opB len c)) ∧ Below w.heap.size w w' := by
  have HR : Hid (OIr w ad len c) := hr
  clear hr
  go_enter Try.func73, Try.ntmps73
  go_wp2_with (go_at_call 107; refine (areROpen_any ad len cap c w h HR.out).mono ?_; rintro e w1 ⟨rfl, b1⟩)
  go_returns
  exact ⟨rfl, b1⟩

set_option maxRecDepth 20000 in
set_option maxHeartbeats 8000000 in
theorem specOpen_any (ad : Option Addr) (len cap : Nat) (c : Nat → OI2) (w : World) (h : (len : Int) ≤ 1048576) (hr : OIr w ad len c) :
    Calls Try.prog 77 #[.slice ad len cap] w fun e w' => e = .returned (.bool (opB len c)) ∧ w' = w := by
  have HR : Hid (OIr w ad len c) := hr
  clear hr
  by_cases h6 : (100 : Int) < (len : Int)
  · have HV : Hid (opB len c = false) := opB_f fun H => by have := H.1; omega
    go_enter Try.func77, Try.ntmps77
    go_wp2
    go_returns
    exact ⟨ret_bool HV.out.symm, rfl⟩
  have g6 : (len : Int) ≤ 100 := by omega
  clear h6
  go_enter Try.func77, Try.ntmps77
  go_wp2
  go_loopw [3] (fun i wr => ∃ (k : Nat), k ≤ len ∧ i = .int .i64 (k : Int) ∧ Hid ((∀ j, j < k → oiB (c j) = true) ∧ wr = w)) (fun i _ => len - (intOf i).toNat)
  case atStart => exact ⟨0, Nat.zero_le _, rfl, fun j hj => by omega, rfl⟩
  case round =>
    obtain ⟨k, hk, rfl, HH⟩ := hrel
    by_cases hlt : k < len
    · have hlt2 : (k : Int) < (len : Int) := by omega
      obtain ⟨kb, off, rfl, hkb⟩ := HR.out.addr (by omega)
      obtain ⟨c0, c1⟩ := (show OIr wr (some ⟨kb, off, none⟩) len c by rw [HH.out.2]; exact HR.out).cell hlt
      obtain ⟨r, hr⟩ : ∃ r, c k = r := ⟨_, rfl⟩
      have HX : Hid (c k = r) := hr
      rw [hr] at c0 c1
      obtain ⟨d, a⟩ := r
      simp only at c0 c1
      clear hr
      cases hn : inB d 0 40000
      · have HV : Hid (opB len c = false) := hid (opB_bad hlt (by rw [HX.out]; simp [oiB, hn]))
        go_wp2_with (first | (go_at_call 55; refine (l2Day_any _ _).mono ?_; rintro e w1 ⟨rfl, rfl⟩) | (go_at_call 56; refine (l1In_any _ _ _ _).mono ?_; rintro e w1 ⟨rfl, rfl⟩))
        go_returns
        exact ⟨ret_bool HV.out.symm, HH.out.2⟩
      cases hq : inB a 1 100000000000
      · have HV : Hid (opB len c = false) := hid (opB_bad hlt (by rw [HX.out]; simp [oiB, hn, hq]))
        go_wp2_with (first | (go_at_call 55; refine (l2Day_any _ _).mono ?_; rintro e w1 ⟨rfl, rfl⟩) | (go_at_call 56; refine (l1In_any _ _ _ _).mono ?_; rintro e w1 ⟨rfl, rfl⟩))
        go_returns
        exact ⟨ret_bool HV.out.symm, HH.out.2⟩
      have HG : Hid (∀ j, j < k + 1 → oiB (c j) = true) := hid (fun j hj => by by_cases e : j = k; (subst e; rw [HX.out]; simp [oiB, hn, hq]); (exact HH.out.1 j (by omega)))
      go_wp2_with (first | (go_at_call 55; refine (l2Day_any _ _).mono ?_; rintro e w1 ⟨rfl, rfl⟩) | (go_at_call 56; refine (l1In_any _ _ _ _).mono ?_; rintro e w1 ⟨rfl, rfl⟩))
      go_roundw
      case rel => exact ⟨k + 1, by omega, by go_num, HG.out, HH.out.2⟩
      case measure => simp [intOf]; omega
    · obtain rfl : k = len := by omega
      have lkk : ¬ (k : Int) < (k : Int) := by omega
      have HV : Hid (opB k c = true) := hid (opB_t ⟨by omega, HH.out.1⟩)
      go_wp2
      go_returns
      exact ⟨ret_bool HV.out.symm, HH.out.2⟩

end Go.Proofs.Ytnglofgcckdbmaa
