/- Lays: one that is right (laB), both sides; areRight of the program over lays, of at most M, answers arB. -/
import Derived.Test.YtdgccdlaokbnhaaLa
import Derived.Test.YtdgccdlaokbnhaaSm
import Derived.Deep.QuietTactic
namespace Go.Proofs.Ytdgccdlaokbnhaa
open Go.ChangeShapes Go.WideShapes Go.ChangeAt Go.RowKit
set_option linter.unusedVariables false
set_option linter.unusedSimpArgs false

/-- The lowest place from s on, of f places, at which p holds; -1 if there is none. -/
def fstF (p : Nat → Bool) : Nat → Nat → Int
  | 0, _ => -1
  | f + 1, s => if p s = true then (s : Int) else fstF p f (s + 1)
theorem fstF_hit {p : Nat → Bool} {len k : Nat} (hk : k < len) (h : p k = true) : fstF p (len - k) k = (k : Int) := by
  obtain ⟨f, hf⟩ : ∃ f, len - k = f + 1 := ⟨len - k - 1, by omega⟩
  rw [hf]; exact if_pos h
theorem fstF_miss {p : Nat → Bool} {len k : Nat} (hk : k < len) (h : p k = false) : fstF p (len - k) k = fstF p (len - (k + 1)) (k + 1) := by
  obtain ⟨f, hf⟩ : ∃ f, len - k = f + 1 := ⟨len - k - 1, by omega⟩
  rw [hf, show len - (k + 1) = f by omega]; exact if_neg (by rw [h]; decide)
theorem fstF_end {p : Nat → Bool} {k : Nat} : fstF p (k - k) k = -1 := by rw [Nat.sub_self]; rfl
theorem fstF_spec (p : Nat → Bool) : ∀ f s, (fstF p f s = -1 ∧ ∀ j, s ≤ j → j < s + f → p j = false) ∨ ∃ k : Nat, fstF p f s = (k : Int) ∧ s ≤ k ∧ k < s + f ∧ p k = true ∧ ∀ j, s ≤ j → j < k → p j = false
  | 0, s => .inl ⟨rfl, fun j h1 h2 => by omega⟩
  | f + 1, s => by
    cases h : p s
    · have e : fstF p (f + 1) s = fstF p f (s + 1) := if_neg (by rw [h]; decide)
      rcases fstF_spec p f (s + 1) with ⟨h1, h2⟩ | ⟨k, h1, h2, h3, h4, h5⟩
      · refine .inl ⟨e.trans h1, fun j g1 g2 => ?_⟩
        by_cases q : j = s
        · subst q; exact h
        · exact h2 j (by omega) (by omega)
      · refine .inr ⟨k, e.trans h1, by omega, by omega, h4, fun j g1 g2 => ?_⟩
        by_cases q : j = s
        · subst q; exact h
        · exact h5 j (by omega) g2
    · exact .inr ⟨s, if_pos h, by omega, by omega, h, fun j g1 g2 => by omega⟩


def LA2.val (r : LA2) : Value := .agg #[.int .i64 r.qty, .int .i64 r.cost]
def laB (r : LA2) : Bool := inB r.qty 1 1000000 && inB r.cost 0 100000000000
def ArP (M n : Nat) (c : Nat → LA2) : Prop := n ≤ M ∧ ∀ j, j < n → laB (c j) = true
open Classical in
noncomputable def arB (M n : Nat) (c : Nat → LA2) : Bool := decide (ArP M n c)
open Classical in
theorem arB_t {M n : Nat} {c : Nat → LA2} (h : ArP M n c) : arB M n c = true := by unfold arB; exact decide_eq_true h
open Classical in
theorem arB_f {M n : Nat} {c : Nat → LA2} (h : ¬ ArP M n c) : arB M n c = false := by unfold arB; exact decide_eq_false h
open Classical in
theorem arB_p {M n : Nat} {c : Nat → LA2} (h : arB M n c = true) : ArP M n c := by unfold arB at h; exact of_decide_eq_true h
theorem arB_bad {M n j : Nat} {c : Nat → LA2} (hj : j < n) (h : laB (c j) = false) : arB M n c = false := arB_f fun H => by have := H.2 j hj; rw [h] at this; cases this
theorem laB_p {r : LA2} (h : laB r = true) : (1 ≤ r.qty ∧ r.qty ≤ 1000000) ∧ (0 ≤ r.cost ∧ r.cost ≤ 100000000000) := by
  unfold laB at h
  simp only [Bool.and_eq_true] at h
  exact ⟨inB_t h.1, inB_t h.2⟩

set_option maxRecDepth 20000 in
set_option maxHeartbeats 4000000 in
theorem laRight_any (r : LA2) (w : World) : Calls Try.prog 77 #[r.val] w fun e w' => e = .returned (.bool (laB r)) ∧ Below w.heap.size w w' := by
  obtain ⟨d, a⟩ := r
  unfold LA2.val
  cases hn : inB d 1 1000000
  · have HV : Hid (false = laB ⟨d, a⟩) := hid (by simp [laB, hn])
    go_enter Try.func77, Try.ntmps77
    go_wp2_with (first | (go_at_call 80; refine (isQtyA_any _ _).mono ?_; rintro e w1 ⟨rfl, rfl⟩) | (go_at_call 65; refine (isAmt0_any _ _).mono ?_; rintro e w1 ⟨rfl, rfl⟩))
    go_returns
    exact ⟨ret_bool HV.out, by go_grown⟩
  cases hq : inB a 0 100000000000
  · have HV : Hid (false = laB ⟨d, a⟩) := hid (by simp [laB, hn, hq])
    go_enter Try.func77, Try.ntmps77
    go_wp2_with (first | (go_at_call 80; refine (isQtyA_any _ _).mono ?_; rintro e w1 ⟨rfl, rfl⟩) | (go_at_call 65; refine (isAmt0_any _ _).mono ?_; rintro e w1 ⟨rfl, rfl⟩))
    go_returns
    exact ⟨ret_bool HV.out, by go_grown⟩
  have HV : Hid (true = laB ⟨d, a⟩) := hid (by simp [laB, hn, hq])
  go_enter Try.func77, Try.ntmps77
  go_wp2_with (first | (go_at_call 80; refine (isQtyA_any _ _).mono ?_; rintro e w1 ⟨rfl, rfl⟩) | (go_at_call 65; refine (isAmt0_any _ _).mono ?_; rintro e w1 ⟨rfl, rfl⟩))
  go_returns
  exact ⟨ret_bool HV.out, by go_grown⟩
theorem laRight_eq (r : LA2) (v : Bool) (w : World) (h : laB r = v) : Calls Try.prog 77 #[r.val] w fun e w' => e = .returned (.bool v) ∧ Below w.heap.size w w' := by
  subst h; exact laRight_any r w
theorem laWrong_eq (r : LA2) (v : Bool) (w : World) (h : laB r = v) : Calls Try.prog 93 #[r.val] w fun e w' => e = .returned (.bool (!v)) ∧ Below w.heap.size w w' := by
  have HV : Hid (laB r = v) := h
  clear h
  obtain ⟨d, a⟩ := r
  unfold LA2.val
  have hn : ∀ w, (nilAhead 275 40 (.agg #[.int .i64 d, .int .i64 a]) "loop.example/g00040/impl.isRight").run Try.prog w = .ok (some false) w := fun w => by kernel_rfl
  have hm : ∀ w, (method 275 40 (.agg #[.int .i64 d, .int .i64 a]) "loop.example/g00040/impl.isRight").run Try.prog w = .ok (77, .agg #[.int .i64 d, .int .i64 a]) w := fun w => by kernel_rfl
  go_enter Try.func93, Try.ntmps93
  go_wp2_with (go_at_call 77; refine (laRight_eq ⟨d, a⟩ _ _ HV.out).mono ?_; rintro e w1 ⟨rfl, b1⟩; have HB : Hid (Below w.heap.size w w1) := bel_on ((Below.refl _ _).alloc (Nat.le_refl _) _) b1; clear b1)
  go_returns
  exact ⟨rfl, HB.out⟩

set_option maxRecDepth 20000 in
set_option maxHeartbeats 2000000 in
theorem idxLay_any (ad : Option Addr) (len cap : Nat) (c : Nat → LA2) (w : World) (h : (len : Int) ≤ 1048576) (hr : LAr w ad len c) :
    Calls Try.prog 107 #[.slice ad len cap, .func (Fn.func 93) #[] #[]] w fun e w' => e = .returned (.int .i64 (fstF (fun j => !laB (c j)) len 0)) ∧ Below w.heap.size w w' := by
  have HR : Hid (LAr w ad len c) := hr
  clear hr
  go_enter Try.func107, Try.ntmps107
  go_wp2
  go_loopw [8] (fun i wr => ∃ k : Nat, k ≤ len ∧ i = .int .i64 (k : Int) ∧ Hid (fstF (fun j => !laB (c j)) (len - k) k = fstF (fun j => !laB (c j)) len 0) ∧ Hid (Below w.heap.size w wr)) (fun i _ => len - (intOf i).toNat)
  case atStart => exact ⟨0, Nat.zero_le _, rfl, rfl, Below.refl _ _⟩
  case round =>
    obtain ⟨k, hk, rfl, hP, HB⟩ := hrel
    by_cases hlt : k < len
    · have hlt2 : (k : Int) < (len : Int) := by omega
      obtain ⟨kb, off, rfl, _⟩ := HR.out.addr (by omega)
      obtain ⟨c0, c1⟩ := (HR.out.below HB.out).cell hlt
      cases g : laB (c k)
      · have HF : Hid (fstF (fun j => !laB (c j)) len 0 = (k : Int)) := hid (by rw [← hP.out]; exact fstF_hit hlt (by simp [g]))
        have HG : Hid (laB (c k) = false) := g
        clear g
        go_wp2_with (go_at_call 93; refine (laWrong_eq (c k) _ _ HG.out).mono ?_; rintro e w1 ⟨rfl, b1⟩; have HB1 : Hid (Below w.heap.size w w1) := bel_on HB.out b1; clear b1)
        go_returns
        exact ⟨ret_i HF.out.symm, HB1.out⟩
      · have HF : Hid (fstF (fun j => !laB (c j)) (len - (k + 1)) (k + 1) = fstF (fun j => !laB (c j)) len 0) := hid (by rw [← hP.out]; exact (fstF_miss hlt (by simp [g])).symm)
        have HG : Hid (laB (c k) = true) := g
        clear g
        go_wp2_with (go_at_call 93; refine (laWrong_eq (c k) _ _ HG.out).mono ?_; rintro e w1 ⟨rfl, b1⟩; have HB1 : Hid (Below w.heap.size w w1) := bel_on HB.out b1; clear b1)
        go_roundw
        case rel => exact ⟨k + 1, by omega, by go_num, HF, HB1⟩
        case measure => simp [intOf]; omega
    · obtain rfl : k = len := by omega
      have lkk : ¬ (k : Int) < (k : Int) := by omega
      have HF : Hid (fstF (fun j => !laB (c j)) k 0 = -1) := hid (by rw [← hP.out]; exact fstF_end)
      go_wp2
      go_returns
      exact ⟨ret_i HF.out.symm, HB.out⟩

theorem anyLay (ad : Option Addr) (len cap : Nat) (c : Nat → LA2) (v : Bool) (w : World) (h : (len : Int) ≤ 1048576) (hr : LAr w ad len c) (hv : decide (0 ≤ fstF (fun j => !laB (c j)) len 0) = v) :
    Calls Try.prog 92 #[.slice ad len cap, .func (Fn.func 93) #[] #[]] w fun e w' => e = .returned (.bool v) ∧ Below w.heap.size w w' := by
  have HC := idxLay_any ad len cap c w h hr
  obtain ⟨x, hx⟩ : ∃ x, fstF (fun j => !laB (c j)) len 0 = x := ⟨_, rfl⟩
  rw [hx] at HC hv
  have HC2 : Hid (Calls Try.prog 107 #[.slice ad len cap, .func (Fn.func 93) #[] #[]] w fun e w' => e = .returned (.int .i64 x) ∧ Below w.heap.size w w') := HC
  obtain ⟨fv, hf⟩ : ∃ f, Value.func (Fn.func 93) #[] #[] = f := ⟨_, rfl⟩
  rw [hf] at HC2 ⊢
  clear HC hr hx hf
  subst hv
  go_enter Try.func92, Try.ntmps92
  go_wp2_with (go_at_call 107; refine HC2.out.mono ?_; rintro e w1 ⟨rfl, b1⟩)
  all_goals go_returns
  all_goals exact ⟨rfl, b1⟩
theorem fst_arB {M len : Nat} {c : Nat → LA2} (h6 : len ≤ M) : arB M len c = !decide (0 ≤ fstF (fun j => !laB (c j)) len 0) := by
  rcases fstF_spec (fun j => !laB (c j)) len 0 with ⟨h, g⟩ | ⟨k, h, _, hk, hp, _⟩
  · rw [h, arB_t ⟨h6, fun j hj => by have := g j (by omega) (by omega); simpa using this⟩]; rfl
  · rw [h, arB_bad (j := k) (by omega) (by simpa using hp)]; simp

set_option maxRecDepth 20000 in
set_option maxHeartbeats 2000000 in
theorem areLay_any (M : Nat) (ad : Option Addr) (len cap : Nat) (c : Nat → LA2) (w : World) (h : (len : Int) ≤ 1048576) (hr : LAr w ad len c) :
    Calls Try.prog 61 #[.slice ad len cap, .int .i64 (M : Int)] w fun e w' => e = .returned (.bool (arB M len c)) ∧ Below w.heap.size w w' := by
  have HR : Hid (LAr w ad len c) := hr
  clear hr
  by_cases h6 : (M : Int) < (len : Int)
  · have HV : Hid (arB M len c = false) := arB_f fun H => by have := H.1; omega
    have h7 : ¬ (len : Int) ≤ (M : Int) := by omega
    go_enter Try.func61, Try.ntmps61
    go_wp2
    go_returns
    exact ⟨ret_bool HV.out.symm, Below.refl _ _⟩
  have g6 : (len : Int) ≤ (M : Int) := by omega
  clear h6
  obtain ⟨v, hv⟩ : ∃ v, decide (0 ≤ fstF (fun j => !laB (c j)) len 0) = v := ⟨_, rfl⟩
  have HV : Hid (arB M len c = !v) := hid (by rw [fst_arB (by omega), hv])
  have HW : Hid (decide (0 ≤ fstF (fun j => !laB (c j)) len 0) = v) := hv
  clear hv
  go_enter Try.func61, Try.ntmps61
  go_wp2_with (go_at_call 92; refine (anyLay ad len cap c v w h HR.out HW.out).mono ?_; rintro e w1 ⟨rfl, b1⟩)
  go_returns
  exact ⟨ret_bool HV.out.symm, b1⟩

set_option maxRecDepth 20000 in
set_option maxHeartbeats 4000000 in
theorem l16Lay_any (r : LA2) (w : World) : Calls Try.prog 67 #[r.val] w fun e w' => e = .returned (.bool (laB r)) ∧ Below w.heap.size w w' := by
  obtain ⟨d, a⟩ := r
  unfold LA2.val
  cases hn : inB d 1 1000000
  · have HV : Hid (false = laB ⟨d, a⟩) := hid (by simp [laB, hn])
    go_enter Try.func67, Try.ntmps67
    go_wp2_with (go_at_call 60; refine (l1In_any _ _ _ _).mono ?_; rintro e w1 ⟨rfl, rfl⟩)
    go_returns
    exact ⟨ret_bool HV.out, by go_grown⟩
  cases hq : inB a 0 100000000000
  · have HV : Hid (false = laB ⟨d, a⟩) := hid (by simp [laB, hn, hq])
    go_enter Try.func67, Try.ntmps67
    go_wp2_with (go_at_call 60; refine (l1In_any _ _ _ _).mono ?_; rintro e w1 ⟨rfl, rfl⟩)
    go_returns
    exact ⟨ret_bool HV.out, by go_grown⟩
  have HV : Hid (true = laB ⟨d, a⟩) := hid (by simp [laB, hn, hq])
  go_enter Try.func67, Try.ntmps67
  go_wp2_with (go_at_call 60; refine (l1In_any _ _ _ _).mono ?_; rintro e w1 ⟨rfl, rfl⟩)
  go_returns
  exact ⟨ret_bool HV.out, by go_grown⟩
theorem l16Lay_eq (r : LA2) (v : Bool) (w : World) (h : laB r = v) : Calls Try.prog 67 #[r.val] w fun e w' => e = .returned (.bool v) ∧ Below w.heap.size w w' := by
  subst h; exact l16Lay_any r w
end Go.Proofs.Ytdgccdlaokbnhaa
