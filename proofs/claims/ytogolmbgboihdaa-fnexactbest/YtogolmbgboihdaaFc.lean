/- Jobs: one that is right; areRight of the program over them, of at most M. -/
import Derived.Test.YtogolmbgboihdaaFb
namespace Go.Proofs.Ytogolmbgboihdaa
open Go.ChangeShapes Go.WideShapes Go.ChangeAt Go.RowKit
set_option linter.unusedVariables false
set_option linter.unusedSimpArgs false

def JB.val (r : JB) (ra : Option Addr) (rc : Nat) : Value := .agg #[.int .i64 r.rdy, .int .i64 r.due, .int .i64 r.wgt, .slice ra r.rn rc]
def jaB (r : JB) : Bool := decide (0 ≤ r.rdy ∧ r.rdy ≤ 5000 ∧ 0 ≤ r.due ∧ r.due ≤ 5000 ∧ 0 ≤ r.wgt ∧ r.wgt ≤ 1000 ∧ 1 ≤ (r.rn : Int))
noncomputable def jbB (r : JB) : Bool := jaB r && arG tkB 8 r.rn r.rz
theorem jbB_p {r : JB} (h : jbB r = true) : (0 ≤ r.rdy ∧ r.rdy ≤ 5000 ∧ 0 ≤ r.due ∧ r.due ≤ 5000 ∧ 0 ≤ r.wgt ∧ r.wgt ≤ 1000 ∧ 1 ≤ (r.rn : Int)) ∧ ArG tkB 8 r.rn r.rz := by
  unfold jbB at h
  simp only [Bool.and_eq_true] at h
  exact ⟨of_decide_eq_true h.1, arG_p h.2⟩
theorem jbB_a {r : JB} (h : jaB r = false) : jbB r = false := by unfold jbB; rw [h]; rfl
theorem jbB_b {r : JB} (h : arG tkB 8 r.rn r.rz = false) : jbB r = false := by unfold jbB; rw [h]; simp
theorem jbB_c {r : JB} (h1 : jaB r = true) (h : arG tkB 8 r.rn r.rz = true) : jbB r = true := by unfold jbB; rw [h, h1]; rfl
set_option maxRecDepth 20000 in
set_option maxHeartbeats 4000000 in
theorem jbRight_eq (r : JB) (ra : Option Addr) (rc : Nat) (v : Bool) (w : World) (hN : (r.rn : Int) ≤ 1048576) (hR : TKr w ra r.rn r.rz) (h : jbB r = v) : Calls Try.prog 135 #[r.val ra rc] w fun e w' => e = .returned (.bool v) ∧ Below w.heap.size w w' := by
  subst h
  have HR : Hid (TKr w ra r.rn r.rz) := hR
  have HBL : Hid (Below w.heap.size w (w.alloc (.cells #[.int .i64 r.rdy, .int .i64 r.due, .int .i64 r.wgt, .slice ra r.rn rc] 34 (0, 0)))) := (Below.refl _ _).alloc (Nat.le_refl _) _
  clear hR
  obtain ⟨x0, x1, x2, n, z⟩ := r
  unfold JB.val
  cases h0 : inB x0 0 5000
  · have HV : Hid (false = jbB ⟨x0, x1, x2, n, z⟩) := hid ((jbB_a (decide_eq_false (by have := inB_f h0; simp only; omega))).symm)
    go_enter Try.func135, Try.ntmps135
    go_wp2_with (first | (go_at_call 57; refine (isHour_any _ _).mono ?_; rintro e w1 ⟨rfl, rfl⟩) | (go_at_call 136; refine (areTask_any 8 ra n rc z _ hN (HR.out.below HBL.out)).mono ?_; rintro e w1 ⟨rfl, b1⟩; have HB1 : Hid (Below w.heap.size w w1) := bel_on HBL.out b1; clear b1))
    go_returns
    exact ⟨ret_bool HV.out, HBL.out⟩
  cases h1 : inB x1 0 5000
  · have HV : Hid (false = jbB ⟨x0, x1, x2, n, z⟩) := hid ((jbB_a (decide_eq_false (by have := inB_f h1; simp only; omega))).symm)
    go_enter Try.func135, Try.ntmps135
    go_wp2_with (first | (go_at_call 57; refine (isHour_any _ _).mono ?_; rintro e w1 ⟨rfl, rfl⟩) | (go_at_call 136; refine (areTask_any 8 ra n rc z _ hN (HR.out.below HBL.out)).mono ?_; rintro e w1 ⟨rfl, b1⟩; have HB1 : Hid (Below w.heap.size w w1) := bel_on HBL.out b1; clear b1))
    go_returns
    exact ⟨ret_bool HV.out, HBL.out⟩
  by_cases h2 : x2 < 0
  · have HV : Hid (false = jbB ⟨x0, x1, x2, n, z⟩) := hid ((jbB_a (decide_eq_false (by simp only; omega))).symm)
    go_enter Try.func135, Try.ntmps135
    go_wp2_with (first | (go_at_call 57; refine (isHour_any _ _).mono ?_; rintro e w1 ⟨rfl, rfl⟩) | (go_at_call 136; refine (areTask_any 8 ra n rc z _ hN (HR.out.below HBL.out)).mono ?_; rintro e w1 ⟨rfl, b1⟩; have HB1 : Hid (Below w.heap.size w w1) := bel_on HBL.out b1; clear b1))
    go_returns
    exact ⟨ret_bool HV.out, HBL.out⟩
  by_cases h3 : 1000 < x2
  · have HV : Hid (false = jbB ⟨x0, x1, x2, n, z⟩) := hid ((jbB_a (decide_eq_false (by simp only; omega))).symm)
    go_enter Try.func135, Try.ntmps135
    go_wp2_with (first | (go_at_call 57; refine (isHour_any _ _).mono ?_; rintro e w1 ⟨rfl, rfl⟩) | (go_at_call 136; refine (areTask_any 8 ra n rc z _ hN (HR.out.below HBL.out)).mono ?_; rintro e w1 ⟨rfl, b1⟩; have HB1 : Hid (Below w.heap.size w w1) := bel_on HBL.out b1; clear b1))
    go_returns
    exact ⟨ret_bool HV.out, HBL.out⟩
  by_cases h4 : 0 < (n : Int)
  · have HV : Hid (arG tkB 8 n z = jbB ⟨x0, x1, x2, n, z⟩) := hid (by
      have e : jaB ⟨x0, x1, x2, n, z⟩ = true := decide_eq_true (by have := inB_t h0; have := inB_t h1; simp only; omega)
      unfold jbB; rw [e]; rfl)
    go_enter Try.func135, Try.ntmps135
    go_wp2_with (first | (go_at_call 57; refine (isHour_any _ _).mono ?_; rintro e w1 ⟨rfl, rfl⟩) | (go_at_call 136; refine (areTask_any 8 ra n rc z _ hN (HR.out.below HBL.out)).mono ?_; rintro e w1 ⟨rfl, b1⟩; have HB1 : Hid (Below w.heap.size w w1) := bel_on HBL.out b1; clear b1))
    go_returns
    exact ⟨ret_bool HV.out, HB1.out⟩
  · have HV : Hid (false = jbB ⟨x0, x1, x2, n, z⟩) := hid ((jbB_a (decide_eq_false (by simp only; omega))).symm)
    go_enter Try.func135, Try.ntmps135
    go_wp2_with (first | (go_at_call 57; refine (isHour_any _ _).mono ?_; rintro e w1 ⟨rfl, rfl⟩) | (go_at_call 136; refine (areTask_any 8 ra n rc z _ hN (HR.out.below HBL.out)).mono ?_; rintro e w1 ⟨rfl, b1⟩; have HB1 : Hid (Below w.heap.size w w1) := bel_on HBL.out b1; clear b1))
    go_returns
    exact ⟨ret_bool HV.out, HBL.out⟩
theorem jbWrong_eq (r : JB) (ra : Option Addr) (rc : Nat) (v : Bool) (w : World) (hN : (r.rn : Int) ≤ 1048576) (hR : TKr w ra r.rn r.rz) (h : jbB r = v) : Calls Try.prog 107 #[r.val ra rc] w fun e w' => e = .returned (.bool (!v)) ∧ Below w.heap.size w w' := by
  have HV : Hid (jbB r = v) := h
  have HR : Hid (TKr w ra r.rn r.rz) := hR
  have HBL : Hid (Below w.heap.size w (w.alloc (.cells #[.int .i64 r.rdy, .int .i64 r.due, .int .i64 r.wgt, .slice ra r.rn rc] 34 (0, 0)))) := (Below.refl _ _).alloc (Nat.le_refl _) _
  clear h hR
  obtain ⟨x0, x1, x2, x3, z⟩ := r
  unfold JB.val
  have hn : ∀ w, (nilAhead 268 34 (.agg #[.int .i64 x0, .int .i64 x1, .int .i64 x2, .slice ra x3 rc]) "loop.example/g00040/impl.isRight").run Try.prog w = .ok (some false) w := fun w => by kernel_rfl
  have hm : ∀ w, (method 268 34 (.agg #[.int .i64 x0, .int .i64 x1, .int .i64 x2, .slice ra x3 rc]) "loop.example/g00040/impl.isRight").run Try.prog w = .ok (135, .agg #[.int .i64 x0, .int .i64 x1, .int .i64 x2, .slice ra x3 rc]) w := fun w => by kernel_rfl
  go_enter Try.func107, Try.ntmps107
  go_wp2_with (go_at_call 135; refine (jbRight_eq ⟨x0, x1, x2, x3, z⟩ ra rc _ _ hN (HR.out.below HBL.out) HV.out).mono ?_; rintro e w1 ⟨rfl, b1⟩; have HB : Hid (Below w.heap.size w w1) := bel_on HBL.out b1; clear b1)
  go_returns
  exact ⟨rfl, HB.out⟩

set_option maxRecDepth 20000 in
set_option maxHeartbeats 2000000 in
theorem idxJob_any (ad : Option Addr) (len cap : Nat) (c : Nat → JB) (w : World) (h : (len : Int) ≤ 1048576) (hl : ∀ j, j < len → ((c j).rn : Int) ≤ 1048576) (hr : JBr w ad len c) :
    Calls Try.prog 113 #[.slice ad len cap, .func (Fn.func 107) #[] #[]] w fun e w' => e = .returned (.int .i64 (fstF (fun j => !jbB (c j)) len 0)) ∧ Below w.heap.size w w' := by
  have HR : Hid (JBr w ad len c) := hr
  have HN : Hid (∀ j, j < len → ((c j).rn : Int) ≤ 1048576) := hl
  clear hr hl
  go_enter Try.func113, Try.ntmps113
  go_wp2
  go_loopw [8] (fun i wr => ∃ k : Nat, k ≤ len ∧ i = .int .i64 (k : Int) ∧ Hid (fstF (fun j => !jbB (c j)) (len - k) k = fstF (fun j => !jbB (c j)) len 0) ∧ Hid (Below w.heap.size w wr)) (fun i _ => len - (intOf i).toNat)
  case atStart => exact ⟨0, Nat.zero_le _, rfl, rfl, Below.refl _ _⟩
  case round =>
    obtain ⟨k, hk, rfl, hP, HB⟩ := hrel
    by_cases hlt : k < len
    · have hlt2 : (k : Int) < (len : Int) := by omega
      obtain ⟨kb, off, rfl, _⟩ := HR.out.addr (by omega)
      obtain ⟨ra, rc, _, c0, c1, c2, c3, c4⟩ := (HR.out.below HB.out).cell hlt
      have HT : Hid (TKr wr ra (c k).rn (c k).rz) := c4
      have hnk := HN.out k hlt
      clear c4
      cases g : jbB (c k)
      · have HF : Hid (fstF (fun j => !jbB (c j)) len 0 = (k : Int)) := hid (by rw [← hP.out]; exact fstF_hit hlt (by simp [g]))
        have HG : Hid (jbB (c k) = false) := g
        clear g
        go_wp2_with (go_at_call 107; refine (jbWrong_eq (c k) ra rc _ _ hnk HT.out HG.out).mono ?_; rintro e w1 ⟨rfl, b1⟩; have HB1 : Hid (Below w.heap.size w w1) := bel_on HB.out b1; clear b1)
        go_returns
        exact ⟨ret_i HF.out.symm, HB1.out⟩
      · have HF : Hid (fstF (fun j => !jbB (c j)) (len - (k + 1)) (k + 1) = fstF (fun j => !jbB (c j)) len 0) := hid (by rw [← hP.out]; exact (fstF_miss hlt (by simp [g])).symm)
        have HG : Hid (jbB (c k) = true) := g
        clear g
        go_wp2_with (go_at_call 107; refine (jbWrong_eq (c k) ra rc _ _ hnk HT.out HG.out).mono ?_; rintro e w1 ⟨rfl, b1⟩; have HB1 : Hid (Below w.heap.size w w1) := bel_on HB.out b1; clear b1)
        go_roundw
        case rel => exact ⟨k + 1, by omega, by go_num, HF, HB1⟩
        case measure => simp [intOf]; omega
    · obtain rfl : k = len := by omega
      have lkk : ¬ (k : Int) < (k : Int) := by omega
      have HF : Hid (fstF (fun j => !jbB (c j)) k 0 = -1) := hid (by rw [← hP.out]; exact fstF_end)
      go_wp2
      go_returns
      exact ⟨ret_i HF.out.symm, HB.out⟩

theorem anyJob (ad : Option Addr) (len cap : Nat) (c : Nat → JB) (v : Bool) (w : World) (h : (len : Int) ≤ 1048576) (hl : ∀ j, j < len → ((c j).rn : Int) ≤ 1048576) (hr : JBr w ad len c) (hv : decide (0 ≤ fstF (fun j => !jbB (c j)) len 0) = v) :
    Calls Try.prog 99 #[.slice ad len cap, .func (Fn.func 107) #[] #[]] w fun e w' => e = .returned (.bool v) ∧ Below w.heap.size w w' := by
  have HC := idxJob_any ad len cap c w h hl hr
  obtain ⟨x, hx⟩ : ∃ x, fstF (fun j => !jbB (c j)) len 0 = x := ⟨_, rfl⟩
  rw [hx] at HC hv
  have HC2 : Hid (Calls Try.prog 113 #[.slice ad len cap, .func (Fn.func 107) #[] #[]] w fun e w' => e = .returned (.int .i64 x) ∧ Below w.heap.size w w') := HC
  obtain ⟨fv, hf⟩ : ∃ f, Value.func (Fn.func 107) #[] #[] = f := ⟨_, rfl⟩
  rw [hf] at HC2 ⊢
  clear HC hr hx hf hl
  subst hv
  go_enter Try.func99, Try.ntmps99
  go_wp2_with (go_at_call 113; refine HC2.out.mono ?_; rintro e w1 ⟨rfl, b1⟩)
  all_goals go_returns
  all_goals exact ⟨rfl, b1⟩
set_option maxRecDepth 20000 in
set_option maxHeartbeats 2000000 in
theorem areJob_any (M : Nat) (ad : Option Addr) (len cap : Nat) (c : Nat → JB) (w : World) (h : (len : Int) ≤ 1048576) (hl : ∀ j, j < len → ((c j).rn : Int) ≤ 1048576) (hr : JBr w ad len c) :
    Calls Try.prog 90 #[.slice ad len cap, .int .i64 (M : Int)] w fun e w' => e = .returned (.bool (arG jbB M len c)) ∧ Below w.heap.size w w' := by
  have HR : Hid (JBr w ad len c) := hr
  have HN : Hid (∀ j, j < len → ((c j).rn : Int) ≤ 1048576) := hl
  clear hr hl
  by_cases h6 : (M : Int) < (len : Int)
  · have HV : Hid (arG jbB M len c = false) := arG_f fun H => by have := H.1; omega
    have h7 : ¬ (len : Int) ≤ (M : Int) := by omega
    go_enter Try.func90, Try.ntmps90
    go_wp2
    go_returns
    exact ⟨ret_bool HV.out.symm, Below.refl _ _⟩
  have g6 : (len : Int) ≤ (M : Int) := by omega
  clear h6
  obtain ⟨v, hv⟩ : ∃ v, decide (0 ≤ fstF (fun j => !jbB (c j)) len 0) = v := ⟨_, rfl⟩
  have HV : Hid (arG jbB M len c = !v) := hid (by rw [fst_arG (by omega), hv])
  have HW : Hid (decide (0 ≤ fstF (fun j => !jbB (c j)) len 0) = v) := hv
  clear hv
  go_enter Try.func90, Try.ntmps90
  go_wp2_with (go_at_call 99; refine (anyJob ad len cap c v w h HN.out HR.out HW.out).mono ?_; rintro e w1 ⟨rfl, b1⟩)
  go_returns
  exact ⟨ret_bool HV.out.symm, b1⟩

end Go.Proofs.Ytogolmbgboihdaa
