/- Machines and tasks: one that is right; areRight of the program over them, of at most M. -/
import Derived.Test.YtogolmbgboihdaaJa
import Derived.Test.YtogolmbgboihdaaMa
import Derived.Test.YtogolmbgboihdaaFa
import Derived.Deep.QuietTactic
namespace Go.Proofs.Ytogolmbgboihdaa
open Go.ChangeShapes Go.WideShapes Go.ChangeAt Go.RowKit
set_option linter.unusedVariables false
set_option linter.unusedSimpArgs false

def MA3.val (r : MA3) : Value := .agg #[.int .i64 r.op, .int .i64 r.sh, .int .i64 r.st]
def maB (r : MA3) : Bool := decide (0 ≤ r.op ∧ r.op < r.sh ∧ r.sh ≤ 24 ∧ 0 ≤ r.st ∧ r.st ≤ 100)
theorem maB_p {r : MA3} (h : maB r = true) : 0 ≤ r.op ∧ r.op < r.sh ∧ r.sh ≤ 24 ∧ 0 ≤ r.st ∧ r.st ≤ 100 := of_decide_eq_true h
theorem maB_f {r : MA3} (h : maB r = false) : ¬ (0 ≤ r.op ∧ r.op < r.sh ∧ r.sh ≤ 24 ∧ 0 ≤ r.st ∧ r.st ≤ 100) := of_decide_eq_false h
set_option maxRecDepth 20000 in
set_option maxHeartbeats 4000000 in
theorem maRight_any (r : MA3) (w : World) : Calls Try.prog 56 #[r.val] w fun e w' => e = .returned (.bool (maB r)) ∧ Below w.heap.size w w' := by
  obtain ⟨x0, x1, x2⟩ := r
  unfold MA3.val
  go_enter Try.func56, Try.ntmps56
  go_wp2
  all_goals go_returns
  all_goals exact ⟨ret_bool (by unfold maB; rw [Bool.eq_iff_iff]; simp; try omega), by go_grown⟩
theorem maRight_eq (r : MA3) (v : Bool) (w : World) (h : maB r = v) : Calls Try.prog 56 #[r.val] w fun e w' => e = .returned (.bool v) ∧ Below w.heap.size w w' := by
  subst h; exact maRight_any r w
theorem maWrong_eq (r : MA3) (v : Bool) (w : World) (h : maB r = v) : Calls Try.prog 98 #[r.val] w fun e w' => e = .returned (.bool (!v)) ∧ Below w.heap.size w w' := by
  have HV : Hid (maB r = v) := h
  clear h
  obtain ⟨x0, x1, x2⟩ := r
  unfold MA3.val
  have hn : ∀ w, (nilAhead 268 43 (.agg #[.int .i64 x0, .int .i64 x1, .int .i64 x2]) "loop.example/g00040/impl.isRight").run Try.prog w = .ok (some false) w := fun w => by kernel_rfl
  have hm : ∀ w, (method 268 43 (.agg #[.int .i64 x0, .int .i64 x1, .int .i64 x2]) "loop.example/g00040/impl.isRight").run Try.prog w = .ok (56, .agg #[.int .i64 x0, .int .i64 x1, .int .i64 x2]) w := fun w => by kernel_rfl
  go_enter Try.func98, Try.ntmps98
  go_wp2_with (go_at_call 56; refine (maRight_eq ⟨x0, x1, x2⟩ _ _ HV.out).mono ?_; rintro e w1 ⟨rfl, b1⟩; have HB : Hid (Below w.heap.size w w1) := bel_on ((Below.refl _ _).alloc (Nat.le_refl _) _) b1; clear b1)
  go_returns
  exact ⟨rfl, HB.out⟩

set_option maxRecDepth 20000 in
set_option maxHeartbeats 2000000 in
theorem idxMachine_any (ad : Option Addr) (len cap : Nat) (c : Nat → MA3) (w : World) (h : (len : Int) ≤ 1048576) (hr : MAr w ad len c) :
    Calls Try.prog 112 #[.slice ad len cap, .func (Fn.func 98) #[] #[]] w fun e w' => e = .returned (.int .i64 (fstF (fun j => !maB (c j)) len 0)) ∧ Below w.heap.size w w' := by
  have HR : Hid (MAr w ad len c) := hr
  clear hr
  go_enter Try.func112, Try.ntmps112
  go_wp2
  go_loopw [8] (fun i wr => ∃ k : Nat, k ≤ len ∧ i = .int .i64 (k : Int) ∧ Hid (fstF (fun j => !maB (c j)) (len - k) k = fstF (fun j => !maB (c j)) len 0) ∧ Hid (Below w.heap.size w wr)) (fun i _ => len - (intOf i).toNat)
  case atStart => exact ⟨0, Nat.zero_le _, rfl, rfl, Below.refl _ _⟩
  case round =>
    obtain ⟨k, hk, rfl, hP, HB⟩ := hrel
    by_cases hlt : k < len
    · have hlt2 : (k : Int) < (len : Int) := by omega
      obtain ⟨kb, off, rfl, _⟩ := HR.out.addr (by omega)
      obtain ⟨c0, c1, c2⟩ := (HR.out.below HB.out).cell hlt
      cases g : maB (c k)
      · have HF : Hid (fstF (fun j => !maB (c j)) len 0 = (k : Int)) := hid (by rw [← hP.out]; exact fstF_hit hlt (by simp [g]))
        have HG : Hid (maB (c k) = false) := g
        clear g
        go_wp2_with (go_at_call 98; refine (maWrong_eq (c k) _ _ HG.out).mono ?_; rintro e w1 ⟨rfl, b1⟩; have HB1 : Hid (Below w.heap.size w w1) := bel_on HB.out b1; clear b1)
        go_returns
        exact ⟨ret_i HF.out.symm, HB1.out⟩
      · have HF : Hid (fstF (fun j => !maB (c j)) (len - (k + 1)) (k + 1) = fstF (fun j => !maB (c j)) len 0) := hid (by rw [← hP.out]; exact (fstF_miss hlt (by simp [g])).symm)
        have HG : Hid (maB (c k) = true) := g
        clear g
        go_wp2_with (go_at_call 98; refine (maWrong_eq (c k) _ _ HG.out).mono ?_; rintro e w1 ⟨rfl, b1⟩; have HB1 : Hid (Below w.heap.size w w1) := bel_on HB.out b1; clear b1)
        go_roundw
        case rel => exact ⟨k + 1, by omega, by go_num, HF, HB1⟩
        case measure => simp [intOf]; omega
    · obtain rfl : k = len := by omega
      have lkk : ¬ (k : Int) < (k : Int) := by omega
      have HF : Hid (fstF (fun j => !maB (c j)) k 0 = -1) := hid (by rw [← hP.out]; exact fstF_end)
      go_wp2
      go_returns
      exact ⟨ret_i HF.out.symm, HB.out⟩

theorem anyMachine (ad : Option Addr) (len cap : Nat) (c : Nat → MA3) (v : Bool) (w : World) (h : (len : Int) ≤ 1048576) (hr : MAr w ad len c) (hv : decide (0 ≤ fstF (fun j => !maB (c j)) len 0) = v) :
    Calls Try.prog 97 #[.slice ad len cap, .func (Fn.func 98) #[] #[]] w fun e w' => e = .returned (.bool v) ∧ Below w.heap.size w w' := by
  have HC := idxMachine_any ad len cap c w h hr
  obtain ⟨x, hx⟩ : ∃ x, fstF (fun j => !maB (c j)) len 0 = x := ⟨_, rfl⟩
  rw [hx] at HC hv
  have HC2 : Hid (Calls Try.prog 112 #[.slice ad len cap, .func (Fn.func 98) #[] #[]] w fun e w' => e = .returned (.int .i64 x) ∧ Below w.heap.size w w') := HC
  obtain ⟨fv, hf⟩ : ∃ f, Value.func (Fn.func 98) #[] #[] = f := ⟨_, rfl⟩
  rw [hf] at HC2 ⊢
  clear HC hr hx hf
  subst hv
  go_enter Try.func97, Try.ntmps97
  go_wp2_with (go_at_call 112; refine HC2.out.mono ?_; rintro e w1 ⟨rfl, b1⟩)
  all_goals go_returns
  all_goals exact ⟨rfl, b1⟩
set_option maxRecDepth 20000 in
set_option maxHeartbeats 2000000 in
theorem areMachine_any (M : Nat) (ad : Option Addr) (len cap : Nat) (c : Nat → MA3) (w : World) (h : (len : Int) ≤ 1048576) (hr : MAr w ad len c) :
    Calls Try.prog 70 #[.slice ad len cap, .int .i64 (M : Int)] w fun e w' => e = .returned (.bool (arG maB M len c)) ∧ Below w.heap.size w w' := by
  have HR : Hid (MAr w ad len c) := hr
  clear hr
  by_cases h6 : (M : Int) < (len : Int)
  · have HV : Hid (arG maB M len c = false) := arG_f fun H => by have := H.1; omega
    have h7 : ¬ (len : Int) ≤ (M : Int) := by omega
    go_enter Try.func70, Try.ntmps70
    go_wp2
    go_returns
    exact ⟨ret_bool HV.out.symm, Below.refl _ _⟩
  have g6 : (len : Int) ≤ (M : Int) := by omega
  clear h6
  obtain ⟨v, hv⟩ : ∃ v, decide (0 ≤ fstF (fun j => !maB (c j)) len 0) = v := ⟨_, rfl⟩
  have HV : Hid (arG maB M len c = !v) := hid (by rw [fst_arG (by omega), hv])
  have HW : Hid (decide (0 ≤ fstF (fun j => !maB (c j)) len 0) = v) := hv
  clear hv
  go_enter Try.func70, Try.ntmps70
  go_wp2_with (go_at_call 97; refine (anyMachine ad len cap c v w h HR.out HW.out).mono ?_; rintro e w1 ⟨rfl, b1⟩)
  go_returns
  exact ⟨ret_bool HV.out.symm, b1⟩

def TK3.val (r : TK3) : Value := .agg #[.int .i64 r.mac, .int .i64 r.hrs, .int .i64 r.fam]
def tkB (r : TK3) : Bool := decide (1 ≤ r.hrs ∧ r.hrs ≤ 500 ∧ 0 ≤ r.fam ∧ r.fam ≤ 9)
theorem tkB_p {r : TK3} (h : tkB r = true) : 1 ≤ r.hrs ∧ r.hrs ≤ 500 ∧ 0 ≤ r.fam ∧ r.fam ≤ 9 := of_decide_eq_true h
theorem tkB_f {r : TK3} (h : tkB r = false) : ¬ (1 ≤ r.hrs ∧ r.hrs ≤ 500 ∧ 0 ≤ r.fam ∧ r.fam ≤ 9) := of_decide_eq_false h
set_option maxRecDepth 20000 in
set_option maxHeartbeats 4000000 in
theorem tkRight_any (r : TK3) (w : World) : Calls Try.prog 138 #[r.val] w fun e w' => e = .returned (.bool (tkB r)) ∧ Below w.heap.size w w' := by
  obtain ⟨x0, x1, x2⟩ := r
  unfold TK3.val
  go_enter Try.func138, Try.ntmps138
  go_wp2
  all_goals go_returns
  all_goals exact ⟨ret_bool (by unfold tkB; rw [Bool.eq_iff_iff]; simp; try omega), by go_grown⟩
theorem tkRight_eq (r : TK3) (v : Bool) (w : World) (h : tkB r = v) : Calls Try.prog 138 #[r.val] w fun e w' => e = .returned (.bool v) ∧ Below w.heap.size w w' := by
  subst h; exact tkRight_any r w
theorem tkWrong_eq (r : TK3) (v : Bool) (w : World) (h : tkB r = v) : Calls Try.prog 137 #[r.val] w fun e w' => e = .returned (.bool (!v)) ∧ Below w.heap.size w w' := by
  have HV : Hid (tkB r = v) := h
  clear h
  obtain ⟨x0, x1, x2⟩ := r
  unfold TK3.val
  have hn : ∀ w, (nilAhead 268 38 (.agg #[.int .i64 x0, .int .i64 x1, .int .i64 x2]) "loop.example/g00040/impl.isRight").run Try.prog w = .ok (some false) w := fun w => by kernel_rfl
  have hm : ∀ w, (method 268 38 (.agg #[.int .i64 x0, .int .i64 x1, .int .i64 x2]) "loop.example/g00040/impl.isRight").run Try.prog w = .ok (138, .agg #[.int .i64 x0, .int .i64 x1, .int .i64 x2]) w := fun w => by kernel_rfl
  go_enter Try.func137, Try.ntmps137
  go_wp2_with (go_at_call 138; refine (tkRight_eq ⟨x0, x1, x2⟩ _ _ HV.out).mono ?_; rintro e w1 ⟨rfl, b1⟩; have HB : Hid (Below w.heap.size w w1) := bel_on ((Below.refl _ _).alloc (Nat.le_refl _) _) b1; clear b1)
  go_returns
  exact ⟨rfl, HB.out⟩

set_option maxRecDepth 20000 in
set_option maxHeartbeats 2000000 in
theorem idxTask_any (ad : Option Addr) (len cap : Nat) (c : Nat → TK3) (w : World) (h : (len : Int) ≤ 1048576) (hr : TKr w ad len c) :
    Calls Try.prog 114 #[.slice ad len cap, .func (Fn.func 137) #[] #[]] w fun e w' => e = .returned (.int .i64 (fstF (fun j => !tkB (c j)) len 0)) ∧ Below w.heap.size w w' := by
  have HR : Hid (TKr w ad len c) := hr
  clear hr
  go_enter Try.func114, Try.ntmps114
  go_wp2
  go_loopw [8] (fun i wr => ∃ k : Nat, k ≤ len ∧ i = .int .i64 (k : Int) ∧ Hid (fstF (fun j => !tkB (c j)) (len - k) k = fstF (fun j => !tkB (c j)) len 0) ∧ Hid (Below w.heap.size w wr)) (fun i _ => len - (intOf i).toNat)
  case atStart => exact ⟨0, Nat.zero_le _, rfl, rfl, Below.refl _ _⟩
  case round =>
    obtain ⟨k, hk, rfl, hP, HB⟩ := hrel
    by_cases hlt : k < len
    · have hlt2 : (k : Int) < (len : Int) := by omega
      obtain ⟨kb, off, rfl, _⟩ := HR.out.addr (by omega)
      obtain ⟨c0, c1, c2⟩ := (HR.out.below HB.out).cell hlt
      cases g : tkB (c k)
      · have HF : Hid (fstF (fun j => !tkB (c j)) len 0 = (k : Int)) := hid (by rw [← hP.out]; exact fstF_hit hlt (by simp [g]))
        have HG : Hid (tkB (c k) = false) := g
        clear g
        go_wp2_with (go_at_call 137; refine (tkWrong_eq (c k) _ _ HG.out).mono ?_; rintro e w1 ⟨rfl, b1⟩; have HB1 : Hid (Below w.heap.size w w1) := bel_on HB.out b1; clear b1)
        go_returns
        exact ⟨ret_i HF.out.symm, HB1.out⟩
      · have HF : Hid (fstF (fun j => !tkB (c j)) (len - (k + 1)) (k + 1) = fstF (fun j => !tkB (c j)) len 0) := hid (by rw [← hP.out]; exact (fstF_miss hlt (by simp [g])).symm)
        have HG : Hid (tkB (c k) = true) := g
        clear g
        go_wp2_with (go_at_call 137; refine (tkWrong_eq (c k) _ _ HG.out).mono ?_; rintro e w1 ⟨rfl, b1⟩; have HB1 : Hid (Below w.heap.size w w1) := bel_on HB.out b1; clear b1)
        go_roundw
        case rel => exact ⟨k + 1, by omega, by go_num, HF, HB1⟩
        case measure => simp [intOf]; omega
    · obtain rfl : k = len := by omega
      have lkk : ¬ (k : Int) < (k : Int) := by omega
      have HF : Hid (fstF (fun j => !tkB (c j)) k 0 = -1) := hid (by rw [← hP.out]; exact fstF_end)
      go_wp2
      go_returns
      exact ⟨ret_i HF.out.symm, HB.out⟩

theorem anyTask (ad : Option Addr) (len cap : Nat) (c : Nat → TK3) (v : Bool) (w : World) (h : (len : Int) ≤ 1048576) (hr : TKr w ad len c) (hv : decide (0 ≤ fstF (fun j => !tkB (c j)) len 0) = v) :
    Calls Try.prog 101 #[.slice ad len cap, .func (Fn.func 137) #[] #[]] w fun e w' => e = .returned (.bool v) ∧ Below w.heap.size w w' := by
  have HC := idxTask_any ad len cap c w h hr
  obtain ⟨x, hx⟩ : ∃ x, fstF (fun j => !tkB (c j)) len 0 = x := ⟨_, rfl⟩
  rw [hx] at HC hv
  have HC2 : Hid (Calls Try.prog 114 #[.slice ad len cap, .func (Fn.func 137) #[] #[]] w fun e w' => e = .returned (.int .i64 x) ∧ Below w.heap.size w w') := HC
  obtain ⟨fv, hf⟩ : ∃ f, Value.func (Fn.func 137) #[] #[] = f := ⟨_, rfl⟩
  rw [hf] at HC2 ⊢
  clear HC hr hx hf
  subst hv
  go_enter Try.func101, Try.ntmps101
  go_wp2_with (go_at_call 114; refine HC2.out.mono ?_; rintro e w1 ⟨rfl, b1⟩)
  all_goals go_returns
  all_goals exact ⟨rfl, b1⟩
set_option maxRecDepth 20000 in
set_option maxHeartbeats 2000000 in
theorem areTask_any (M : Nat) (ad : Option Addr) (len cap : Nat) (c : Nat → TK3) (w : World) (h : (len : Int) ≤ 1048576) (hr : TKr w ad len c) :
    Calls Try.prog 136 #[.slice ad len cap, .int .i64 (M : Int)] w fun e w' => e = .returned (.bool (arG tkB M len c)) ∧ Below w.heap.size w w' := by
  have HR : Hid (TKr w ad len c) := hr
  clear hr
  by_cases h6 : (M : Int) < (len : Int)
  · have HV : Hid (arG tkB M len c = false) := arG_f fun H => by have := H.1; omega
    have h7 : ¬ (len : Int) ≤ (M : Int) := by omega
    go_enter Try.func136, Try.ntmps136
    go_wp2
    go_returns
    exact ⟨ret_bool HV.out.symm, Below.refl _ _⟩
  have g6 : (len : Int) ≤ (M : Int) := by omega
  clear h6
  obtain ⟨v, hv⟩ : ∃ v, decide (0 ≤ fstF (fun j => !tkB (c j)) len 0) = v := ⟨_, rfl⟩
  have HV : Hid (arG tkB M len c = !v) := hid (by rw [fst_arG (by omega), hv])
  have HW : Hid (decide (0 ≤ fstF (fun j => !tkB (c j)) len 0) = v) := hv
  clear hv
  go_enter Try.func136, Try.ntmps136
  go_wp2_with (go_at_call 101; refine (anyTask ad len cap c v w h HR.out HW.out).mono ?_; rintro e w1 ⟨rfl, b1⟩)
  go_returns
  exact ⟨ret_bool HV.out.symm, b1⟩

end Go.Proofs.Ytogolmbgboihdaa
