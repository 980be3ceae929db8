/- LoadOk's closures over tasks and jobs; the program's LoadOk answers 'loB'. -/
import Derived.Test.YtogolmbgboihdaaFc
namespace Go.Proofs.Ytogolmbgboihdaa
open Go.ChangeShapes Go.WideShapes Go.ChangeAt Go.RowKit
set_option linter.unusedVariables false
set_option linter.unusedSimpArgs false

/-- A task on one of n machines. -/
def mcB (n : Nat) (t : TK3) : Bool := inB t.mac 0 ((n : Int) - 1)
/-- A job all of whose tasks are. -/
noncomputable def jmB (n : Nat) (j : JB) : Bool := alG (mcB n) j.rn j.rz
noncomputable def loB (n : Nat) (c : Nat → MA3) (m : Nat) (d : Nat → JB) : Bool := decide (1 ≤ n) && arG maB 12 n c && arG jbB 40 m d && alG (jmB n) m d
def HM (W : World) (mb : Nat) (ma : Option Addr) (n mk : Nat) : Prop := W.cell? ⟨mb, 0, none⟩ = some (.slice ma n mk)
theorem HM.below {W W' : World} {mb : Nat} {ma : Option Addr} {n mk : Nat} (h : HM W mb ma n mk) (b : Below W.heap.size W W') : HM W' mb ma n mk := keep_cell b h
def HJ (W : World) (hb mb : Nat) (ma : Option Addr) (n mk : Nat) : Prop := W.cell? ⟨hb, 0, none⟩ = some (.func (.func 71) #[] #[.pointer (some ⟨mb, 0, none⟩)]) ∧ HM W mb ma n mk
theorem HJ.below {W W' : World} {hb mb : Nat} {ma : Option Addr} {n mk : Nat} (h : HJ W hb mb ma n mk) (b : Below W.heap.size W W') : HJ W' hb mb ma n mk := ⟨keep_cell b h.1, h.2.below b⟩

set_option maxRecDepth 20000 in
set_option maxHeartbeats 2000000 in
theorem hasM_eq (r : TK3) (mb : Nat) (ma : Option Addr) (n mk : Nat) (v : Bool) (w : World) (hn : (n : Int) ≤ 1048576) (E : HM w mb ma n mk) (h : mcB n r = v) : Calls Try.prog 71 #[r.val, .pointer (some ⟨mb, 0, none⟩)] w fun e w' => e = .returned (.bool v) ∧ Below w.heap.size w w' := by
  have HV : Hid (inB r.mac 0 ((n : Int) - 1) = v) := h
  have e1 : w.cell? ⟨mb, 0, none⟩ = some (.slice ma n mk) := E
  have l1 := cell_lt e1
  clear h E
  obtain ⟨x0, x1, x2⟩ := r
  unfold TK3.val
  go_enter Try.func71, Try.ntmps71
  go_wp2_with (go_at_call 62; refine (isPlace_eq _ _ _ _ HV.out).mono ?_; rintro e w1 ⟨rfl, rfl⟩)
  go_returns
  exact ⟨rfl, by go_grown⟩

set_option maxRecDepth 20000 in
set_option maxHeartbeats 2000000 in
theorem notTask_eq (r : TK3) (fb : Nat) (mb : Nat) (ma : Option Addr) (n mk : Nat) (v : Bool) (w : World) (hn : (n : Int) ≤ 1048576) (hf : w.cell? ⟨fb, 0, none⟩ = some (.func (.func 71) #[] #[.pointer (some ⟨mb, 0, none⟩)])) (E : HM w mb ma n mk) (h : mcB n r = v) : Calls Try.prog 102 #[r.val, .pointer (some ⟨fb, 0, none⟩)] w fun e w' => e = .returned (.bool (!v)) ∧ Below w.heap.size w w' := by
  have HV : Hid (mcB n r = v) := h
  have HBL : Hid (Below w.heap.size w (w.alloc (.cells #[.int .i64 r.mac, .int .i64 r.hrs, .int .i64 r.fam] 38 (0, 0)))) := (Below.refl _ _).alloc (Nat.le_refl _) _
  have HE : Hid (HM w mb ma n mk) := E
  have l1 := cell_lt hf
  clear h E
  obtain ⟨x0, x1, x2⟩ := r
  unfold TK3.val
  go_enter Try.func102, Try.ntmps102
  go_wp2_with (go_at_call 71; refine (hasM_eq ⟨x0, x1, x2⟩ mb ma n mk _ _ hn (HE.out.below HBL.out) HV.out).mono ?_; rintro e w1 ⟨rfl, b1⟩; have HB1 : Hid (Below w.heap.size w w1) := bel_on HBL.out b1; clear b1)
  go_returns
  exact ⟨rfl, HB1.out⟩
set_option maxRecDepth 20000 in
set_option maxHeartbeats 2000000 in
theorem idxAllTask (ad : Option Addr) (len cap : Nat) (c : Nat → TK3) (fb : Nat) (mb : Nat) (ma : Option Addr) (n mk : Nat) (w : World) (hn : (n : Int) ≤ 1048576) (hf : w.cell? ⟨fb, 0, none⟩ = some (.func (.func 71) #[] #[.pointer (some ⟨mb, 0, none⟩)])) (E : HM w mb ma n mk) (h : (len : Int) ≤ 1048576) (hr : TKr w ad len c) :
    Calls Try.prog 114 #[.slice ad len cap, .func (Fn.func 102) #[] #[.pointer (some ⟨fb, 0, none⟩)]] w fun e w' => e = .returned (.int .i64 (fstF (fun j => !mcB n (c j)) len 0)) ∧ Below w.heap.size w w' := by
  have HR : Hid (TKr w ad len c) := hr
  have HF0 : Hid (w.cell? ⟨fb, 0, none⟩ = some (.func (.func 71) #[] #[.pointer (some ⟨mb, 0, none⟩)]) ∧ HM w mb ma n mk) := ⟨hf, E⟩
  clear hr hf E
  go_enter Try.func114, Try.ntmps114
  go_wp2
  go_loopw [8] (fun i wr => ∃ k : Nat, k ≤ len ∧ i = .int .i64 (k : Int) ∧ Hid (fstF (fun j => !mcB n (c j)) (len - k) k = fstF (fun j => !mcB n (c j)) len 0) ∧ Hid (Below w.heap.size w wr)) (fun i _ => len - (intOf i).toNat)
  case atStart => exact ⟨0, Nat.zero_le _, rfl, rfl, Below.refl _ _⟩
  case round =>
    obtain ⟨k, hk, rfl, hP, HB⟩ := hrel
    by_cases hlt : k < len
    · have hlt2 : (k : Int) < (len : Int) := by omega
      obtain ⟨kb, off, rfl, _⟩ := HR.out.addr (by omega)
      obtain ⟨c0, c1, c2⟩ := (HR.out.below HB.out).cell hlt
      cases g : mcB n (c k)
      · have HF : Hid (fstF (fun j => !mcB n (c j)) len 0 = (k : Int)) := hid (by rw [← hP.out]; exact fstF_hit hlt (by simp [g]))
        have HG : Hid (mcB n (c k) = false) := g
        clear g
        go_wp2_with (go_at_call 102; refine (notTask_eq (c k) fb mb ma n mk _ _ hn (keep_cell HB.out HF0.out.1) (HF0.out.2.below HB.out) HG.out).mono ?_; rintro e w1 ⟨rfl, b1⟩; have HB1 : Hid (Below w.heap.size w w1) := bel_on HB.out b1; clear b1)
        go_returns
        exact ⟨ret_i HF.out.symm, HB1.out⟩
      · have HF : Hid (fstF (fun j => !mcB n (c j)) (len - (k + 1)) (k + 1) = fstF (fun j => !mcB n (c j)) len 0) := hid (by rw [← hP.out]; exact (fstF_miss hlt (by simp [g])).symm)
        have HG : Hid (mcB n (c k) = true) := g
        clear g
        go_wp2_with (go_at_call 102; refine (notTask_eq (c k) fb mb ma n mk _ _ hn (keep_cell HB.out HF0.out.1) (HF0.out.2.below HB.out) HG.out).mono ?_; rintro e w1 ⟨rfl, b1⟩; have HB1 : Hid (Below w.heap.size w w1) := bel_on HB.out b1; clear b1)
        go_roundw
        case rel => exact ⟨k + 1, by omega, by go_num, HF, HB1⟩
        case measure => simp [intOf]; omega
    · obtain rfl : k = len := by omega
      have lkk : ¬ (k : Int) < (k : Int) := by omega
      have HF : Hid (fstF (fun j => !mcB n (c j)) k 0 = -1) := hid (by rw [← hP.out]; exact fstF_end)
      go_wp2
      go_returns
      exact ⟨ret_i HF.out.symm, HB.out⟩
theorem anyAllTask (ad : Option Addr) (len cap : Nat) (c : Nat → TK3) (fb : Nat) (mb : Nat) (ma : Option Addr) (n mk : Nat) (v : Bool) (w : World) (hn : (n : Int) ≤ 1048576) (hf : w.cell? ⟨fb, 0, none⟩ = some (.func (.func 71) #[] #[.pointer (some ⟨mb, 0, none⟩)])) (E : HM w mb ma n mk) (h : (len : Int) ≤ 1048576) (hr : TKr w ad len c) (hv : decide (0 ≤ fstF (fun j => !mcB n (c j)) len 0) = v) :
    Calls Try.prog 101 #[.slice ad len cap, .func (Fn.func 102) #[] #[.pointer (some ⟨fb, 0, none⟩)]] w fun e w' => e = .returned (.bool v) ∧ Below w.heap.size w w' := by
  have HC := idxAllTask ad len cap c fb mb ma n mk w hn hf E h hr
  obtain ⟨x, hx⟩ : ∃ x, fstF (fun j => !mcB n (c j)) len 0 = x := ⟨_, rfl⟩
  rw [hx] at HC hv
  have HC2 : Hid (Calls Try.prog 114 #[.slice ad len cap, .func (Fn.func 102) #[] #[.pointer (some ⟨fb, 0, none⟩)]] w fun e w' => e = .returned (.int .i64 x) ∧ Below w.heap.size w w') := HC
  obtain ⟨fv, hfv⟩ : ∃ f, Value.func (Fn.func 102) #[] #[.pointer (some ⟨fb, 0, none⟩)] = f := ⟨_, rfl⟩
  rw [hfv] at HC2 ⊢
  clear HC hr hx hf hfv E
  subst hv
  go_enter Try.func101, Try.ntmps101
  go_wp2_with (go_at_call 114; refine HC2.out.mono ?_; rintro e w1 ⟨rfl, b1⟩)
  all_goals go_returns
  all_goals exact ⟨rfl, b1⟩
set_option maxRecDepth 20000 in
set_option maxHeartbeats 2000000 in
theorem allTask (ad : Option Addr) (len cap : Nat) (c : Nat → TK3) (mb : Nat) (ma : Option Addr) (n mk : Nat) (v : Bool) (w : World) (hn : (n : Int) ≤ 1048576) (E : HM w mb ma n mk) (h : (len : Int) ≤ 1048576) (hr : TKr w ad len c) (hv : alG (mcB n) len c = v) :
    Calls Try.prog 74 #[.slice ad len cap, .func (.func 71) #[] #[.pointer (some ⟨mb, 0, none⟩)]] w fun e w' => e = .returned (.bool v) ∧ Below w.heap.size w w' := by
  have HR : Hid (TKr w ad len c) := hr
  have HE : Hid (HM w mb ma n mk) := E
  obtain ⟨x, hx⟩ : ∃ x, decide (0 ≤ fstF (fun j => !mcB n (c j)) len 0) = x := ⟨_, rfl⟩
  have HV : Hid ((!x) = v) := hid (by rw [← hv, fst_alG, hx])
  have HX : Hid (decide (0 ≤ fstF (fun j => !mcB n (c j)) len 0) = x) := hx
  have HBL : Hid (Below w.heap.size w (w.alloc (.cells #[.func (.func 71) #[] #[.pointer (some ⟨mb, 0, none⟩)]] 107 (0, 0)))) := (Below.refl _ _).alloc (Nat.le_refl _) _
  have HCF : Hid ((w.alloc (.cells #[.func (.func 71) #[] #[.pointer (some ⟨mb, 0, none⟩)]] 107 (0, 0))).cell? ⟨w.heap.size, 0, none⟩ = some (.func (.func 71) #[] #[.pointer (some ⟨mb, 0, none⟩)])) := ((CB.new (w := w) #[.func (.func 71) #[] #[.pointer (some ⟨mb, 0, none⟩)]] 107).cell 0).trans rfl
  clear hr hv hx E
  go_enter Try.func74, Try.ntmps74
  go_wp2_with (go_at_call 101; refine (anyAllTask ad len cap c w.heap.size mb ma n mk x _ hn HCF.out (HE.out.below HBL.out) h (HR.out.below HBL.out) HX.out).mono ?_; rintro e w1 ⟨rfl, b1⟩; have HB1 : Hid (Below w.heap.size w w1) := bel_on HBL.out b1; clear b1)
  go_returns
  exact ⟨ret_bool HV.out, HB1.out⟩

set_option maxRecDepth 20000 in
set_option maxHeartbeats 2000000 in
theorem hasJ_eq (r : JB) (ra : Option Addr) (rc : Nat) (hb mb : Nat) (ma : Option Addr) (n mk : Nat) (v : Bool) (w : World) (hn : (n : Int) ≤ 1048576) (hN : (r.rn : Int) ≤ 1048576) (hR : TKr w ra r.rn r.rz) (E : HJ w hb mb ma n mk) (h : jmB n r = v) : Calls Try.prog 73 #[r.val ra rc, .pointer (some ⟨hb, 0, none⟩)] w fun e w' => e = .returned (.bool v) ∧ Below w.heap.size w w' := by
  have HV : Hid (alG (mcB n) r.rn r.rz = v) := h
  have HR : Hid (TKr w ra r.rn r.rz) := hR
  have HBL : Hid (Below w.heap.size w (w.alloc (.cells #[.int .i64 r.rdy, .int .i64 r.due, .int .i64 r.wgt, .slice ra r.rn rc] 34 (0, 0)))) := (Below.refl _ _).alloc (Nat.le_refl _) _
  have e1 := E.1
  have l1 := cell_lt e1
  have HE : Hid (HM w mb ma n mk) := E.2
  clear h E hR
  obtain ⟨x0, x1, x2, x3, z⟩ := r
  unfold JB.val
  go_enter Try.func73, Try.ntmps73
  go_wp2_with (go_at_call 74; refine (allTask ra x3 rc z mb ma n mk _ _ hn (HE.out.below HBL.out) hN (HR.out.below HBL.out) HV.out).mono ?_; rintro e w1 ⟨rfl, b1⟩; have HB1 : Hid (Below w.heap.size w w1) := bel_on HBL.out b1; clear b1)
  go_returns
  exact ⟨rfl, HB1.out⟩

set_option maxRecDepth 20000 in
set_option maxHeartbeats 2000000 in
theorem notJob_eq (r : JB) (ra : Option Addr) (rc : Nat) (fb : Nat) (hb mb : Nat) (ma : Option Addr) (n mk : Nat) (v : Bool) (w : World) (hn : (n : Int) ≤ 1048576) (hN : (r.rn : Int) ≤ 1048576) (hR : TKr w ra r.rn r.rz) (hf : w.cell? ⟨fb, 0, none⟩ = some (.func (.func 73) #[] #[.pointer (some ⟨hb, 0, none⟩)])) (E : HJ w hb mb ma n mk) (h : jmB n r = v) : Calls Try.prog 100 #[r.val ra rc, .pointer (some ⟨fb, 0, none⟩)] w fun e w' => e = .returned (.bool (!v)) ∧ Below w.heap.size w w' := by
  have HV : Hid (jmB n r = v) := h
  have HR : Hid (TKr w ra r.rn r.rz) := hR
  clear hR
  have HBL : Hid (Below w.heap.size w (w.alloc (.cells #[.int .i64 r.rdy, .int .i64 r.due, .int .i64 r.wgt, .slice ra r.rn rc] 34 (0, 0)))) := (Below.refl _ _).alloc (Nat.le_refl _) _
  have HE : Hid (HJ w hb mb ma n mk) := E
  have l1 := cell_lt hf
  clear h E
  obtain ⟨x0, x1, x2, x3, z⟩ := r
  unfold JB.val
  go_enter Try.func100, Try.ntmps100
  go_wp2_with (go_at_call 73; refine (hasJ_eq ⟨x0, x1, x2, x3, z⟩ ra rc hb mb ma n mk _ _ hn hN (HR.out.below HBL.out) (HE.out.below HBL.out) HV.out).mono ?_; rintro e w1 ⟨rfl, b1⟩; have HB1 : Hid (Below w.heap.size w w1) := bel_on HBL.out b1; clear b1)
  go_returns
  exact ⟨rfl, HB1.out⟩
set_option maxRecDepth 20000 in
set_option maxHeartbeats 2000000 in
theorem idxAllJob (ad : Option Addr) (len cap : Nat) (c : Nat → JB) (fb : Nat) (hb mb : Nat) (ma : Option Addr) (n mk : Nat) (w : World) (hn : (n : Int) ≤ 1048576) (hf : w.cell? ⟨fb, 0, none⟩ = some (.func (.func 73) #[] #[.pointer (some ⟨hb, 0, none⟩)])) (E : HJ w hb mb ma n mk) (h : (len : Int) ≤ 1048576) (hl : ∀ j, j < len → ((c j).rn : Int) ≤ 1048576) (hr : JBr w ad len c) :
    Calls Try.prog 113 #[.slice ad len cap, .func (Fn.func 100) #[] #[.pointer (some ⟨fb, 0, none⟩)]] w fun e w' => e = .returned (.int .i64 (fstF (fun j => !jmB n (c j)) len 0)) ∧ Below w.heap.size w w' := by
  have HR : Hid (JBr w ad len c) := hr
  have HF0 : Hid (w.cell? ⟨fb, 0, none⟩ = some (.func (.func 73) #[] #[.pointer (some ⟨hb, 0, none⟩)]) ∧ HJ w hb mb ma n mk) := ⟨hf, E⟩
  have HN : Hid (∀ j, j < len → ((c j).rn : Int) ≤ 1048576) := hl
  clear hl
  clear hr hf E
  go_enter Try.func113, Try.ntmps113
  go_wp2
  go_loopw [8] (fun i wr => ∃ k : Nat, k ≤ len ∧ i = .int .i64 (k : Int) ∧ Hid (fstF (fun j => !jmB n (c j)) (len - k) k = fstF (fun j => !jmB n (c j)) len 0) ∧ Hid (Below w.heap.size w wr)) (fun i _ => len - (intOf i).toNat)
  case atStart => exact ⟨0, Nat.zero_le _, rfl, rfl, Below.refl _ _⟩
  case round =>
    obtain ⟨k, hk, rfl, hP, HB⟩ := hrel
    by_cases hlt : k < len
    · have hlt2 : (k : Int) < (len : Int) := by omega
      obtain ⟨kb, off, rfl, _⟩ := HR.out.addr (by omega)
      obtain ⟨ra, rc, _, c0, c1, c2, c3, c4⟩ := (HR.out.below HB.out).cell hlt
      have HT : Hid (TKr wr ra (c k).rn (c k).rz) := c4
      have hnk := HN.out k hlt
      clear c4
      cases g : jmB n (c k)
      · have HF : Hid (fstF (fun j => !jmB n (c j)) len 0 = (k : Int)) := hid (by rw [← hP.out]; exact fstF_hit hlt (by simp [g]))
        have HG : Hid (jmB n (c k) = false) := g
        clear g
        go_wp2_with (go_at_call 100; refine (notJob_eq (c k) ra rc fb hb mb ma n mk _ _ hn hnk HT.out (keep_cell HB.out HF0.out.1) (HF0.out.2.below HB.out) HG.out).mono ?_; rintro e w1 ⟨rfl, b1⟩; have HB1 : Hid (Below w.heap.size w w1) := bel_on HB.out b1; clear b1)
        go_returns
        exact ⟨ret_i HF.out.symm, HB1.out⟩
      · have HF : Hid (fstF (fun j => !jmB n (c j)) (len - (k + 1)) (k + 1) = fstF (fun j => !jmB n (c j)) len 0) := hid (by rw [← hP.out]; exact (fstF_miss hlt (by simp [g])).symm)
        have HG : Hid (jmB n (c k) = true) := g
        clear g
        go_wp2_with (go_at_call 100; refine (notJob_eq (c k) ra rc fb hb mb ma n mk _ _ hn hnk HT.out (keep_cell HB.out HF0.out.1) (HF0.out.2.below HB.out) HG.out).mono ?_; rintro e w1 ⟨rfl, b1⟩; have HB1 : Hid (Below w.heap.size w w1) := bel_on HB.out b1; clear b1)
        go_roundw
        case rel => exact ⟨k + 1, by omega, by go_num, HF, HB1⟩
        case measure => simp [intOf]; omega
    · obtain rfl : k = len := by omega
      have lkk : ¬ (k : Int) < (k : Int) := by omega
      have HF : Hid (fstF (fun j => !jmB n (c j)) k 0 = -1) := hid (by rw [← hP.out]; exact fstF_end)
      go_wp2
      go_returns
      exact ⟨ret_i HF.out.symm, HB.out⟩
theorem anyAllJob (ad : Option Addr) (len cap : Nat) (c : Nat → JB) (fb : Nat) (hb mb : Nat) (ma : Option Addr) (n mk : Nat) (v : Bool) (w : World) (hn : (n : Int) ≤ 1048576) (hf : w.cell? ⟨fb, 0, none⟩ = some (.func (.func 73) #[] #[.pointer (some ⟨hb, 0, none⟩)])) (E : HJ w hb mb ma n mk) (h : (len : Int) ≤ 1048576) (hl : ∀ j, j < len → ((c j).rn : Int) ≤ 1048576) (hr : JBr w ad len c) (hv : decide (0 ≤ fstF (fun j => !jmB n (c j)) len 0) = v) :
    Calls Try.prog 99 #[.slice ad len cap, .func (Fn.func 100) #[] #[.pointer (some ⟨fb, 0, none⟩)]] w fun e w' => e = .returned (.bool v) ∧ Below w.heap.size w w' := by
  have HC := idxAllJob ad len cap c fb hb mb ma n mk w hn hf E h hl hr
  obtain ⟨x, hx⟩ : ∃ x, fstF (fun j => !jmB n (c j)) len 0 = x := ⟨_, rfl⟩
  rw [hx] at HC hv
  have HC2 : Hid (Calls Try.prog 113 #[.slice ad len cap, .func (Fn.func 100) #[] #[.pointer (some ⟨fb, 0, none⟩)]] w fun e w' => e = .returned (.int .i64 x) ∧ Below w.heap.size w w') := HC
  obtain ⟨fv, hfv⟩ : ∃ f, Value.func (Fn.func 100) #[] #[.pointer (some ⟨fb, 0, none⟩)] = f := ⟨_, rfl⟩
  rw [hfv] at HC2 ⊢
  clear HC hr hx hf hfv E hl
  subst hv
  go_enter Try.func99, Try.ntmps99
  go_wp2_with (go_at_call 113; refine HC2.out.mono ?_; rintro e w1 ⟨rfl, b1⟩)
  all_goals go_returns
  all_goals exact ⟨rfl, b1⟩
set_option maxRecDepth 20000 in
set_option maxHeartbeats 2000000 in
theorem allJob (ad : Option Addr) (len cap : Nat) (c : Nat → JB) (hb mb : Nat) (ma : Option Addr) (n mk : Nat) (v : Bool) (w : World) (hn : (n : Int) ≤ 1048576) (E : HJ w hb mb ma n mk) (h : (len : Int) ≤ 1048576) (hl : ∀ j, j < len → ((c j).rn : Int) ≤ 1048576) (hr : JBr w ad len c) (hv : alG (jmB n) len c = v) :
    Calls Try.prog 72 #[.slice ad len cap, .func (.func 73) #[] #[.pointer (some ⟨hb, 0, none⟩)]] w fun e w' => e = .returned (.bool v) ∧ Below w.heap.size w w' := by
  have HR : Hid (JBr w ad len c) := hr
  have HE : Hid (HJ w hb mb ma n mk) := E
  have HN : Hid (∀ j, j < len → ((c j).rn : Int) ≤ 1048576) := hl
  clear hl
  obtain ⟨x, hx⟩ : ∃ x, decide (0 ≤ fstF (fun j => !jmB n (c j)) len 0) = x := ⟨_, rfl⟩
  have HV : Hid ((!x) = v) := hid (by rw [← hv, fst_alG, hx])
  have HX : Hid (decide (0 ≤ fstF (fun j => !jmB n (c j)) len 0) = x) := hx
  have HBL : Hid (Below w.heap.size w (w.alloc (.cells #[.func (.func 73) #[] #[.pointer (some ⟨hb, 0, none⟩)]] 110 (0, 0)))) := (Below.refl _ _).alloc (Nat.le_refl _) _
  have HCF : Hid ((w.alloc (.cells #[.func (.func 73) #[] #[.pointer (some ⟨hb, 0, none⟩)]] 110 (0, 0))).cell? ⟨w.heap.size, 0, none⟩ = some (.func (.func 73) #[] #[.pointer (some ⟨hb, 0, none⟩)])) := ((CB.new (w := w) #[.func (.func 73) #[] #[.pointer (some ⟨hb, 0, none⟩)]] 110).cell 0).trans rfl
  clear hr hv hx E
  go_enter Try.func72, Try.ntmps72
  go_wp2_with (go_at_call 99; refine (anyAllJob ad len cap c w.heap.size hb mb ma n mk x _ hn HCF.out (HE.out.below HBL.out) h HN.out (HR.out.below HBL.out) HX.out).mono ?_; rintro e w1 ⟨rfl, b1⟩; have HB1 : Hid (Below w.heap.size w w1) := bel_on HBL.out b1; clear b1)
  go_returns
  exact ⟨ret_bool HV.out, HB1.out⟩
end Go.Proofs.Ytogolmbgboihdaa
