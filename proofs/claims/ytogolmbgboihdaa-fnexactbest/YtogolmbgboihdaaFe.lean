/- LoadOk of the program and of the model: both answer 'loB'; lists of jobs that are right. -/
import Derived.Test.YtogolmbgboihdaaFd
namespace Go.Proofs.Ytogolmbgboihdaa
open Go.ChangeShapes Go.WideShapes Go.ChangeAt Go.RowKit
set_option linter.unusedVariables false
set_option linter.unusedSimpArgs false

theorem areJobs_eq (ad : Option Addr) (len cap : Nat) (c : Nat → JB) (v : Bool) (w : World) (h : (len : Int) ≤ 1048576) (hl : ∀ j, j < len → ((c j).rn : Int) ≤ 1048576) (hr : JBr w ad len c) (hv : arG jbB 40 len c = v) :
    Calls Try.prog 61 #[.slice ad len cap] w fun e w' => e = .returned (.bool v) ∧ Below w.heap.size w w' := by
  subst hv
  have HR : Hid (JBr w ad len c) := hr
  have HN : Hid (∀ j, j < len → ((c j).rn : Int) ≤ 1048576) := hl
  clear hr hl
  go_enter Try.func61, Try.ntmps61
  go_wp2_with (go_at_call 90; refine (areJob_any 40 ad len cap c _ h HN.out HR.out).mono ?_; rintro e w1 ⟨rfl, b1⟩)
  go_returns
  exact ⟨rfl, b1⟩

theorem lo_0 {n m : Nat} {c : Nat → MA3} {d : Nat → JB} (h : (n : Int) = 0) : loB n c m d = false := by
  obtain rfl : n = 0 := by omega
  rfl
theorem lo_1 {n m : Nat} {c : Nat → MA3} {d : Nat → JB} (h : arG maB 12 n c = false) : loB n c m d = false := by unfold loB; rw [h]; simp
theorem lo_2 {n m : Nat} {c : Nat → MA3} {d : Nat → JB} (h : arG jbB 40 m d = false) : loB n c m d = false := by unfold loB; rw [h]; simp
theorem lo_3 {n m : Nat} {c : Nat → MA3} {d : Nat → JB} (h0 : ¬ (n : Int) = 0) (h1 : arG maB 12 n c = true) (h2 : arG jbB 40 m d = true) : loB n c m d = alG (jmB n) m d := by
  unfold loB; rw [h1, h2, decide_eq_true (by omega : 1 ≤ n)]; simp
theorem lo_p {n m : Nat} {c : Nat → MA3} {d : Nat → JB} (h : loB n c m d = true) : 1 ≤ n ∧ ArG maB 12 n c ∧ ArG jbB 40 m d ∧ ∀ j, j < m → ∀ t, t < (d j).rn → 0 ≤ ((d j).rz t).mac ∧ ((d j).rz t).mac < (n : Int) := by
  unfold loB at h
  simp only [Bool.and_eq_true] at h
  refine ⟨of_decide_eq_true h.1.1.1, arG_p h.1.1.2, arG_p h.1.2, fun j hj t ht => ?_⟩
  have := inB_t ((alG_p (alG_p h.2 j hj)) t ht)
  omega

set_option maxRecDepth 20000 in
set_option maxHeartbeats 4000000 in
theorem implLoadOk_eq (ma : Option Addr) (n mk : Nat) (c : Nat → MA3) (ja : Option Addr) (m jk : Nat) (d : Nat → JB) (v : Bool) (w : World) (hn : (n : Int) ≤ 1048576) (hm : (m : Int) ≤ 1048576) (hl : ∀ j, j < m → ((d j).rn : Int) ≤ 1048576) (hM : MAr w ma n c) (hJ : JBr w ja m d) (hv : loB n c m d = v) :
    Calls Try.prog 29 #[.slice ma n mk, .slice ja m jk] w fun e w' => e = .returned (.bool v) ∧ Below w.heap.size w w' := by
  subst hv
  have HM0 : Hid (MAr w ma n c) := hM
  have HJ0 : Hid (JBr w ja m d) := hJ
  have HN : Hid (∀ j, j < m → ((d j).rn : Int) ≤ 1048576) := hl
  have HBL : Hid (Below w.heap.size w (w.alloc (.cells #[.slice ma n mk] 24 (0, 0)))) := (Below.refl _ _).alloc (Nat.le_refl _) _
  have HCM : Hid (HM (w.alloc (.cells #[.slice ma n mk] 24 (0, 0))) w.heap.size ma n mk) := ((CB.new (w := w) #[.slice ma n mk] 24).cell 0).trans rfl
  clear hM hJ hl
  by_cases h0 : (n : Int) = 0
  · have HV : Hid (false = loB n c m d) := hid (lo_0 h0).symm
    go_enter Try.func29, Try.ntmps29
    go_wp2
    go_returns
    exact ⟨ret_bool HV.out, HBL.out⟩
  cases h1 : arG maB 12 n c
  · have HV : Hid (false = loB n c m d) := hid (lo_1 h1).symm
    have H1 : Hid (arG maB 12 n c = false) := h1
    clear h1
    go_enter Try.func29, Try.ntmps29
    go_wp2_with (go_at_call 70; refine (areMachine_any 12 ma n mk c _ hn (HM0.out.below HBL.out)).mono ?_; rw [H1.out]; rintro e w1 ⟨rfl, b1⟩; have HB1 : Hid (Below w.heap.size w w1) := bel_on HBL.out b1; clear b1)
    go_returns
    exact ⟨ret_bool HV.out, HB1.out⟩
  cases h2 : arG jbB 40 m d
  · have HV : Hid (false = loB n c m d) := hid (lo_2 h2).symm
    have H1 : Hid (arG maB 12 n c = true) := h1
    have H2 : Hid (arG jbB 40 m d = false) := h2
    clear h1 h2
    go_enter Try.func29, Try.ntmps29
    go_wp2_with (first
      | (go_at_call 70; refine (areMachine_any 12 ma n mk c _ hn (HM0.out.below HBL.out)).mono ?_; rw [H1.out]; rintro e w1 ⟨rfl, b1⟩; have HB1 : Hid (Below w.heap.size w w1) := bel_on HBL.out b1; clear b1)
      | (go_at_call 61; refine (areJobs_eq ja m jk d _ _ hm HN.out (HJ0.out.below HB1.out) H2.out).mono ?_; rintro e w2 ⟨rfl, b2⟩; have HB2 : Hid (Below w.heap.size w w2) := bel_on HB1.out b2; clear b2))
    go_returns
    exact ⟨ret_bool HV.out, HB2.out⟩
  obtain ⟨v, hv⟩ : ∃ v, alG (jmB n) m d = v := ⟨_, rfl⟩
  have HV : Hid (v = loB n c m d) := hid (by rw [lo_3 h0 h1 h2, hv])
  have HA : Hid (alG (jmB n) m d = v) := hv
  have H1 : Hid (arG maB 12 n c = true) := h1
  have H2 : Hid (arG jbB 40 m d = true) := h2
  clear h1 h2 hv
  go_enter Try.func29, Try.ntmps29
  go_wp2_with (first
    | (go_at_call 70; refine (areMachine_any 12 ma n mk c _ hn (HM0.out.below HBL.out)).mono ?_; rw [H1.out]; rintro e w1 ⟨rfl, b1⟩; have HC1 : Hid (HM w1 w.heap.size ma n mk) := HCM.out.below b1; have HB1 : Hid (Below w.heap.size w w1) := bel_on HBL.out b1; clear b1)
    | (go_at_call 61; refine (areJobs_eq ja m jk d _ _ hm HN.out (HJ0.out.below HB1.out) H2.out).mono ?_; rintro e w2 ⟨rfl, b2⟩; have HC2 : Hid (HM w2 w.heap.size ma n mk) := HC1.out.below b2; have lt2 : w.heap.size < w2.heap.size := cell_lt HC2.out; have HB2 : Hid (Below w.heap.size w w2) := bel_on HB1.out b2; have b3 : Below w2.heap.size w2 (w2.alloc (.cells #[.func (.func 71) #[] #[.pointer (some ⟨w.heap.size, 0, none⟩)]] 107 (0, 0))) := (Below.refl _ _).alloc (Nat.le_refl _) _; have HB3 : Hid (Below w.heap.size w (w2.alloc (.cells #[.func (.func 71) #[] #[.pointer (some ⟨w.heap.size, 0, none⟩)]] 107 (0, 0)))) := bel_on HB2.out b3; have HH3 : Hid (HJ (w2.alloc (.cells #[.func (.func 71) #[] #[.pointer (some ⟨w.heap.size, 0, none⟩)]] 107 (0, 0))) w2.heap.size w.heap.size ma n mk) := ⟨((CB.new (w := w2) #[.func (.func 71) #[] #[.pointer (some ⟨w.heap.size, 0, none⟩)]] 107).cell 0).trans rfl, HC2.out.below b3⟩; clear b2 b3)
    | (go_at_call 72; go_loud (refine (allJob ja m jk d w2.heap.size w.heap.size ma n mk _ _ hn HH3.out hm HN.out (HJ0.out.below HB3.out) HA.out).mono ?_; rintro e w4 ⟨rfl, b4⟩; have HB4 : Hid (Below w.heap.size w w4) := bel_on HB3.out b4; clear b4)))
  go_returns
  exact ⟨ret_bool HV.out, HB4.out⟩

set_option maxRecDepth 20000 in
set_option maxHeartbeats 4000000 in
theorem l19Machine_any (r : MA3) (w : World) : Calls Try.prog 68 #[r.val] w fun e w' => e = .returned (.bool (maB r)) ∧ Below w.heap.size w w' := by
  obtain ⟨x0, x1, x2⟩ := r
  unfold MA3.val
  cases h0 : inB x0 0 23
  · have HV : Hid (false = maB ⟨x0, x1, x2⟩) := hid (decide_eq_false (by have := inB_f h0; first | omega | (simp only; omega))).symm
    go_enter Try.func68, Try.ntmps68
    go_wp2_with (go_at_call 66; refine (l1In_any _ _ _ _).mono ?_; rintro e w1 ⟨rfl, rfl⟩)
    go_returns
    exact ⟨ret_bool HV.out, by go_grown⟩
  have h0' := inB_t h0
  cases h1 : inB x1 (x0 + 1) 24
  · have HV : Hid (false = maB ⟨x0, x1, x2⟩) := hid (decide_eq_false (by have := inB_f h1; first | omega | (simp only; omega))).symm
    go_enter Try.func68, Try.ntmps68
    go_wp2_with (go_at_call 66; refine (l1In_any _ _ _ _).mono ?_; rintro e w1 ⟨rfl, rfl⟩)
    go_returns
    exact ⟨ret_bool HV.out, by go_grown⟩
  have HV : Hid (inB x2 0 100 = maB ⟨x0, x1, x2⟩) := hid (by unfold maB inB; rw [Bool.eq_iff_iff]; have := inB_t h1; simp; omega)
  go_enter Try.func68, Try.ntmps68
  go_wp2_with (go_at_call 66; refine (l1In_any _ _ _ _).mono ?_; rintro e w1 ⟨rfl, rfl⟩)
  go_returns
  exact ⟨ret_bool HV.out, by go_grown⟩
theorem l19Machine_eq (r : MA3) (v : Bool) (w : World) (h : maB r = v) : Calls Try.prog 68 #[r.val] w fun e w' => e = .returned (.bool v) ∧ Below w.heap.size w w' := by
  subst h; exact l19Machine_any r w

set_option maxRecDepth 20000 in
set_option maxHeartbeats 4000000 in
theorem l19Job_eq (r : JB) (ra : Option Addr) (rc : Nat) (v : Bool) (w : World) (hN : (r.rn : Int) ≤ 1048576) (hR : TKr w ra r.rn r.rz) (h : jbB r = v) : Calls Try.prog 95 #[r.val ra rc] w fun e w' => e = .returned (.bool v) ∧ Below w.heap.size w w' := by
  subst h
  have HR : Hid (TKr w ra r.rn r.rz) := hR
  have HBL : Hid (Below w.heap.size w (w.alloc (.cells #[.int .i64 r.rdy, .int .i64 r.due, .int .i64 r.wgt, .slice ra r.rn rc] 34 (0, 0)))) := (Below.refl _ _).alloc (Nat.le_refl _) _
  have HCB : Hid (CB (w.alloc (.cells #[.int .i64 r.rdy, .int .i64 r.due, .int .i64 r.wgt, .slice ra r.rn rc] 34 (0, 0))) w.heap.size #[.int .i64 r.rdy, .int .i64 r.due, .int .i64 r.wgt, .slice ra r.rn rc] 34) := CB.new _ _
  clear hR
  obtain ⟨x0, x1, x2, n, z⟩ := r
  unfold JB.val
  cases h0 : inB x0 0 5000
  · have HV : Hid (jbB ⟨x0, x1, x2, n, z⟩ = false) := hid (jbB_a (decide_eq_false (by have := inB_f h0; first | omega | (simp only; omega))))
    go_enter Try.func95, Try.ntmps95
    go_wp2_with (first | (go_at_call 77; refine (l19Hour_any _ _).mono ?_; rintro e w1 ⟨rfl, ew⟩; replace ew := ew.symm; subst ew) | (go_at_call 66; refine (l1In_any _ _ _ _).mono ?_; rintro e w1 ⟨rfl, ew⟩; replace ew := ew.symm; subst ew))
    go_returns
    exact ⟨ret_bool HV.out.symm, HBL.out⟩
  cases h1 : inB x1 0 5000
  · have HV : Hid (jbB ⟨x0, x1, x2, n, z⟩ = false) := hid (jbB_a (decide_eq_false (by have := inB_f h1; first | omega | (simp only; omega))))
    go_enter Try.func95, Try.ntmps95
    go_wp2_with (first | (go_at_call 77; refine (l19Hour_any _ _).mono ?_; rintro e w1 ⟨rfl, ew⟩; replace ew := ew.symm; subst ew) | (go_at_call 66; refine (l1In_any _ _ _ _).mono ?_; rintro e w1 ⟨rfl, ew⟩; replace ew := ew.symm; subst ew))
    go_returns
    exact ⟨ret_bool HV.out.symm, HBL.out⟩
  cases h2 : inB x2 0 1000
  · have HV : Hid (jbB ⟨x0, x1, x2, n, z⟩ = false) := hid (jbB_a (decide_eq_false (by have := inB_f h2; first | omega | (simp only; omega))))
    go_enter Try.func95, Try.ntmps95
    go_wp2_with (first | (go_at_call 77; refine (l19Hour_any _ _).mono ?_; rintro e w1 ⟨rfl, ew⟩; replace ew := ew.symm; subst ew) | (go_at_call 66; refine (l1In_any _ _ _ _).mono ?_; rintro e w1 ⟨rfl, ew⟩; replace ew := ew.symm; subst ew))
    go_returns
    exact ⟨ret_bool HV.out.symm, HBL.out⟩
  cases h3 : inB (n : Int) 1 8
  · have HV : Hid (jbB ⟨x0, x1, x2, n, z⟩ = false) := hid (by
      by_cases q : (1 : Int) ≤ (n : Int)
      · exact jbB_b (arG_f fun H => by have h8 : n ≤ 8 := H.1; have := inB_f h3; omega)
      · exact jbB_a (decide_eq_false (by first | omega | (simp only; omega))))
    go_enter Try.func95, Try.ntmps95
    go_wp2_with (first | (go_at_call 77; refine (l19Hour_any _ _).mono ?_; rintro e w1 ⟨rfl, ew⟩; replace ew := ew.symm; subst ew) | (go_at_call 66; refine (l1In_any _ _ _ _).mono ?_; rintro e w1 ⟨rfl, ew⟩; replace ew := ew.symm; subst ew))
    go_returns
    exact ⟨ret_bool HV.out.symm, HBL.out⟩
  have hl8 : (n : Int) ≤ 8 := (inB_t h3).2
  have HJA : Hid (jaB ⟨x0, x1, x2, n, z⟩ = true) := hid (decide_eq_true (by have := inB_t h0; have := inB_t h1; have := inB_t h2; have := inB_t h3; first | omega | (simp only; omega)))
  go_enter Try.func95, Try.ntmps95
  go_wp2_with (first | (go_at_call 77; refine (l19Hour_any _ _).mono ?_; rintro e w1 ⟨rfl, rfl⟩) | (go_at_call 66; refine (l1In_any _ _ _ _).mono ?_; rintro e w1 ⟨rfl, rfl⟩))
  go_loopw [3] (fun i wr => ∃ k : Nat, k ≤ n ∧ i = .int .i64 (k : Int) ∧ Hid ((∀ j, j < k → tkB (z j) = true) ∧ Below w.heap.size w wr ∧ CB wr w.heap.size #[.int .i64 x0, .int .i64 x1, .int .i64 x2, .slice ra n rc] 34)) (fun i _ => n - (intOf i).toNat)
  case atStart => exact ⟨0, Nat.zero_le _, rfl, fun j hj => by omega, HBL.out, HCB.out⟩
  case round =>
    obtain ⟨k, hk, rfl, HH⟩ := hrel
    have k3 := (HH.out.2.2.cell 3).trans rfl
    by_cases hlt : k < n
    · have hlt2 : (k : Int) < (n : Int) := by omega
      obtain ⟨kb, off, rfl, _⟩ := HR.out.addr (by omega)
      obtain ⟨c0, c1, c2⟩ := (HR.out.below HH.out.2.1).cell hlt
      generalize hz : z k = r at *
      have HZ : Hid (z k = r) := hz
      obtain ⟨y0, y1, y2⟩ := r
      simp only at c0 c1 c2
      clear hz
      cases g1 : inB y1 1 500
      · have HV : Hid (false = jbB ⟨x0, x1, x2, n, z⟩) := hid (jbB_b (arG_bad hlt (by show tkB (z k) = false; rw [HZ.out]; exact decide_eq_false (by have := inB_f g1; first | omega | (simp only; omega))))).symm
        go_wp2_with (go_at_call 66; refine (l1In_any _ _ _ _).mono ?_; rintro e w1 ⟨rfl, rfl⟩)
        go_returns
        exact ⟨ret_bool HV.out, HH.out.2.1⟩
      cases g2 : inB y2 0 9
      · have HV : Hid (false = jbB ⟨x0, x1, x2, n, z⟩) := hid (jbB_b (arG_bad hlt (by show tkB (z k) = false; rw [HZ.out]; exact decide_eq_false (by have := inB_f g2; first | omega | (simp only; omega))))).symm
        go_wp2_with (go_at_call 66; refine (l1In_any _ _ _ _).mono ?_; rintro e w1 ⟨rfl, rfl⟩)
        go_returns
        exact ⟨ret_bool HV.out, HH.out.2.1⟩
      have HT : Hid (∀ j, j < k + 1 → tkB (z j) = true) := fun j hj => by
        by_cases e : j = k
        · subst e; rw [HZ.out]; exact decide_eq_true (by have := inB_t g1; have := inB_t g2; first | omega | (simp only; omega))
        · exact HH.out.1 j (by omega)
      go_wp2_with (go_at_call 66; refine (l1In_any _ _ _ _).mono ?_; rintro e w1 ⟨rfl, rfl⟩)
      go_roundw
      case rel => exact ⟨k + 1, by omega, by go_num, HT.out, HH.out.2⟩
      case measure => simp [intOf]; omega
    · obtain rfl : k = n := by omega
      have lkk : ¬ (k : Int) < (k : Int) := by omega
      have HV : Hid (true = jbB ⟨x0, x1, x2, k, z⟩) := hid (jbB_c HJA.out (arG_t ⟨by simp only; omega, HH.out.1⟩)).symm
      go_wp2
      go_returns
      exact ⟨ret_bool HV.out, HH.out.2.1⟩
set_option maxRecDepth 20000 in
set_option maxHeartbeats 4000000 in
theorem l19Jobs_eq (ad : Option Addr) (len cap : Nat) (c : Nat → JB) (v : Bool) (w : World) (h : (len : Int) ≤ 1048576) (hl : ∀ j, j < len → ((c j).rn : Int) ≤ 1048576) (hr : JBr w ad len c) (hv : arG jbB 40 len c = v) :
    Calls Try.prog 67 #[.slice ad len cap] w fun e w' => e = .returned (.bool v) ∧ Below w.heap.size w w' := by
  subst hv
  have HR : Hid (JBr w ad len c) := hr
  have HN : Hid (∀ j, j < len → ((c j).rn : Int) ≤ 1048576) := hl
  clear hr hl
  by_cases h6 : (40 : Int) < (len : Int)
  · have HV : Hid (false = arG jbB 40 len c) := (arG_f fun H => by have := H.1; omega).symm
    go_enter Try.func67, Try.ntmps67
    go_wp2
    go_returns
    exact ⟨ret_bool HV.out, Below.refl _ _⟩
  go_enter Try.func67, Try.ntmps67
  go_wp2
  go_loopw [3] (fun i wr => ∃ k : Nat, k ≤ len ∧ i = .int .i64 (k : Int) ∧ Hid ((∀ j, j < k → jbB (c j) = true) ∧ Below w.heap.size w wr)) (fun i _ => len - (intOf i).toNat)
  case atStart => exact ⟨0, Nat.zero_le _, rfl, fun j hj => by omega, Below.refl _ _⟩
  case round =>
    obtain ⟨k, hk, rfl, HH⟩ := hrel
    by_cases hlt : k < len
    · have hlt2 : (k : Int) < (len : Int) := by omega
      obtain ⟨kb, off, rfl, _⟩ := HR.out.addr (by omega)
      obtain ⟨ra, rc, _, c0, c1, c2, c3, c4⟩ := (HR.out.below HH.out.2).cell hlt
      have HT : Hid (TKr wr ra (c k).rn (c k).rz) := c4
      have hnk := HN.out k hlt
      clear c4
      cases g : jbB (c k)
      · have HV : Hid (false = arG jbB 40 len c) := (arG_bad hlt g).symm
        have HG : Hid (jbB (c k) = false) := g
        clear g
        go_wp2_with (go_at_call 95; refine (l19Job_eq (c k) ra rc _ _ hnk HT.out HG.out).mono ?_; rintro e w1 ⟨rfl, b1⟩; have HB1 : Hid (Below w.heap.size w w1) := bel_on HH.out.2 b1; clear b1)
        go_returns
        exact ⟨ret_bool HV.out, HB1.out⟩
      · have HG : Hid (jbB (c k) = true) := g
        clear g
        go_wp2_with (go_at_call 95; refine (l19Job_eq (c k) ra rc _ _ hnk HT.out HG.out).mono ?_; rintro e w1 ⟨rfl, b1⟩; have HB1 : Hid (Below w.heap.size w w1) := bel_on HH.out.2 b1; clear b1)
        go_roundw
        case rel => exact ⟨k + 1, by omega, by go_num, fun j hj => (by
          by_cases e : j = k
          · subst e; exact HG.out
          · exact HH.out.1 j (by omega)), HB1.out⟩
        case measure => simp [intOf]; omega
    · obtain rfl : k = len := by omega
      have lkk : ¬ (k : Int) < (k : Int) := by omega
      have HV : Hid (true = arG jbB 40 k c) := (arG_t ⟨by omega, HH.out.1⟩).symm
      go_wp2
      go_returns
      exact ⟨ret_bool HV.out, HH.out.2⟩
set_option maxRecDepth 20000 in
set_option maxHeartbeats 4000000 in
theorem specLoadOk_eq (ma : Option Addr) (n mk : Nat) (c : Nat → MA3) (ja : Option Addr) (m jk : Nat) (d : Nat → JB) (v : Bool) (w : World) (hn : (n : Int) ≤ 1048576) (hm : (m : Int) ≤ 1048576) (hl : ∀ j, j < m → ((d j).rn : Int) ≤ 1048576) (hM : MAr w ma n c) (hJ : JBr w ja m d) (hv : loB n c m d = v) :
    Calls Try.prog 26 #[.slice ma n mk, .slice ja m jk] w fun e w' => e = .returned (.bool v) ∧ Below w.heap.size w w' := by
  subst hv
  have HM0 : Hid (MAr w ma n c) := hM
  have HJ0 : Hid (JBr w ja m d) := hJ
  have HN : Hid (∀ j, j < m → ((d j).rn : Int) ≤ 1048576) := hl
  clear hM hJ hl
  cases h1 : inB (n : Int) 1 12
  · have HV : Hid (false = loB n c m d) := hid (by
      by_cases h0 : (n : Int) = 0
      · exact (lo_0 h0).symm
      · exact (lo_1 (arG_f fun H => by have := H.1; have := inB_f h1; omega)).symm)
    go_enter Try.func26, Try.ntmps26
    go_wp2_with (go_at_call 66; refine (l1In_any _ _ _ _).mono ?_; rintro e w1 ⟨rfl, ew⟩; replace ew := ew.symm; subst ew)
    go_returns
    exact ⟨ret_bool HV.out, Below.refl _ _⟩
  have hn1 := inB_t h1
  cases h2 : arG jbB 40 m d
  · have HV : Hid (false = loB n c m d) := hid (lo_2 h2).symm
    have H2 : Hid (arG jbB 40 m d = false) := h2
    clear h2
    go_enter Try.func26, Try.ntmps26
    go_wp2_with (first
      | (go_at_call 66; refine (l1In_any _ _ _ _).mono ?_; rintro e w1 ⟨rfl, ew⟩; replace ew := ew.symm; subst ew)
      | (go_at_call 67; refine (l19Jobs_eq ja m jk d _ _ hm HN.out HJ0.out H2.out).mono ?_; rintro e w1 ⟨rfl, b1⟩; have HB1 : Hid (Below w.heap.size w w1) := b1; clear b1))
    go_returns
    exact ⟨ret_bool HV.out, HB1.out⟩
  have H2 : Hid (arG jbB 40 m d = true) := h2
  clear h2
  go_enter Try.func26, Try.ntmps26
  go_wp2_with (first
    | (go_at_call 66; refine (l1In_any _ _ _ _).mono ?_; rintro e w1 ⟨rfl, ew⟩; replace ew := ew.symm; subst ew)
    | (go_at_call 67; refine (l19Jobs_eq ja m jk d _ _ hm HN.out HJ0.out H2.out).mono ?_; rintro e w1 ⟨rfl, b1⟩; have HB1 : Hid (Below w.heap.size w w1) := b1; clear b1))
  go_loopw [5] (fun i wr => ∃ k : Nat, k ≤ n ∧ i = .int .i64 (k : Int) ∧ Hid ((∀ j, j < k → maB (c j) = true) ∧ Below w.heap.size w wr)) (fun i _ => n - (intOf i).toNat)
  case atStart => exact ⟨0, Nat.zero_le _, rfl, fun j hj => by omega, HB1.out⟩
  case round =>
    obtain ⟨k, hk, rfl, HH⟩ := hrel
    by_cases hlt : k < n
    · have hlt2 : (k : Int) < (n : Int) := by omega
      obtain ⟨kb, off, rfl, _⟩ := HM0.out.addr (by omega)
      obtain ⟨c0, c1, c2⟩ := (HM0.out.below HH.out.2).cell hlt
      cases g : maB (c k)
      · have HV : Hid (false = loB n c m d) := hid (lo_1 (arG_bad hlt g)).symm
        have HG : Hid (maB (c k) = false) := g
        clear g
        go_wp2_with (go_at_call 68; refine (l19Machine_eq (c k) _ _ HG.out).mono ?_; rintro e w2 ⟨rfl, b2⟩; have HB2 : Hid (Below w.heap.size w w2) := bel_on HH.out.2 b2; clear b2)
        go_returns
        exact ⟨ret_bool HV.out, HB2.out⟩
      · have HG : Hid (maB (c k) = true) := g
        clear g
        go_wp2_with (go_at_call 68; refine (l19Machine_eq (c k) _ _ HG.out).mono ?_; rintro e w2 ⟨rfl, b2⟩; have HB2 : Hid (Below w.heap.size w w2) := bel_on HH.out.2 b2; clear b2)
        go_roundw
        case rel => exact ⟨k + 1, by omega, by go_num, fun j hj => (by
          by_cases e : j = k
          · subst e; exact HG.out
          · exact HH.out.1 j (by omega)), HB2.out⟩
        case measure => simp [intOf]; omega
    · obtain rfl : k = n := by omega
      have lkk : ¬ (k : Int) < (k : Int) := by omega
      have HMA : Hid (arG maB 12 k c = true) := arG_t ⟨by omega, HH.out.1⟩
      have HBW : Hid (Below w.heap.size w wr) := HH.out.2
      clear HH
      go_wp2
      go_loopw [6] (fun i wr => ∃ q : Nat, q ≤ m ∧ i = .int .i64 (q : Int) ∧ Hid ((∀ j, j < q → jmB k (d j) = true) ∧ Below w.heap.size w wr)) (fun i _ => m - (intOf i).toNat)
      case atStart => exact ⟨0, Nat.zero_le _, rfl, fun j hj => by omega, HBW.out⟩
      case round =>
        obtain ⟨q, hq, rfl, HH⟩ := hrel
        by_cases hqt : q < m
        · have hqt2 : (q : Int) < (m : Int) := by omega
          obtain ⟨jb, jo, rfl, _⟩ := HJ0.out.addr (by omega)
          have hnk := HN.out q hqt
          have HQ : Hid ((∀ j, j < q → jmB k (d j) = true) ∧ Below w.heap.size w wr) := HH
          go_wp2
          go_loopw [7] (fun i wr => ∃ t : Nat, t ≤ (d q).rn ∧ i = .int .i64 (t : Int) ∧ Hid ((∀ j, j < t → mcB k ((d q).rz j) = true) ∧ Below w.heap.size w wr)) (fun i _ => (d q).rn - (intOf i).toNat)
          case atStart => exact ⟨0, Nat.zero_le _, rfl, fun j hj => by omega, HQ.out.2⟩
          case round =>
            obtain ⟨t, ht, rfl, HI⟩ := hrel
            obtain ⟨ra, rc, _, c0, c1, c2, c3, c4⟩ := (HJ0.out.below HI.out.2).cell hqt
            by_cases htt : t < (d q).rn
            · have htt2 : (t : Int) < ((d q).rn : Int) := by omega
              obtain ⟨tb, to, rfl, _⟩ := c4.addr (by omega)
              obtain ⟨t0, t1, t2⟩ := c4.cell htt
              clear c4
              cases g : inB ((d q).rz t).mac 0 ((k : Int) - 1)
              · have HV : Hid (false = loB k c m d) := hid (by
                  have e1 : jmB k (d q) = false := alG_bad htt g
                  rw [lo_3 (by omega) HMA.out H2.out, alG_bad hqt e1])
                have HG : Hid (inB ((d q).rz t).mac 0 ((k : Int) - 1) = false) := g
                clear g
                go_wp2_with (go_at_call 66; refine (l1In_eq _ _ _ _ _ HG.out).mono ?_; rintro e w2 ⟨rfl, rfl⟩)
                go_returns
                exact ⟨ret_bool HV.out, HI.out.2⟩
              · have HG : Hid (inB ((d q).rz t).mac 0 ((k : Int) - 1) = true) := g
                clear g
                go_wp2_with (go_at_call 66; refine (l1In_eq _ _ _ _ _ HG.out).mono ?_; rintro e w2 ⟨rfl, rfl⟩)
                go_roundw
                case rel => exact ⟨t + 1, by omega, by go_num, fun j hj => (by
                  by_cases e : j = t
                  · subst e; exact HG.out
                  · exact HI.out.1 j (by omega)), HI.out.2⟩
                case measure => simp [intOf]; omega
            · obtain rfl : t = (d q).rn := by omega
              have ltt : ¬ ((d q).rn : Int) < ((d q).rn : Int) := by omega
              have HJ1 : Hid (jmB k (d q) = true) := alG_t HI.out.1
              have HB3 : Hid (Below w.heap.size w wr) := HI.out.2
              clear c4 HI
              go_wp2
              go_roundw
              case rel => exact ⟨q + 1, by omega, by go_num, fun j hj => (by
                by_cases e : j = q
                · subst e; exact HJ1.out
                · exact HQ.out.1 j (by omega)), HB3.out⟩
              case measure => simp [intOf]; omega
        · obtain rfl : q = m := by omega
          have lqq : ¬ (q : Int) < (q : Int) := by omega
          have HV : Hid (true = loB k c q d) := hid (by rw [lo_3 (by omega) HMA.out H2.out, alG_t HH.out.1])
          go_wp2
          go_returns
          exact ⟨ret_bool HV.out, HH.out.2⟩
end Go.Proofs.Ytogolmbgboihdaa
