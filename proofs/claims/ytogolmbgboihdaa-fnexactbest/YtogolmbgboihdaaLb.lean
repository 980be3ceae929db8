/- Orders that have each place once: both sides' tests answer 'orB'. -/
import Derived.Test.YtogolmbgboihdaaLa
import Derived.Test.YtogolmbgboihdaaIb
import Derived.BigQuiet
import Derived.Deep.QuietTactic
namespace Go.Proofs.Ytogolmbgboihdaa
open Go Go.ChangeShapes Go.WideShapes Go.ChangeAt Go.RowKit
set_option linter.unusedVariables false
set_option linter.unusedSimpArgs false

def zerosB (n : Nat) : Array Value := madeCells #[.bool false] n
theorem zerosB_get {n j : Nat} (h : j < n) : (zerosB n)[j]? = some (.bool false) := by
  simp [zerosB, madeCells, h, Nat.mod_one]
set_option maxRecDepth 100000 in
theorem mkBo (n : Nat) (h : (n : Int) ≤ 1048576) (w : World) : (Instr.makeSlice 125 (.int .i64 (n : Int)) (.int .i64 (n : Int))).run Try.prog w = .ok (.slice (some ⟨w.heap.size, 0, none⟩) n n) (w.alloc (.cells (zerosB n) 4)) := by
  obtain ⟨i, hi⟩ : ∃ i, Try.prog.info? 4 = some i := ⟨_, rfl⟩
  have hz : i.zero = some (.bool false) := by
    have : (Try.prog.info? 4).bind (·.zero) = some (.bool false) := by kernel_rfl
    rw [hi] at this; exact this
  have hs : i.size = 1 := by
    have : (Try.prog.info? 4).map (·.size) = some 1 := by kernel_rfl
    rw [hi] at this; simpa using this
  have hb : i.bytes = 1 := by
    have : (Try.prog.info? 4).map (·.bytes) = some 1 := by kernel_rfl
    rw [hi] at this; simpa using this
  have hr := run_make (P := Try.prog) w 125 4 i (.bool false) Try.underlying125 hi hz .i64 .i64 n n (by omega) (by omega) (by rw [hb]; omega) (by omega)
  simp only [Int.toNat_natCast, hs, Nat.mul_one] at hr
  exact hr
/-- A row of truths in a block of its own. -/
def BA (W : World) (b n : Nat) (f : Nat → Bool) : Prop := ∃ cs, CB W b cs 4 ∧ cs.size = n ∧ ∀ j, j < n → cs[j]? = some (.bool (f j))
section
variable {W W' : World} {b n : Nat} {f : Nat → Bool}
theorem BA.lt (h : BA W b n f) : b < W.heap.size := by obtain ⟨cs, h, _⟩ := h; exact h.lt
theorem BA.cell (h : BA W b n f) {j : Nat} (hj : j < n) : W.cell? ⟨b, j, none⟩ = some (.bool (f j)) := by obtain ⟨cs, h1, _, h2⟩ := h; rw [h1.cell]; exact h2 j hj
theorem BA.fr (h : BA W b n f) (j : Nat) : W.frozen? ⟨b, j, none⟩ = false := by obtain ⟨cs, h1, _⟩ := h; exact h1.fr j
theorem BA.keep (h : BA W b n f) (hb : W'.heap[b]? = W.heap[b]?) : BA W' b n f := by obtain ⟨cs, h1, h2⟩ := h; exact ⟨cs, by unfold CB at h1 ⊢; rw [hb]; exact h1, h2⟩
theorem BA.below (h : BA W b n f) (k : Below W.heap.size W W') : BA W' b n f := h.keep (k.block b h.lt)
theorem BA.set (h : BA W b n f) {p : Nat} (hp : p < n) (v : Bool) : BA (W.setCell ⟨b, p, none⟩ (.bool v)) b n (fun j => if j = p then v else f j) := by
  obtain ⟨cs, h1, h2, h3⟩ := h
  refine ⟨cs.setIfInBounds p (.bool v), h1.set p _, by simpa using h2, fun j hj => ?_⟩
  by_cases e : j = p
  · subst e; simp [h2, hj]
  · simp only [e, if_false]; rw [Array.getElem?_setIfInBounds_ne (fun q => e q.symm)]; exact h3 j hj
end

open Classical in
noncomputable def orB (o : Nat → Int) (no nj : Nat) : Bool := decide (OrP o no nj)
open Classical in
theorem orB_t {o : Nat → Int} {no nj : Nat} (h : OrP o no nj) : orB o no nj = true := by unfold orB; exact decide_eq_true h
open Classical in
theorem orB_f {o : Nat → Int} {no nj : Nat} (h : ¬ OrP o no nj) : orB o no nj = false := by unfold orB; exact decide_eq_false h
open Classical in
theorem orB_p {o : Nat → Int} {no nj : Nat} (h : orB o no nj = true) : OrP o no nj := by unfold orB at h; exact of_decide_eq_true h
/-- What was met among the first k. -/
def metB (o : Nat → Int) (k p : Nat) : Bool := hasB o (p : Int) k
theorem met_s {o : Nat → Int} {k p J : Nat} (h : o k = (J : Int)) : (if p = J then true else metB o k p) = metB o (k + 1) p := by
  show _ = (hasB o (p : Int) k || (o k == (p : Int)))
  rw [h]
  by_cases e : p = J
  · subst e; simp
  · have e2 : ((J : Int) == (p : Int)) = false := by simp; omega
    rw [if_neg e, e2, Bool.or_false]; rfl
theorem or_bad {o : Nat → Int} {no nj k : Nat} (hk : k < no) (h : inB (o k) 0 ((nj : Int) - 1) = false) : orB o no nj = false := orB_f fun H => by have := H.2.1 k hk; have := inB_f h; omega
theorem or_twice {o : Nat → Int} {no nj k : Nat} (hk : k < no) (h : hasB o (o k) k = true) : orB o no nj = false := orB_f fun H => by obtain ⟨j, h1, h2⟩ := hasB_y h; exact H.2.2 j k h1 hk h2
theorem or_len {o : Nat → Int} {no nj : Nat} (h : ¬ no = nj) : orB o no nj = false := orB_f fun H => h H.1
theorem or_end {o : Nat → Int} {no nj : Nat} (he : no = nj) (h : ∀ k, k < no → inB (o k) 0 ((nj : Int) - 1) = true ∧ hasB o (o k) k = false) : orB o no nj = true := orB_t ⟨he, fun i hi => by have := inB_t (h i hi).1; omega, fun i k hik hk e => hasB_n (h k hk).2 i hik e⟩

set_option maxRecDepth 20000 in
set_option maxHeartbeats 4000000 in
theorem each_eq (oa : Option Addr) (no ok nj : Nat) (o : Nat → Int) (v : Bool) (w : World) (hn : (no : Int) ≤ 1048576) (hj : (nj : Int) ≤ 40) (hr : IR w oa no o) (hv : orB o no nj = v) :
    Calls Try.prog 54 #[.slice oa no ok, .int .i64 (nj : Int)] w fun e w' => e = .returned (.bool v) ∧ Below w.heap.size w w' := by
  subst hv
  have HR : Hid (IR w oa no o) := hr
  have hmk := mkBo nj (by omega)
  clear hr
  go_enter Try.func54, Try.ntmps54
  go_wp2
  have H0 : Hid (Below w.heap.size w (w.alloc (.cells (zerosB nj) 4)) ∧ BA (w.alloc (.cells (zerosB nj) 4)) w.heap.size nj (metB o 0)) := ⟨(Below.refl _ _).alloc (Nat.le_refl _) _, zerosB nj, CB.new _ _, by simp [zerosB, size_madeCells], fun j hj => zerosB_get hj⟩
  generalize w.alloc (.cells (zerosB nj) 4) = W1 at H0 ⊢
  go_loopw [12] (fun i wr => ∃ k : Nat, k ≤ no ∧ i = .int .i64 (k : Int) ∧ Hid ((∀ i, i < k → inB (o i) 0 ((nj : Int) - 1) = true ∧ hasB o (o i) i = false) ∧ Below w.heap.size w wr ∧ BA wr w.heap.size nj (metB o k))) (fun i _ => no - (intOf i).toNat)
  case atStart => exact ⟨0, Nat.zero_le _, rfl, fun i hi => by omega, H0.out⟩
  case round =>
    obtain ⟨k, hk, rfl, HH⟩ := hrel
    by_cases hlt : k < no
    · have hlt2 : (k : Int) < (no : Int) := by omega
      obtain ⟨kb, off, rfl, _⟩ := HR.out.addr (by omega)
      have c0 := (HR.out.below HH.out.2.1).cell hlt
      obtain ⟨x, hx⟩ : ∃ x, o k = x := ⟨_, rfl⟩
      have HX : Hid (o k = x) := hx
      rw [hx] at c0
      clear hx
      cases g1 : inB x 0 ((nj : Int) - 1)
      · have HV : Hid (false = orB o no nj) := hid (or_bad hlt (by rw [HX.out]; exact g1)).symm
        have HB : Hid (Below w.heap.size w wr) := HH.out.2.1
        have HG1 : Hid (inB x 0 ((nj : Int) - 1) = false) := g1
        clear g1
        go_wp2_with (go_at_call 62; refine (isPlace_eq _ _ _ _ HG1.out).mono ?_; rintro e w2 ⟨rfl, ew⟩; replace ew := ew.symm; subst ew)
        go_returns
        exact ⟨ret_bool HV.out, HB.out⟩
      have hx0 := inB_t g1
      have HG1 : Hid (inB x 0 ((nj : Int) - 1) = true) := g1
      clear g1
      obtain ⟨J, rfl⟩ : ∃ J : Nat, x = (J : Int) := ⟨x.toNat, by omega⟩
      have hJ : J < nj := by omega
      have hJ2 : (J : Int) < (nj : Int) := by omega
      have n0 := HH.out.2.2.cell hJ
      have f0 := HH.out.2.2.fr J
      cases g2 : hasB o (J : Int) k
      · rw [show metB o k J = false from g2] at n0
        have HT : Hid ((∀ i, i < k + 1 → inB (o i) 0 ((nj : Int) - 1) = true ∧ hasB o (o i) i = false) ∧ Below w.heap.size w (wr.setCell ⟨w.heap.size, J, none⟩ (.bool true)) ∧ BA (wr.setCell ⟨w.heap.size, J, none⟩ (.bool true)) w.heap.size nj (metB o (k + 1))) := by
          refine ⟨fun i hi => ?_, HH.out.2.1.setCell (Nat.le_refl _) _, ?_⟩
          · by_cases e : i = k
            · subst e; rw [HX.out]; exact ⟨HG1.out, g2⟩
            · exact HH.out.1 i (by omega)
          · have := HH.out.2.2.set hJ true
            rw [show (fun j => if j = J then true else metB o k j) = metB o (k + 1) from funext fun p => met_s HX.out] at this
            exact this
        clear g2 HH
        go_wp2_with (go_at_call 62; refine (isPlace_eq _ _ _ _ HG1.out).mono ?_; rintro e w2 ⟨rfl, ew⟩; replace ew := ew.symm; subst ew)
        go_roundw
        case rel => exact ⟨k + 1, by omega, by go_num, HT.out⟩
        case measure => simp [intOf]; omega
      · rw [show metB o k J = true from g2] at n0
        have HV : Hid (false = orB o no nj) := hid (or_twice hlt (by rw [HX.out]; exact g2)).symm
        have HB : Hid (Below w.heap.size w wr) := HH.out.2.1
        clear g2 HH
        go_wp2_with (go_at_call 62; refine (isPlace_eq _ _ _ _ HG1.out).mono ?_; rintro e w2 ⟨rfl, ew⟩; replace ew := ew.symm; subst ew)
        go_returns
        exact ⟨ret_bool HV.out, HB.out⟩
    · obtain rfl : k = no := by omega
      have lkk : ¬ (k : Int) < (k : Int) := by omega
      by_cases e : k = nj
      · have HV : Hid (true = orB o k nj) := hid (or_end e HH.out.1).symm
        subst e
        go_wp2
        go_returns
        exact ⟨by simpa using HV.out, HH.out.2.1⟩
      · have HV : Hid (false = orB o k nj) := hid (or_len e).symm
        have e2 : ((k : Int) == (nj : Int)) = false := by simp; omega
        go_wp2
        go_returns
        exact ⟨by first | (rw [e2]; exact ret_bool HV.out) | exact ret_bool HV.out, HH.out.2.1⟩
theorem IR.sub {w : World} {oa : Option Addr} {n m : Nat} {o : Nat → Int} (h : IR w oa n o) (hm : m ≤ n) : IR w oa m o := by
  rcases h with q | ⟨k, off, e, hk, hc⟩
  · exact .inl (by omega)
  · exact .inr ⟨k, off, e, hk, fun j hj => hc j (by omega)⟩
set_option maxRecDepth 20000 in
set_option maxHeartbeats 4000000 in
theorem order_eq (oa : Option Addr) (no ok nj : Nat) (o : Nat → Int) (v : Bool) (w : World) (hn : (no : Int) ≤ 1048576) (hc : no ≤ ok) (hj : (nj : Int) ≤ 40) (hr : IR w oa no o) (hv : orB o no nj = v) :
    Calls Try.prog 52 #[.slice oa no ok, .int .i64 (nj : Int)] w fun e w' => e = .returned (.bool v) ∧ Below w.heap.size w w' := by
  subst hv
  have HR : Hid (IR w oa no o) := hr
  clear hr
  by_cases e : no = nj
  · subst e
    have e2 : ((no : Int) != (no : Int)) = false := by simp
    go_enter Try.func52, Try.ntmps52
    go_wp2
    go_loopw [5] (fun i wr => ∃ k : Nat, k ≤ no ∧ i = .int .i64 (k : Int) ∧ Hid ((∀ i, i < k → inB (o i) 0 ((no : Int) - 1) = true ∧ hasB o (o i) i = false) ∧ Below w.heap.size w wr)) (fun i _ => no - (intOf i).toNat)
    case atStart => exact ⟨0, Nat.zero_le _, rfl, fun i hi => by omega, Below.refl _ _⟩
    case round =>
      obtain ⟨k, hk, rfl, HH⟩ := hrel
      obtain ⟨wi, rfl⟩ : ∃ x, x = wr := ⟨wr, rfl⟩
      by_cases hlt : k < no
      · have hlt2 : (k : Int) < (no : Int) := by omega
        obtain ⟨kb, off, rfl, _⟩ := HR.out.addr (by omega)
        have c0 := (HR.out.below HH.out.2).cell hlt
        obtain ⟨x, hx⟩ : ∃ x, o k = x := ⟨_, rfl⟩
        have HX : Hid (o k = x) := hx
        rw [hx] at c0
        clear hx
        have hwr : IntKind.i64.wrap ((no : Int) - 1) = (no : Int) - 1 := IntWalk.i64_in _ ⟨by omega, by omega⟩
        cases g1 : inB x 0 ((no : Int) - 1)
        · have HV : Hid (false = orB o no no) := hid (or_bad hlt (by rw [HX.out]; exact g1)).symm
          have HB : Hid (Below w.heap.size w wi) := HH.out.2
          have HL : Hid (∀ W, Calls Try.prog 66 #[.int .i64 x, .int .i64 0, .int .i64 ((no : Int) - 1)] W fun e w' => e = .returned (.bool false) ∧ w' = W) := hid fun W => l1In_eq _ _ _ _ _ g1
          clear g1
          go_wp2
          go_quiet (first | (go_at_call 66; exact Calls.quiet_of_same (HL.out _)))
          go_wp2
          go_returns
          exact ⟨ret_bool HV.out, bd_N HB.out _⟩
        have HL : Hid (∀ W, Calls Try.prog 66 #[.int .i64 x, .int .i64 0, .int .i64 ((no : Int) - 1)] W fun e w' => e = .returned (.bool true) ∧ w' = W) := hid fun W => l1In_eq _ _ _ _ _ g1
        have HG1 : Hid (inB x 0 ((no : Int) - 1) = true) := g1
        clear g1
        cases g2 : hasB o x k
        · have HHS : Hid (∀ W ock, Below w.heap.size w W → Calls Try.prog 80 #[.slice (some ⟨kb, off, none⟩) k ock, .int .i64 x] W fun e w' => e = .returned (.bool false) ∧ w' = W) := hid fun W ock b => l7Has_eq _ k ock o x false W (by omega) ((HR.out.sub hk).below b) g2
          have HT : Hid ((∀ i, i < k + 1 → inB (o i) 0 ((no : Int) - 1) = true ∧ hasB o (o i) i = false) ∧ Below w.heap.size w wi) := ⟨fun i hi => by
            by_cases e : i = k
            · subst e; rw [HX.out]; exact ⟨HG1.out, g2⟩
            · exact HH.out.1 i (by omega), HH.out.2⟩
          have HB : Hid (Below w.heap.size w wi) := HH.out.2
          clear g2 HH
          go_wp2
          go_quiet (first | (go_at_call 66; exact Calls.quiet_of_same (HL.out _)) | (go_at_call 80; exact Calls.quiet_of_same (HHS.out _ _ (by first | exact HB.out | exact bd_N HB.out _))))
          go_wp2
          go_roundw
          case rel => exact ⟨k + 1, by omega, by go_num, HT.out.1, bd_N HT.out.2 _⟩
          case measure => simp [intOf]; omega
        · have HHS : Hid (∀ W ock, Below w.heap.size w W → Calls Try.prog 80 #[.slice (some ⟨kb, off, none⟩) k ock, .int .i64 x] W fun e w' => e = .returned (.bool true) ∧ w' = W) := hid fun W ock b => l7Has_eq _ k ock o x true W (by omega) ((HR.out.sub hk).below b) g2
          have HV : Hid (false = orB o no no) := hid (or_twice hlt (by rw [HX.out]; exact g2)).symm
          have HB : Hid (Below w.heap.size w wi) := HH.out.2
          clear g2 HH
          go_wp2
          go_quiet (first | (go_at_call 66; exact Calls.quiet_of_same (HL.out _)) | (go_at_call 80; exact Calls.quiet_of_same (HHS.out _ _ (by first | exact HB.out | exact bd_N HB.out _))))
          go_wp2
          go_returns
          exact ⟨ret_bool HV.out, bd_N HB.out _⟩
      · obtain rfl : k = no := by omega
        have lkk : ¬ (k : Int) < (k : Int) := by omega
        have HV : Hid (true = orB o k k) := hid (or_end rfl HH.out.1).symm
        go_wp2
        go_returns
        exact ⟨ret_bool HV.out, HH.out.2⟩
  · have HV : Hid (false = orB o no nj) := hid (or_len e).symm
    have e2 : ((no : Int) != (nj : Int)) = true := by simp; omega
    go_enter Try.func52, Try.ntmps52
    go_wp2
    go_returns
    exact ⟨ret_bool HV.out, Below.refl _ _⟩
end Go.Proofs.Ytogolmbgboihdaa
