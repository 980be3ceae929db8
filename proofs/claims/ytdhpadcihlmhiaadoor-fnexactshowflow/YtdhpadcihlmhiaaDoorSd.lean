/- Small tests of both sides; the series of a register: the program's areSeries answers 'serB'. -/
import Derived.Test.YtdhpadcihlmhiaaDoorSc
import Derived.Deep.QuietTactic
import Derived.BigQuiet
namespace Go.Proofs.YtdhpadcihlmhiaaDoor
open Go.ChangeShapes Go.WideShapes Go.ChangeAt Go.RowKit
open Go.Lib (decDigits)
set_option linter.unusedVariables false
set_option linter.unusedSimpArgs false

theorem hid {P : Prop} (h : P) : Hid P := h
theorem bd_N {n : Nat} {A W : World} (h : Below n A W) (q : Nat) : Below n A (W.drewN q) := ⟨h.os, h.tape, h.output, h.size, h.block⟩
def inB (x lo hi : Int) : Bool := decide (lo ≤ x ∧ x ≤ hi)
theorem inB_t {x lo hi : Int} (h : inB x lo hi = true) : lo ≤ x ∧ x ≤ hi := of_decide_eq_true h
theorem inB_f {x lo hi : Int} (h : inB x lo hi = false) : ¬ (lo ≤ x ∧ x ≤ hi) := of_decide_eq_false h
theorem isDay_any (d : Int) (w : World) : Calls Tryd.prog 101 #[.int .i64 d] w fun e w' => e = .returned (.bool (inB d 0 40000)) ∧ w' = w := by
  go_enter Tryd.func101, Tryd.ntmps101
  go_wp2
  all_goals go_ret
  all_goals exact ⟨ret_bool (by unfold inB; rw [Bool.eq_iff_iff]; simp; try omega), rfl⟩
def plB (x n : Int) : Bool := decide (0 ≤ x ∧ x < n)
theorem isPlace_any (x n : Int) (w : World) : Calls Tryd.prog 59 #[.int .i64 x, .int .i64 n] w fun e w' => e = .returned (.bool (plB x n)) ∧ w' = w := by
  go_enter Tryd.func59, Tryd.ntmps59
  go_wp2
  all_goals go_ret
  all_goals exact ⟨ret_bool (by unfold plB; rw [Bool.eq_iff_iff]; simp; try omega), rfl⟩
theorem l1In_any (x lo hi : Int) (w : World) : Calls Tryd.prog 51 #[.int .i64 x, .int .i64 lo, .int .i64 hi] w fun e w' => e = .returned (.bool (inB x lo hi)) ∧ w' = w := by
  go_enter Tryd.func51, Tryd.ntmps51
  go_wp2
  all_goals go_ret
  all_goals exact ⟨ret_bool (by unfold inB; rw [Bool.eq_iff_iff]; simp; try omega), rfl⟩
theorem l2Day_any (d : Int) (w : World) : Calls Tryd.prog 53 #[.int .i64 d] w fun e w' => e = .returned (.bool (inB d 0 40000)) ∧ w' = w := by
  go_enter Tryd.func53, Tryd.ntmps53
  go_wp2_with (go_at_call 51; refine (l1In_any _ _ _ _).mono ?_; rintro e w' ⟨rfl, rfl⟩)
  all_goals go_ret
  all_goals exact ⟨rfl, rfl⟩
theorem sRight_any (r : S2) (v : Bool) (w : World) (hs : r.pre.size ≤ maxLen) (hv : sOkB r = v) : Calls Tryd.prog 123 #[r.val] w fun e w' => e = .returned (.bool v) ∧ Below w.heap.size w w' := by
  subst hv
  obtain ⟨s, wd⟩ := r
  have HS : Hid (s.size ≤ maxLen) := hs
  clear hs
  unfold S2.val
  cases hn : nameB s
  · have HV : Hid (false = sOkB ⟨s, wd⟩) := hid (by simp [sOkB, hn])
    go_enter Tryd.func123, Tryd.ntmps123
    go_wp2_with (go_at_call 137; refine (implName_any _ _ HS.out).mono ?_; rintro e w1 ⟨rfl, rfl⟩)
    go_returns
    exact ⟨ret_bool HV.out, by go_grown⟩
  by_cases h1 : 1 ≤ wd
  · by_cases h2 : wd ≤ 8
    · have HV : Hid (true = sOkB ⟨s, wd⟩) := hid (by simp [sOkB, hn, h1, h2])
      go_enter Tryd.func123, Tryd.ntmps123
      go_wp2_with (go_at_call 137; refine (implName_any _ _ HS.out).mono ?_; rintro e w1 ⟨rfl, rfl⟩)
      go_returns
      exact ⟨ret_bool HV.out, by go_grown⟩
    · have HV : Hid (false = sOkB ⟨s, wd⟩) := hid (by simp [sOkB, hn]; omega)
      have h3 : 8 < wd := by omega
      go_enter Tryd.func123, Tryd.ntmps123
      go_wp2_with (go_at_call 137; refine (implName_any _ _ HS.out).mono ?_; rintro e w1 ⟨rfl, rfl⟩)
      go_returns
      exact ⟨ret_bool (by rw [← HV.out]; exact decide_eq_false (by omega)), by go_grown⟩
  · have HV : Hid (false = sOkB ⟨s, wd⟩) := hid (by simp [sOkB, hn]; omega)
    have h3 : wd < 1 := by omega
    go_enter Tryd.func123, Tryd.ntmps123
    go_wp2_with (go_at_call 137; refine (implName_any _ _ HS.out).mono ?_; rintro e w1 ⟨rfl, rfl⟩)
    go_returns
    exact ⟨ret_bool HV.out, by go_grown⟩
theorem lists_t {s t : ByteArray} (h : s = t) : (s.toList == t.toList) = true := by subst h; simp
theorem lists_f {s t : ByteArray} (h : s ≠ t) : (s.toList == t.toList) = false := by
  rw [Bool.eq_false_iff]
  intro g
  simp only [beq_iff_eq, ByteArray.toList_eq] at g
  exact h (by cases s; cases t; simp_all)

open Classical in
/-- Two series have one name. -/
noncomputable def naB (r o : S2) : Bool := decide (r.pre = o.pre)
open Classical in
theorem naB_t {r o : S2} (h : naB r o = true) : r.pre = o.pre := by unfold naB at h; exact of_decide_eq_true h
open Classical in
theorem naB_f {r o : S2} (h : naB r o = false) : ¬ r.pre = o.pre := by unfold naB at h; exact of_decide_eq_false h
theorem named_eq (r o : S2) (v : Bool) (w : World) (h : naB r o = v) : Calls Tryd.prog 125 #[r.val, o.val] w fun e w' => e = .returned (.bool v) ∧ Below w.heap.size w w' := by
  subst h
  obtain ⟨s, wd⟩ := r
  obtain ⟨t, wt⟩ := o
  unfold S2.val
  by_cases h : s = t
  · subst h
    have HV : Hid (true = naB ⟨s, wd⟩ ⟨s, wt⟩) := hid (by unfold naB; simp)
    go_enter Tryd.func125, Tryd.ntmps125
    go_wp2
    go_returns
    exact ⟨ret_bool (by simpa using HV.out), by go_grown⟩
  · have HV : Hid (false = naB ⟨s, wd⟩ ⟨t, wt⟩) := hid (by unfold naB; simp [h])
    go_enter Tryd.func125, Tryd.ntmps125
    go_wp2
    go_returns
    exact ⟨ret_bool (by rw [← HV.out]; first | exact lists_f h | simpa using lists_f h), by go_grown⟩

/-- The lowest place from s on, of f places, at which p holds; -1 if there is none. -/
def fstF (p : Nat → Bool) : Nat → Nat → Int
  | 0, _ => -1
  | f + 1, s => if p s = true then (s : Int) else fstF p f (s + 1)
theorem fstF_hit {p : Nat → Bool} {len k : Nat} (hk : k < len) (h : p k = true) : fstF p (len - k) k = (k : Int) := by
  obtain ⟨f, hf⟩ : ∃ f, len - k = f + 1 := ⟨len - k - 1, by omega⟩
  rw [hf]; exact if_pos h
theorem fstF_miss {p : Nat → Bool} {len k : Nat} (hk : k < len) (h : p k = false) : fstF p (len - k) k = fstF p (len - (k + 1)) (k + 1) := by
  obtain ⟨f, hf⟩ : ∃ f, len - k = f + 1 := ⟨len - k - 1, by omega⟩
  rw [hf, show len - (k + 1) = f by omega]; exact if_neg (by rw [h]; decide)
theorem fstF_end {p : Nat → Bool} {k : Nat} : fstF p (k - k) k = -1 := by rw [Nat.sub_self]; rfl
theorem fstF_spec (p : Nat → Bool) : ∀ f s, (fstF p f s = -1 ∧ ∀ j, s ≤ j → j < s + f → p j = false) ∨ ∃ k : Nat, fstF p f s = (k : Int) ∧ s ≤ k ∧ k < s + f ∧ p k = true ∧ ∀ j, s ≤ j → j < k → p j = false
  | 0, s => .inl ⟨rfl, fun j h1 h2 => by omega⟩
  | f + 1, s => by
    cases h : p s
    · have e : fstF p (f + 1) s = fstF p f (s + 1) := if_neg (by rw [h]; decide)
      rcases fstF_spec p f (s + 1) with ⟨h1, h2⟩ | ⟨k, h1, h2, h3, h4, h5⟩
      · refine .inl ⟨e.trans h1, fun j g1 g2 => ?_⟩
        by_cases q : j = s
        · subst q; exact h
        · exact h2 j (by omega) (by omega)
      · refine .inr ⟨k, e.trans h1, by omega, by omega, h4, fun j g1 g2 => ?_⟩
        by_cases q : j = s
        · subst q; exact h
        · exact h5 j (by omega) g2
    · exact .inr ⟨s, if_pos h, by omega, by omega, h, fun j g1 g2 => by omega⟩


theorem ret_i {a b : Int} (h : a = b) : Ending.returned (.int .i64 a) = .returned (.int .i64 b) := by rw [h]
set_option maxRecDepth 20000 in
set_option maxHeartbeats 2000000 in
theorem idxNamed_any (r : S2) (ad : Option Addr) (len cap : Nat) (c : Nat → S2) (w : World) (h : (len : Int) ≤ 1048576) (hr : SRw w ad len c) :
    Calls Tryd.prog 138 #[.slice ad len cap, .func (Fn.func 125) #[r.val] #[]] w fun e w' => e = .returned (.int .i64 (fstF (fun j => naB r (c j)) len 0)) ∧ Below w.heap.size w w' := by
  have HR : Hid (SRw w ad len c) := hr
  clear hr
  obtain ⟨s, wd⟩ := r
  unfold S2.val
  go_enter Tryd.func138, Tryd.ntmps138
  go_wp2
  go_loopw [8] (fun i wr => ∃ k : Nat, k ≤ len ∧ i = .int .i64 (k : Int) ∧ Hid (fstF (fun j => naB ⟨s, wd⟩ (c j)) (len - k) k = fstF (fun j => naB ⟨s, wd⟩ (c j)) len 0) ∧ Hid (Below w.heap.size w wr)) (fun i _ => len - (intOf i).toNat)
  case atStart => exact ⟨0, Nat.zero_le _, rfl, rfl, Below.refl _ _⟩
  case round =>
    obtain ⟨k, hk, rfl, hP, HB⟩ := hrel
    by_cases hlt : k < len
    · have hlt2 : (k : Int) < (len : Int) := by omega
      obtain ⟨kb, off, rfl, _⟩ := HR.out.addr (by omega)
      obtain ⟨c0, c1⟩ := (HR.out.below HB.out).cell hlt
      cases g : naB ⟨s, wd⟩ (c k)
      · have HF : Hid (fstF (fun j => naB ⟨s, wd⟩ (c j)) (len - (k + 1)) (k + 1) = fstF (fun j => naB ⟨s, wd⟩ (c j)) len 0) := hid (by rw [← hP.out]; exact (fstF_miss hlt g).symm)
        have HG : Hid (naB ⟨s, wd⟩ (c k) = false) := g
        clear g
        go_wp2_with (go_at_call 125; refine (named_eq ⟨s, wd⟩ (c k) _ _ HG.out).mono ?_; rintro e w1 ⟨rfl, b1⟩; have HB1 : Hid (Below w.heap.size w w1) := bel_on HB.out b1; clear b1)
        go_roundw
        case rel => exact ⟨k + 1, by omega, by go_num, HF, HB1⟩
        case measure => simp [intOf]; omega
      · have HF : Hid (fstF (fun j => naB ⟨s, wd⟩ (c j)) len 0 = (k : Int)) := hid (by rw [← hP.out]; exact fstF_hit hlt g)
        have HG : Hid (naB ⟨s, wd⟩ (c k) = true) := g
        clear g
        go_wp2_with (go_at_call 125; refine (named_eq ⟨s, wd⟩ (c k) _ _ HG.out).mono ?_; rintro e w1 ⟨rfl, b1⟩; have HB1 : Hid (Below w.heap.size w w1) := bel_on HB.out b1; clear b1)
        go_returns
        exact ⟨ret_i HF.out.symm, HB1.out⟩
    · obtain rfl : k = len := by omega
      have lkk : ¬ (k : Int) < (k : Int) := by omega
      have HF : Hid (fstF (fun j => naB ⟨s, wd⟩ (c j)) k 0 = -1) := hid (by rw [← hP.out]; exact fstF_end)
      go_wp2
      go_returns
      exact ⟨ret_i HF.out.symm, HB.out⟩

theorem anyNamed (r : S2) (ad : Option Addr) (len cap : Nat) (c : Nat → S2) (v : Bool) (w : World) (h : (len : Int) ≤ 1048576) (hr : SRw w ad len c) (hv : decide (0 ≤ fstF (fun j => naB r (c j)) len 0) = v) :
    Calls Tryd.prog 124 #[.slice ad len cap, .func (Fn.func 125) #[r.val] #[]] w fun e w' => e = .returned (.bool v) ∧ Below w.heap.size w w' := by
  have HC := idxNamed_any r ad len cap c w h hr
  obtain ⟨x, hx⟩ : ∃ x, fstF (fun j => naB r (c j)) len 0 = x := ⟨_, rfl⟩
  rw [hx] at HC hv
  have HC2 : Hid (Calls Tryd.prog 138 #[.slice ad len cap, .func (Fn.func 125) #[r.val] #[]] w fun e w' => e = .returned (.int .i64 x) ∧ Below w.heap.size w w') := HC
  obtain ⟨fv, hf⟩ : ∃ f, Value.func (Fn.func 125) #[r.val] #[] = f := ⟨_, rfl⟩
  rw [hf] at HC2 ⊢
  clear HC hr hx hf
  subst hv
  go_enter Tryd.func124, Tryd.ntmps124
  go_wp2_with (go_at_call 138; refine HC2.out.mono ?_; rintro e w1 ⟨rfl, b1⟩)
  all_goals go_returns
  all_goals exact ⟨rfl, b1⟩
theorem noNamed {r : S2} {c : Nat → S2} {k : Nat} : decide (0 ≤ fstF (fun j => naB r (c j)) k 0) = false → ∀ j, j < k → naB r (c j) = false := fun h j hj => by
  have h' := of_decide_eq_false h
  rcases fstF_spec (fun j => naB r (c j)) k 0 with ⟨h1, h2⟩ | ⟨i, h1, _⟩
  · exact h2 j (by omega) (by omega)
  · rw [h1] at h'; omega
theorem oneNamed {r : S2} {c : Nat → S2} {k : Nat} : decide (0 ≤ fstF (fun j => naB r (c j)) k 0) = true → ∃ j, j < k ∧ naB r (c j) = true := fun h => by
  have h' := of_decide_eq_true h
  rcases fstF_spec (fun j => naB r (c j)) k 0 with ⟨h1, h2⟩ | ⟨i, h1, _, h2, h3, _⟩
  · rw [h1] at h'; omega
  · exact ⟨i, by omega, h3⟩
theorem sgood_step {c : Nat → S2} {k : Nat} (h : ∀ j, j < k → sGood c j) (g : sGood c k) : ∀ j, j < k + 1 → sGood c j := fun j hj => by
  by_cases e : j = k
  · subst e; exact g
  · exact h j (by omega)

set_option maxRecDepth 20000 in
set_option maxHeartbeats 8000000 in
theorem areSeries_any (ad : Option Addr) (len cap : Nat) (c : Nat → S2) (v : Bool) (w : World) (h : (len : Int) ≤ 1048576) (hcap : len ≤ cap) (hs : ∀ j, (c j).pre.size ≤ maxLen) (hr : SRw w ad len c) (hv0 : serB len c = v) :
    Calls Tryd.prog 99 #[.slice ad len cap] w fun e w' => e = .returned (.bool v) ∧ Below w.heap.size w w' := by
  subst hv0
  have HR : Hid (SRw w ad len c) := hr
  have HS : Hid (∀ j, (c j).pre.size ≤ maxLen) := hs
  clear hr hs
  by_cases h60 : (20 : Int) < (len : Int)
  · have HV : Hid (serB len c = false) := serB_f fun H => by have := H.1; omega
    go_enter Tryd.func99, Tryd.ntmps99
    go_wp2
    go_returns
    exact ⟨ret_bool HV.out.symm, Below.refl _ _⟩
  have h6 : (len : Int) ≤ 20 := by omega
  clear h60
  go_enter Tryd.func99, Tryd.ntmps99
  go_wp2
  go_loopw [10] (fun i wr => ∃ (k : Nat), k ≤ len ∧ i = .int .i64 (k : Int) ∧ Hid ((∀ j, j < k → sGood c j) ∧ Below w.heap.size w wr)) (fun i _ => len - (intOf i).toNat)
  case atStart => exact ⟨0, Nat.zero_le _, rfl, fun j hj => by omega, Below.refl _ _⟩
  case round =>
    obtain ⟨k, hk, rfl, HH⟩ := hrel
    obtain ⟨wo, rfl⟩ : ∃ x, x = wr := ⟨wr, rfl⟩
    by_cases hlt : k < len
    · have hlt2 : (k : Int) < (len : Int) := by omega
      have hkc : (k : Int) ≤ (cap : Int) := by omega
      have hk6 : (k : Int) ≤ 1048576 := by omega
      obtain ⟨kb, off, rfl, hkb⟩ := HR.out.addr (by omega)
      obtain ⟨c0, c1⟩ := (HR.out.below HH.out.2).cell hlt
      obtain ⟨r, hr⟩ : ∃ r, c k = r := ⟨_, rfl⟩
      have HX : Hid (c k = r) := hr
      have HZ : Hid (r.pre.size ≤ maxLen) := by have := HS.out k; rw [hr] at this; exact this
      rw [hr] at c0 c1
      obtain ⟨s, wd⟩ := r
      simp only at c0 c1
      clear hr
      cases hv : sOkB ⟨s, wd⟩
      · have HV : Hid (sOkB ⟨s, wd⟩ = false) := hv
        have HF : Hid (serB len c = false) := hid (serB_bad hlt fun G => by have := G.1; rw [HX.out, hv] at this; cases this)
        clear hv
        go_wp2
        have hB0 : Below w.heap.size w (wo.alloc (.cells #[.string s, .int .i64 wd] 75 (0, 0))) := bel_on HH.out.2 (by go_grown)
        have hB1 : Below w.heap.size w (wo.alloc (.cells #[.string s, .int .i64 wd] 75 (0, 0))).drew := hB0.drew
        refine wp_region_noPanic ?_
        refine wp_region_held_drew (S := fun w' => w'.cell? ⟨wo.heap.size, 0, none⟩ = some (.string s) ∧ w'.cell? ⟨wo.heap.size, 1, none⟩ = some (.int .i64 wd) ∧ Below w.heap.size w w') (by kernel_rfl) ?_ (fun hHeld => ?_)
        · (try dsimp only); refine ⟨?_, ?_, ?_⟩ <;> first | assumption | (simp [*, World.cell?_alloc_some]; done)
        refine wpAnyH_take (i := 0) (oi := { dst := some 15, op := Go.Op.load 75 (Go.Operand.tmp 4), type := 75, pos := "l11_papers.go:94", after := #[], guard := none }) (v := ?_) rfl (by kernel_rfl) (by kernel_rfl) (by kernel_rfl) (fun _ _ _ h => h) (Or.inl ⟨by rfl, ?_⟩) (by assumption) ?_
        rotate_left
        · (intro w hSw; (try dsimp only at hSw); go_simp <;> try with_reducible rfl)
        try simp only [Act.put, List.setIfInBounds_toArray, List.set_cons_zero, List.set_cons_succ]
        refine wpAnyH_ready (rs := [1]) (by kernel_rfl) (by simp) ?_
        refine AllReadyH.cons (o := { dst := some 16, op := Go.Op.call { callee := Go.Callee.value (Go.Operand.func 123), args := #[Go.Operand.tmp 15], argTypes := #[75] }, type := 4, pos := "l11_papers.go:94", after := #[{ on := 0, ground := Go.Ground.data }], guard := none }) rfl (fun K hK => ?_) AllReadyH.nil
        go_simp
        (go_at_call 123; refine (sRight_any ⟨s, wd⟩ _ _ HZ.out HV.out).mono ?_; rintro e w2 ⟨rfl, b2⟩; have q1_0 : w2.cell? ⟨wo.heap.size, 0, none⟩ = some (.string s) := keep_cell b2 (by simp [*]); have q1_1 : w2.cell? ⟨wo.heap.size, 1, none⟩ = some (.int .i64 wd) := keep_cell b2 (by simp [*]); have p1 : Below w.heap.size w w2 := bel_on (by assumption) b2; clear b2)
        first | refine hK.out _ _ ?_ (fun hHeld => ?_) | (go_wp2_with fail; refine hK.out _ _ ?_ (fun hHeld => ?_))
        · (try dsimp only); refine ⟨?_, ?_, ?_⟩ <;> first | assumption | (simp [*, World.cell?_alloc_some]; done)
        clear hK K
        try simp only [Act.put, List.setIfInBounds_toArray, List.set_cons_zero, List.set_cons_succ]
        refine wpAnyH_take (i := 2) (oi := { dst := some 17, op := Go.Op.unOp Go.UnOp.not 4 (Go.Operand.tmp 16), type := 4, pos := "l11_papers.go:94", after := #[{ on := 1, ground := Go.Ground.data }], guard := none }) (v := ?_) rfl (by kernel_rfl) (by kernel_rfl) (by kernel_rfl) (fun _ _ _ h => h) (Or.inl ⟨by rfl, ?_⟩) (by assumption) ?_
        rotate_left
        · (intro w hSw; (try dsimp only at hSw); go_simp <;> try with_reducible rfl)
        try simp only [Act.put, List.setIfInBounds_toArray, List.set_cons_zero, List.set_cons_succ]
        refine wpAnyH_take (i := 3) (oi := { dst := some 18, op := Go.Op.move (Go.Operand.tmp 17), type := 4, pos := "l11_papers.go:94", after := #[{ on := 2, ground := Go.Ground.data }, { on := 1, ground := Go.Ground.chain }], guard := none }) (v := ?_) rfl (by kernel_rfl) (by kernel_rfl) (by kernel_rfl) (fun _ _ _ h => h) (Or.inl ⟨by rfl, ?_⟩) (by assumption) ?_
        rotate_left
        · (intro w hSw; (try dsimp only at hSw); go_simp <;> try with_reducible rfl)
        try simp only [Act.put, List.setIfInBounds_toArray, List.set_cons_zero, List.set_cons_succ]
        refine wpAnyH_take (i := 4) (oi := { dst := some 19, op := Go.Op.move (Go.Operand.tmp 0), type := 24, pos := "l11_papers.go:94", after := #[{ on := 3, ground := Go.Ground.guard }], guard := some (3, false) }) (v := undef) rfl (by kernel_rfl) (by kernel_rfl) (by kernel_rfl) (fun _ _ _ h => h) (Or.inr ⟨by rfl, rfl⟩) (by assumption) ?_
        try simp only [Act.put, List.setIfInBounds_toArray, List.set_cons_zero, List.set_cons_succ]
        refine wpAnyH_take (i := 5) (oi := { dst := some 20, op := Go.Op.move (Go.Operand.tmp 3), type := 3, pos := "l11_papers.go:94", after := #[{ on := 3, ground := Go.Ground.guard }], guard := some (3, false) }) (v := undef) rfl (by kernel_rfl) (by kernel_rfl) (by kernel_rfl) (fun _ _ _ h => h) (Or.inr ⟨by rfl, rfl⟩) (by assumption) ?_
        try simp only [Act.put, List.setIfInBounds_toArray, List.set_cons_zero, List.set_cons_succ]
        refine wpAnyH_take (i := 6) (oi := { dst := some 21, op := Go.Op.slice 24 (Go.Operand.tmp 19) none (some (Go.Operand.tmp 20)) none, type := 24, pos := "l11_papers.go:94", after := #[{ on := 4, ground := Go.Ground.data }, { on := 5, ground := Go.Ground.data }, { on := 3, ground := Go.Ground.guard }], guard := some (3, false) }) (v := undef) rfl (by kernel_rfl) (by kernel_rfl) (by kernel_rfl) (fun _ _ _ h => h) (Or.inr ⟨by rfl, rfl⟩) (by assumption) ?_
        try simp only [Act.put, List.setIfInBounds_toArray, List.set_cons_zero, List.set_cons_succ]
        refine wpAnyH_take (i := 7) (oi := { dst := some 22, op := Go.Op.load 75 (Go.Operand.tmp 4), type := 75, pos := "l11_papers.go:94", after := #[{ on := 3, ground := Go.Ground.guard }], guard := some (3, false) }) (v := undef) rfl (by kernel_rfl) (by kernel_rfl) (by kernel_rfl) (fun _ _ _ h => h) (Or.inr ⟨by rfl, rfl⟩) (by assumption) ?_
        try simp only [Act.put, List.setIfInBounds_toArray, List.set_cons_zero, List.set_cons_succ]
        refine wpAnyH_take (i := 8) (oi := { dst := some 23, op := Go.Op.makeFunc (Go.Fn.func 125) #[Go.Operand.tmp 22] #[], type := 156, pos := "l11_papers.go:94", after := #[{ on := 7, ground := Go.Ground.data }, { on := 3, ground := Go.Ground.guard }], guard := some (3, false) }) (v := undef) rfl (by kernel_rfl) (by kernel_rfl) (by kernel_rfl) (fun _ _ _ h => h) (Or.inr ⟨by rfl, rfl⟩) (by assumption) ?_
        try simp only [Act.put, List.setIfInBounds_toArray, List.set_cons_zero, List.set_cons_succ]
        refine wpAnyH_take (i := 9) (oi := { dst := some 24, op := Go.Op.call { callee := Go.Callee.value (Go.Operand.func 124), args := #[Go.Operand.tmp 21, Go.Operand.tmp 23], argTypes := #[24, 156] }, type := 4, pos := "l11_papers.go:94", after := #[{ on := 6, ground := Go.Ground.data }, { on := 8, ground := Go.Ground.data }, { on := 3, ground := Go.Ground.chain }, { on := 3, ground := Go.Ground.guard }], guard := some (3, false) }) (v := undef) rfl (by kernel_rfl) (by kernel_rfl) (by kernel_rfl) (fun _ _ _ h => h) (Or.inr ⟨by rfl, rfl⟩) (by assumption) ?_
        try simp only [Act.put, List.setIfInBounds_toArray, List.set_cons_zero, List.set_cons_succ]
        refine wpAnyH_take (i := 10) (oi := { dst := some 25, op := Go.Op.pick (Go.Operand.tmp 18) (Go.Operand.const (Go.Value.bool true)) (Go.Operand.tmp 24), type := 4, pos := "l11_papers.go:94", after := #[{ on := 3, ground := Go.Ground.data }, { on := 9, ground := Go.Ground.data }], guard := none }) (v := ?_) rfl (by kernel_rfl) (by kernel_rfl) (by kernel_rfl) (fun _ _ _ h => h) (Or.inl ⟨by rfl, ?_⟩) (by assumption) ?_
        rotate_left
        · (intro w hSw; (try dsimp only at hSw); go_simp <;> try with_reducible rfl)
        try simp only [Act.put, List.setIfInBounds_toArray, List.set_cons_zero, List.set_cons_succ]
        refine wpAnyH_done (by kernel_rfl) ?_ _
        refine NoPanic.normal ?_
        go_wp2
        go_returns
        exact ⟨ret_bool HF.out.symm, p1⟩
      · have HV : Hid (sOkB ⟨s, wd⟩ = true) := hv
        clear hv
        cases ha : decide (0 ≤ fstF (fun j => naB ⟨s, wd⟩ (c j)) k 0)
        · have HA : Hid (decide (0 ≤ fstF (fun j => naB ⟨s, wd⟩ (c j)) k 0) = false) := ha
          have HG : Hid (∀ j, j < k + 1 → sGood c j) := sgood_step HH.out.1 ⟨by rw [HX.out]; exact HV.out, fun i hi e => by rw [HX.out] at e; exact naB_f (noNamed ha i hi) e.symm⟩
          clear ha
          go_wp2
          have hB0 : Below w.heap.size w (wo.alloc (.cells #[.string s, .int .i64 wd] 75 (0, 0))) := bel_on HH.out.2 (by go_grown)
          have hB1 : Below w.heap.size w (wo.alloc (.cells #[.string s, .int .i64 wd] 75 (0, 0))).drew := hB0.drew
          refine wp_region_noPanic ?_
          refine wp_region_held_drew (S := fun w' => w'.cell? ⟨wo.heap.size, 0, none⟩ = some (.string s) ∧ w'.cell? ⟨wo.heap.size, 1, none⟩ = some (.int .i64 wd) ∧ Below w.heap.size w w') (by kernel_rfl) ?_ (fun hHeld => ?_)
          · (try dsimp only); refine ⟨?_, ?_, ?_⟩ <;> first | assumption | (simp [*, World.cell?_alloc_some]; done)
          refine wpAnyH_take (i := 0) (oi := { dst := some 15, op := Go.Op.load 75 (Go.Operand.tmp 4), type := 75, pos := "l11_papers.go:94", after := #[], guard := none }) (v := ?_) rfl (by kernel_rfl) (by kernel_rfl) (by kernel_rfl) (fun _ _ _ h => h) (Or.inl ⟨by rfl, ?_⟩) (by assumption) ?_
          rotate_left
          · (intro w hSw; (try dsimp only at hSw); go_simp <;> try with_reducible rfl)
          try simp only [Act.put, List.setIfInBounds_toArray, List.set_cons_zero, List.set_cons_succ]
          refine wpAnyH_ready (rs := [1]) (by kernel_rfl) (by simp) ?_
          refine AllReadyH.cons (o := { dst := some 16, op := Go.Op.call { callee := Go.Callee.value (Go.Operand.func 123), args := #[Go.Operand.tmp 15], argTypes := #[75] }, type := 4, pos := "l11_papers.go:94", after := #[{ on := 0, ground := Go.Ground.data }], guard := none }) rfl (fun K hK => ?_) AllReadyH.nil
          go_simp
          (go_at_call 123; refine (sRight_any ⟨s, wd⟩ _ _ HZ.out HV.out).mono ?_; rintro e w2 ⟨rfl, b2⟩; have q1_0 : w2.cell? ⟨wo.heap.size, 0, none⟩ = some (.string s) := keep_cell b2 (by simp [*]); have q1_1 : w2.cell? ⟨wo.heap.size, 1, none⟩ = some (.int .i64 wd) := keep_cell b2 (by simp [*]); have p1 : Below w.heap.size w w2 := bel_on (by assumption) b2; clear b2)
          first | refine hK.out _ _ ?_ (fun hHeld => ?_) | (go_wp2_with fail; refine hK.out _ _ ?_ (fun hHeld => ?_))
          · (try dsimp only); refine ⟨?_, ?_, ?_⟩ <;> first | assumption | (simp [*, World.cell?_alloc_some]; done)
          clear hK K
          try simp only [Act.put, List.setIfInBounds_toArray, List.set_cons_zero, List.set_cons_succ]
          refine wpAnyH_take (i := 2) (oi := { dst := some 17, op := Go.Op.unOp Go.UnOp.not 4 (Go.Operand.tmp 16), type := 4, pos := "l11_papers.go:94", after := #[{ on := 1, ground := Go.Ground.data }], guard := none }) (v := ?_) rfl (by kernel_rfl) (by kernel_rfl) (by kernel_rfl) (fun _ _ _ h => h) (Or.inl ⟨by rfl, ?_⟩) (by assumption) ?_
          rotate_left
          · (intro w hSw; (try dsimp only at hSw); go_simp <;> try with_reducible rfl)
          try simp only [Act.put, List.setIfInBounds_toArray, List.set_cons_zero, List.set_cons_succ]
          refine wpAnyH_take (i := 3) (oi := { dst := some 18, op := Go.Op.move (Go.Operand.tmp 17), type := 4, pos := "l11_papers.go:94", after := #[{ on := 2, ground := Go.Ground.data }, { on := 1, ground := Go.Ground.chain }], guard := none }) (v := ?_) rfl (by kernel_rfl) (by kernel_rfl) (by kernel_rfl) (fun _ _ _ h => h) (Or.inl ⟨by rfl, ?_⟩) (by assumption) ?_
          rotate_left
          · (intro w hSw; (try dsimp only at hSw); go_simp <;> try with_reducible rfl)
          try simp only [Act.put, List.setIfInBounds_toArray, List.set_cons_zero, List.set_cons_succ]
          refine wpAnyH_take (i := 4) (oi := { dst := some 19, op := Go.Op.move (Go.Operand.tmp 0), type := 24, pos := "l11_papers.go:94", after := #[{ on := 3, ground := Go.Ground.guard }], guard := some (3, false) }) (v := ?_) rfl (by kernel_rfl) (by kernel_rfl) (by kernel_rfl) (fun _ _ _ h => h) (Or.inl ⟨by rfl, ?_⟩) (by assumption) ?_
          rotate_left
          · (intro w hSw; (try dsimp only at hSw); go_simp <;> try with_reducible rfl)
          try simp only [Act.put, List.setIfInBounds_toArray, List.set_cons_zero, List.set_cons_succ]
          refine wpAnyH_take (i := 5) (oi := { dst := some 20, op := Go.Op.move (Go.Operand.tmp 3), type := 3, pos := "l11_papers.go:94", after := #[{ on := 3, ground := Go.Ground.guard }], guard := some (3, false) }) (v := ?_) rfl (by kernel_rfl) (by kernel_rfl) (by kernel_rfl) (fun _ _ _ h => h) (Or.inl ⟨by rfl, ?_⟩) (by assumption) ?_
          rotate_left
          · (intro w hSw; (try dsimp only at hSw); go_simp <;> try with_reducible rfl)
          try simp only [Act.put, List.setIfInBounds_toArray, List.set_cons_zero, List.set_cons_succ]
          refine wpAnyH_take (i := 6) (oi := { dst := some 21, op := Go.Op.slice 24 (Go.Operand.tmp 19) none (some (Go.Operand.tmp 20)) none, type := 24, pos := "l11_papers.go:94", after := #[{ on := 4, ground := Go.Ground.data }, { on := 5, ground := Go.Ground.data }, { on := 3, ground := Go.Ground.guard }], guard := some (3, false) }) (v := ?_) rfl (by kernel_rfl) (by kernel_rfl) (by kernel_rfl) (fun _ _ _ h => h) (Or.inl ⟨by rfl, ?_⟩) (by assumption) ?_
          rotate_left
          · (intro w hSw; (try dsimp only at hSw); go_simp <;> try with_reducible rfl)
          try simp only [Act.put, List.setIfInBounds_toArray, List.set_cons_zero, List.set_cons_succ]
          refine wpAnyH_take (i := 7) (oi := { dst := some 22, op := Go.Op.load 75 (Go.Operand.tmp 4), type := 75, pos := "l11_papers.go:94", after := #[{ on := 3, ground := Go.Ground.guard }], guard := some (3, false) }) (v := ?_) rfl (by kernel_rfl) (by kernel_rfl) (by kernel_rfl) (fun _ _ _ h => h) (Or.inl ⟨by rfl, ?_⟩) (by assumption) ?_
          rotate_left
          · (intro w hSw; (try dsimp only at hSw); go_simp <;> try with_reducible rfl)
          try simp only [Act.put, List.setIfInBounds_toArray, List.set_cons_zero, List.set_cons_succ]
          refine wpAnyH_take (i := 8) (oi := { dst := some 23, op := Go.Op.makeFunc (Go.Fn.func 125) #[Go.Operand.tmp 22] #[], type := 156, pos := "l11_papers.go:94", after := #[{ on := 7, ground := Go.Ground.data }, { on := 3, ground := Go.Ground.guard }], guard := some (3, false) }) (v := ?_) rfl (by kernel_rfl) (by kernel_rfl) (by kernel_rfl) (fun _ _ _ h => h) (Or.inl ⟨by rfl, ?_⟩) (by assumption) ?_
          rotate_left
          · (intro w hSw; (try dsimp only at hSw); go_simp <;> try with_reducible rfl)
          try simp only [Act.put, List.setIfInBounds_toArray, List.set_cons_zero, List.set_cons_succ]
          refine wpAnyH_ready (rs := [9]) (by kernel_rfl) (by simp) ?_
          refine AllReadyH.cons (o := { dst := some 24, op := Go.Op.call { callee := Go.Callee.value (Go.Operand.func 124), args := #[Go.Operand.tmp 21, Go.Operand.tmp 23], argTypes := #[24, 156] }, type := 4, pos := "l11_papers.go:94", after := #[{ on := 6, ground := Go.Ground.data }, { on := 8, ground := Go.Ground.data }, { on := 3, ground := Go.Ground.chain }, { on := 3, ground := Go.Ground.guard }], guard := some (3, false) }) rfl (fun K hK => ?_) AllReadyH.nil
          go_simp
          (go_at_call 124; refine (anyNamed ⟨s, wd⟩ _ _ _ c _ _ hk6 ((HR.out.mono hk).below (by assumption)) HA.out).mono ?_; rintro e w3 ⟨rfl, b3⟩; have q2_0 : w3.cell? ⟨wo.heap.size, 0, none⟩ = some (.string s) := keep_cell b3 (by simp [*]); have q2_1 : w3.cell? ⟨wo.heap.size, 1, none⟩ = some (.int .i64 wd) := keep_cell b3 (by simp [*]); have p2 : Below w.heap.size w w3 := bel_on (by assumption) b3; clear b3)
          first | refine hK.out _ _ ?_ (fun hHeld => ?_) | (go_wp2_with fail; refine hK.out _ _ ?_ (fun hHeld => ?_))
          · (try dsimp only); refine ⟨?_, ?_, ?_⟩ <;> first | assumption | (simp [*, World.cell?_alloc_some]; done)
          clear hK K
          try simp only [Act.put, List.setIfInBounds_toArray, List.set_cons_zero, List.set_cons_succ]
          refine wpAnyH_take (i := 10) (oi := { dst := some 25, op := Go.Op.pick (Go.Operand.tmp 18) (Go.Operand.const (Go.Value.bool true)) (Go.Operand.tmp 24), type := 4, pos := "l11_papers.go:94", after := #[{ on := 3, ground := Go.Ground.data }, { on := 9, ground := Go.Ground.data }], guard := none }) (v := ?_) rfl (by kernel_rfl) (by kernel_rfl) (by kernel_rfl) (fun _ _ _ h => h) (Or.inl ⟨by rfl, ?_⟩) (by assumption) ?_
          rotate_left
          · (intro w hSw; (try dsimp only at hSw); go_simp <;> try with_reducible rfl)
          try simp only [Act.put, List.setIfInBounds_toArray, List.set_cons_zero, List.set_cons_succ]
          refine wpAnyH_done (by kernel_rfl) ?_ _
          refine NoPanic.normal ?_
          go_wp2
          go_roundw
          case rel => exact ⟨k + 1, by omega, by go_num, HG.out, p2⟩
          case measure => simp [intOf]; omega
        · have HA : Hid (decide (0 ≤ fstF (fun j => naB ⟨s, wd⟩ (c j)) k 0) = true) := ha
          have HF : Hid (serB len c = false) := hid (by obtain ⟨j, h1, h2⟩ := oneNamed ha; exact serB_bad hlt fun G => G.2 j h1 (by rw [HX.out]; exact (naB_t h2).symm))
          clear ha
          go_wp2
          have hB0 : Below w.heap.size w (wo.alloc (.cells #[.string s, .int .i64 wd] 75 (0, 0))) := bel_on HH.out.2 (by go_grown)
          have hB1 : Below w.heap.size w (wo.alloc (.cells #[.string s, .int .i64 wd] 75 (0, 0))).drew := hB0.drew
          refine wp_region_noPanic ?_
          refine wp_region_held_drew (S := fun w' => w'.cell? ⟨wo.heap.size, 0, none⟩ = some (.string s) ∧ w'.cell? ⟨wo.heap.size, 1, none⟩ = some (.int .i64 wd) ∧ Below w.heap.size w w') (by kernel_rfl) ?_ (fun hHeld => ?_)
          · (try dsimp only); refine ⟨?_, ?_, ?_⟩ <;> first | assumption | (simp [*, World.cell?_alloc_some]; done)
          refine wpAnyH_take (i := 0) (oi := { dst := some 15, op := Go.Op.load 75 (Go.Operand.tmp 4), type := 75, pos := "l11_papers.go:94", after := #[], guard := none }) (v := ?_) rfl (by kernel_rfl) (by kernel_rfl) (by kernel_rfl) (fun _ _ _ h => h) (Or.inl ⟨by rfl, ?_⟩) (by assumption) ?_
          rotate_left
          · (intro w hSw; (try dsimp only at hSw); go_simp <;> try with_reducible rfl)
          try simp only [Act.put, List.setIfInBounds_toArray, List.set_cons_zero, List.set_cons_succ]
          refine wpAnyH_ready (rs := [1]) (by kernel_rfl) (by simp) ?_
          refine AllReadyH.cons (o := { dst := some 16, op := Go.Op.call { callee := Go.Callee.value (Go.Operand.func 123), args := #[Go.Operand.tmp 15], argTypes := #[75] }, type := 4, pos := "l11_papers.go:94", after := #[{ on := 0, ground := Go.Ground.data }], guard := none }) rfl (fun K hK => ?_) AllReadyH.nil
          go_simp
          (go_at_call 123; refine (sRight_any ⟨s, wd⟩ _ _ HZ.out HV.out).mono ?_; rintro e w2 ⟨rfl, b2⟩; have q1_0 : w2.cell? ⟨wo.heap.size, 0, none⟩ = some (.string s) := keep_cell b2 (by simp [*]); have q1_1 : w2.cell? ⟨wo.heap.size, 1, none⟩ = some (.int .i64 wd) := keep_cell b2 (by simp [*]); have p1 : Below w.heap.size w w2 := bel_on (by assumption) b2; clear b2)
          first | refine hK.out _ _ ?_ (fun hHeld => ?_) | (go_wp2_with fail; refine hK.out _ _ ?_ (fun hHeld => ?_))
          · (try dsimp only); refine ⟨?_, ?_, ?_⟩ <;> first | assumption | (simp [*, World.cell?_alloc_some]; done)
          clear hK K
          try simp only [Act.put, List.setIfInBounds_toArray, List.set_cons_zero, List.set_cons_succ]
          refine wpAnyH_take (i := 2) (oi := { dst := some 17, op := Go.Op.unOp Go.UnOp.not 4 (Go.Operand.tmp 16), type := 4, pos := "l11_papers.go:94", after := #[{ on := 1, ground := Go.Ground.data }], guard := none }) (v := ?_) rfl (by kernel_rfl) (by kernel_rfl) (by kernel_rfl) (fun _ _ _ h => h) (Or.inl ⟨by rfl, ?_⟩) (by assumption) ?_
          rotate_left
          · (intro w hSw; (try dsimp only at hSw); go_simp <;> try with_reducible rfl)
          try simp only [Act.put, List.setIfInBounds_toArray, List.set_cons_zero, List.set_cons_succ]
          refine wpAnyH_take (i := 3) (oi := { dst := some 18, op := Go.Op.move (Go.Operand.tmp 17), type := 4, pos := "l11_papers.go:94", after := #[{ on := 2, ground := Go.Ground.data }, { on := 1, ground := Go.Ground.chain }], guard := none }) (v := ?_) rfl (by kernel_rfl) (by kernel_rfl) (by kernel_rfl) (fun _ _ _ h => h) (Or.inl ⟨by rfl, ?_⟩) (by assumption) ?_
          rotate_left
          · (intro w hSw; (try dsimp only at hSw); go_simp <;> try with_reducible rfl)
          try simp only [Act.put, List.setIfInBounds_toArray, List.set_cons_zero, List.set_cons_succ]
          refine wpAnyH_take (i := 4) (oi := { dst := some 19, op := Go.Op.move (Go.Operand.tmp 0), type := 24, pos := "l11_papers.go:94", after := #[{ on := 3, ground := Go.Ground.guard }], guard := some (3, false) }) (v := ?_) rfl (by kernel_rfl) (by kernel_rfl) (by kernel_rfl) (fun _ _ _ h => h) (Or.inl ⟨by rfl, ?_⟩) (by assumption) ?_
          rotate_left
          · (intro w hSw; (try dsimp only at hSw); go_simp <;> try with_reducible rfl)
          try simp only [Act.put, List.setIfInBounds_toArray, List.set_cons_zero, List.set_cons_succ]
          refine wpAnyH_take (i := 5) (oi := { dst := some 20, op := Go.Op.move (Go.Operand.tmp 3), type := 3, pos := "l11_papers.go:94", after := #[{ on := 3, ground := Go.Ground.guard }], guard := some (3, false) }) (v := ?_) rfl (by kernel_rfl) (by kernel_rfl) (by kernel_rfl) (fun _ _ _ h => h) (Or.inl ⟨by rfl, ?_⟩) (by assumption) ?_
          rotate_left
          · (intro w hSw; (try dsimp only at hSw); go_simp <;> try with_reducible rfl)
          try simp only [Act.put, List.setIfInBounds_toArray, List.set_cons_zero, List.set_cons_succ]
          refine wpAnyH_take (i := 6) (oi := { dst := some 21, op := Go.Op.slice 24 (Go.Operand.tmp 19) none (some (Go.Operand.tmp 20)) none, type := 24, pos := "l11_papers.go:94", after := #[{ on := 4, ground := Go.Ground.data }, { on := 5, ground := Go.Ground.data }, { on := 3, ground := Go.Ground.guard }], guard := some (3, false) }) (v := ?_) rfl (by kernel_rfl) (by kernel_rfl) (by kernel_rfl) (fun _ _ _ h => h) (Or.inl ⟨by rfl, ?_⟩) (by assumption) ?_
          rotate_left
          · (intro w hSw; (try dsimp only at hSw); go_simp <;> try with_reducible rfl)
          try simp only [Act.put, List.setIfInBounds_toArray, List.set_cons_zero, List.set_cons_succ]
          refine wpAnyH_take (i := 7) (oi := { dst := some 22, op := Go.Op.load 75 (Go.Operand.tmp 4), type := 75, pos := "l11_papers.go:94", after := #[{ on := 3, ground := Go.Ground.guard }], guard := some (3, false) }) (v := ?_) rfl (by kernel_rfl) (by kernel_rfl) (by kernel_rfl) (fun _ _ _ h => h) (Or.inl ⟨by rfl, ?_⟩) (by assumption) ?_
          rotate_left
          · (intro w hSw; (try dsimp only at hSw); go_simp <;> try with_reducible rfl)
          try simp only [Act.put, List.setIfInBounds_toArray, List.set_cons_zero, List.set_cons_succ]
          refine wpAnyH_take (i := 8) (oi := { dst := some 23, op := Go.Op.makeFunc (Go.Fn.func 125) #[Go.Operand.tmp 22] #[], type := 156, pos := "l11_papers.go:94", after := #[{ on := 7, ground := Go.Ground.data }, { on := 3, ground := Go.Ground.guard }], guard := some (3, false) }) (v := ?_) rfl (by kernel_rfl) (by kernel_rfl) (by kernel_rfl) (fun _ _ _ h => h) (Or.inl ⟨by rfl, ?_⟩) (by assumption) ?_
          rotate_left
          · (intro w hSw; (try dsimp only at hSw); go_simp <;> try with_reducible rfl)
          try simp only [Act.put, List.setIfInBounds_toArray, List.set_cons_zero, List.set_cons_succ]
          refine wpAnyH_ready (rs := [9]) (by kernel_rfl) (by simp) ?_
          refine AllReadyH.cons (o := { dst := some 24, op := Go.Op.call { callee := Go.Callee.value (Go.Operand.func 124), args := #[Go.Operand.tmp 21, Go.Operand.tmp 23], argTypes := #[24, 156] }, type := 4, pos := "l11_papers.go:94", after := #[{ on := 6, ground := Go.Ground.data }, { on := 8, ground := Go.Ground.data }, { on := 3, ground := Go.Ground.chain }, { on := 3, ground := Go.Ground.guard }], guard := some (3, false) }) rfl (fun K hK => ?_) AllReadyH.nil
          go_simp
          (go_at_call 124; refine (anyNamed ⟨s, wd⟩ _ _ _ c _ _ hk6 ((HR.out.mono hk).below (by assumption)) HA.out).mono ?_; rintro e w3 ⟨rfl, b3⟩; have q2_0 : w3.cell? ⟨wo.heap.size, 0, none⟩ = some (.string s) := keep_cell b3 (by simp [*]); have q2_1 : w3.cell? ⟨wo.heap.size, 1, none⟩ = some (.int .i64 wd) := keep_cell b3 (by simp [*]); have p2 : Below w.heap.size w w3 := bel_on (by assumption) b3; clear b3)
          first | refine hK.out _ _ ?_ (fun hHeld => ?_) | (go_wp2_with fail; refine hK.out _ _ ?_ (fun hHeld => ?_))
          · (try dsimp only); refine ⟨?_, ?_, ?_⟩ <;> first | assumption | (simp [*, World.cell?_alloc_some]; done)
          clear hK K
          try simp only [Act.put, List.setIfInBounds_toArray, List.set_cons_zero, List.set_cons_succ]
          refine wpAnyH_take (i := 10) (oi := { dst := some 25, op := Go.Op.pick (Go.Operand.tmp 18) (Go.Operand.const (Go.Value.bool true)) (Go.Operand.tmp 24), type := 4, pos := "l11_papers.go:94", after := #[{ on := 3, ground := Go.Ground.data }, { on := 9, ground := Go.Ground.data }], guard := none }) (v := ?_) rfl (by kernel_rfl) (by kernel_rfl) (by kernel_rfl) (fun _ _ _ h => h) (Or.inl ⟨by rfl, ?_⟩) (by assumption) ?_
          rotate_left
          · (intro w hSw; (try dsimp only at hSw); go_simp <;> try with_reducible rfl)
          try simp only [Act.put, List.setIfInBounds_toArray, List.set_cons_zero, List.set_cons_succ]
          refine wpAnyH_done (by kernel_rfl) ?_ _
          refine NoPanic.normal ?_
          go_wp2
          go_returns
          exact ⟨ret_bool HF.out.symm, p2⟩
    · obtain rfl : k = len := by omega
      have lkk : ¬ (k : Int) < (k : Int) := by omega
      have HF : Hid (serB k c = true) := serB_t ⟨by omega, HH.out.1⟩
      go_wp2
      go_returns
      exact ⟨ret_bool HF.out.symm, HH.out.2⟩
end Go.Proofs.YtdhpadcihlmhiaaDoor
