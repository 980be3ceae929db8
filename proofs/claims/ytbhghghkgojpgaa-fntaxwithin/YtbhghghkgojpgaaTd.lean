/- TaxRulesOk of the program: it answers 'trB'. -/
import Derived.Test.YtbhghghkgojpgaaTc
namespace Go.Proofs.Ytbhghghkgojpgaa
open Go.ChangeShapes Go.WideShapes Go.ChangeAt Go.RowKit
set_option linter.unusedVariables false
set_option linter.unusedSimpArgs false

/-- The lowest place from s on, of f places, at which p holds; -1 if there is none. -/
def fstF (p : Nat → Bool) : Nat → Nat → Int
  | 0, _ => -1
  | f + 1, s => if p s = true then (s : Int) else fstF p f (s + 1)
theorem fstF_hit {p : Nat → Bool} {len k : Nat} (hk : k < len) (h : p k = true) : fstF p (len - k) k = (k : Int) := by
  obtain ⟨f, hf⟩ : ∃ f, len - k = f + 1 := ⟨len - k - 1, by omega⟩
  rw [hf]; exact if_pos h
theorem fstF_miss {p : Nat → Bool} {len k : Nat} (hk : k < len) (h : p k = false) : fstF p (len - k) k = fstF p (len - (k + 1)) (k + 1) := by
  obtain ⟨f, hf⟩ : ∃ f, len - k = f + 1 := ⟨len - k - 1, by omega⟩
  rw [hf, show len - (k + 1) = f by omega]; exact if_neg (by rw [h]; decide)
theorem fstF_end {p : Nat → Bool} {k : Nat} : fstF p (k - k) k = -1 := by rw [Nat.sub_self]; rfl
theorem fstF_spec (p : Nat → Bool) : ∀ f s, (fstF p f s = -1 ∧ ∀ j, s ≤ j → j < s + f → p j = false) ∨ ∃ k : Nat, fstF p f s = (k : Int) ∧ s ≤ k ∧ k < s + f ∧ p k = true ∧ ∀ j, s ≤ j → j < k → p j = false
  | 0, s => .inl ⟨rfl, fun j h1 h2 => by omega⟩
  | f + 1, s => by
    cases h : p s
    · have e : fstF p (f + 1) s = fstF p f (s + 1) := if_neg (by rw [h]; decide)
      rcases fstF_spec p f (s + 1) with ⟨h1, h2⟩ | ⟨k, h1, h2, h3, h4, h5⟩
      · refine .inl ⟨e.trans h1, fun j g1 g2 => ?_⟩
        by_cases q : j = s
        · subst q; exact h
        · exact h2 j (by omega) (by omega)
      · refine .inr ⟨k, e.trans h1, by omega, by omega, h4, fun j g1 g2 => ?_⟩
        by_cases q : j = s
        · subst q; exact h
        · exact h5 j (by omega) g2
    · exact .inr ⟨s, if_pos h, by omega, by omega, h, fun j g1 g2 => by omega⟩

theorem ret_i {a b : Int} (h : a = b) : Ending.returned (.int .i64 a) = .returned (.int .i64 b) := by rw [h]
theorem clashes_eq (r o : T5) (v : Bool) (w : World) (h : clB r o = v) : Calls Try.prog 64 #[r.val, o.val] w fun e w' => e = .returned (.bool v) ∧ Below w.heap.size w w' := by
  subst h; exact clashes_any r o w

set_option maxRecDepth 20000 in
set_option maxHeartbeats 2000000 in
theorem idxClash_any (r : T5) (ad : Option Addr) (len cap : Nat) (c : Nat → T5) (w : World) (h : (len : Int) ≤ 1048576) (hr : TR w ad len c) :
    Calls Try.prog 96 #[.slice ad len cap, .func (Fn.func 64) #[r.val] #[]] w fun e w' => e = .returned (.int .i64 (fstF (fun j => clB r (c j)) len 0)) ∧ Below w.heap.size w w' := by
  have HR : Hid (TR w ad len c) := hr
  clear hr
  obtain ⟨s, fr, to, ra, ki⟩ := r
  unfold T5.val
  go_enter Try.func96, Try.ntmps96
  go_wp2
  go_loopw [8] (fun i wr => ∃ k : Nat, k ≤ len ∧ i = .int .i64 (k : Int) ∧ Hid (fstF (fun j => clB ⟨s, fr, to, ra, ki⟩ (c j)) (len - k) k = fstF (fun j => clB ⟨s, fr, to, ra, ki⟩ (c j)) len 0) ∧ Hid (Below w.heap.size w wr)) (fun i _ => len - (intOf i).toNat)
  case atStart => exact ⟨0, Nat.zero_le _, rfl, rfl, Below.refl _ _⟩
  case round =>
    obtain ⟨k, hk, rfl, hP, HB⟩ := hrel
    by_cases hlt : k < len
    · have hlt2 : (k : Int) < (len : Int) := by omega
      obtain ⟨kb, off, rfl, _⟩ := HR.out.addr (by omega)
      obtain ⟨c0, c1, c2, c3, c4⟩ := (HR.out.below HB.out).cell hlt
      cases g : clB ⟨s, fr, to, ra, ki⟩ (c k)
      · have HF : Hid (fstF (fun j => clB ⟨s, fr, to, ra, ki⟩ (c j)) (len - (k + 1)) (k + 1) = fstF (fun j => clB ⟨s, fr, to, ra, ki⟩ (c j)) len 0) := hid (by rw [← hP.out]; exact (fstF_miss hlt g).symm)
        have HG : Hid (clB ⟨s, fr, to, ra, ki⟩ (c k) = false) := g
        clear g
        go_wp2_with (go_at_call 64; refine (clashes_eq ⟨s, fr, to, ra, ki⟩ (c k) _ _ HG.out).mono ?_; rintro e w1 ⟨rfl, b1⟩; have HB1 : Hid (Below w.heap.size w w1) := bel_on HB.out b1; clear b1)
        go_roundw
        case rel => exact ⟨k + 1, by omega, by go_num, HF, HB1⟩
        case measure => simp [intOf]; omega
      · have HF : Hid (fstF (fun j => clB ⟨s, fr, to, ra, ki⟩ (c j)) len 0 = (k : Int)) := hid (by rw [← hP.out]; exact fstF_hit hlt g)
        have HG : Hid (clB ⟨s, fr, to, ra, ki⟩ (c k) = true) := g
        clear g
        go_wp2_with (go_at_call 64; refine (clashes_eq ⟨s, fr, to, ra, ki⟩ (c k) _ _ HG.out).mono ?_; rintro e w1 ⟨rfl, b1⟩; have HB1 : Hid (Below w.heap.size w w1) := bel_on HB.out b1; clear b1)
        go_returns
        exact ⟨ret_i HF.out.symm, HB1.out⟩
    · obtain rfl : k = len := by omega
      have lkk : ¬ (k : Int) < (k : Int) := by omega
      have HF : Hid (fstF (fun j => clB ⟨s, fr, to, ra, ki⟩ (c j)) k 0 = -1) := hid (by rw [← hP.out]; exact fstF_end)
      go_wp2
      go_returns
      exact ⟨ret_i HF.out.symm, HB.out⟩

theorem anyClash (r : T5) (ad : Option Addr) (len cap : Nat) (c : Nat → T5) (v : Bool) (w : World) (h : (len : Int) ≤ 1048576) (hr : TR w ad len c) (hv : decide (0 ≤ fstF (fun j => clB r (c j)) len 0) = v) :
    Calls Try.prog 63 #[.slice ad len cap, .func (Fn.func 64) #[r.val] #[]] w fun e w' => e = .returned (.bool v) ∧ Below w.heap.size w w' := by
  have HC := idxClash_any r ad len cap c w h hr
  obtain ⟨x, hx⟩ : ∃ x, fstF (fun j => clB r (c j)) len 0 = x := ⟨_, rfl⟩
  rw [hx] at HC hv
  have HC2 : Hid (Calls Try.prog 96 #[.slice ad len cap, .func (Fn.func 64) #[r.val] #[]] w fun e w' => e = .returned (.int .i64 x) ∧ Below w.heap.size w w') := HC
  obtain ⟨fv, hf⟩ : ∃ f, Value.func (Fn.func 64) #[r.val] #[] = f := ⟨_, rfl⟩
  rw [hf] at HC2 ⊢
  clear HC hr hx hf
  subst hv
  go_enter Try.func63, Try.ntmps63
  go_wp2_with (go_at_call 96; refine HC2.out.mono ?_; rintro e w1 ⟨rfl, b1⟩)
  all_goals go_returns
  all_goals exact ⟨rfl, b1⟩
theorem noClash {r : T5} {c : Nat → T5} {k : Nat} : decide (0 ≤ fstF (fun j => clB r (c j)) k 0) = false → ∀ j, j < k → clB r (c j) = false := fun h j hj => by
  have h' := of_decide_eq_false h
  rcases fstF_spec (fun j => clB r (c j)) k 0 with ⟨h1, h2⟩ | ⟨i, h1, _⟩
  · exact h2 j (by omega) (by omega)
  · rw [h1] at h'; omega
theorem oneClash {r : T5} {c : Nat → T5} {k : Nat} : decide (0 ≤ fstF (fun j => clB r (c j)) k 0) = true → ∃ j, j < k ∧ clB r (c j) = true := fun h => by
  have h' := of_decide_eq_true h
  rcases fstF_spec (fun j => clB r (c j)) k 0 with ⟨h1, h2⟩ | ⟨i, h1, _, h2, h3, _⟩
  · rw [h1] at h'; omega
  · exact ⟨i, by omega, h3⟩
theorem isRight_eq (r : T5) (v : Bool) (w : World) (hs : r.code.size ≤ maxLen) (h : rOk r = v) : Calls Try.prog 62 #[r.val] w fun e w' => e = .returned (.bool v) ∧ Below w.heap.size w w' := by
  subst h; exact isRight_any r w hs

set_option maxRecDepth 20000 in
set_option maxHeartbeats 8000000 in
theorem implRules_any (ad : Option Addr) (len cap : Nat) (c : Nat → T5) (w : World) (h : (len : Int) ≤ 1048576) (hcap : len ≤ cap) (hs : ∀ j, (c j).code.size ≤ maxLen) (hr : TR w ad len c) :
    Calls Try.prog 19 #[.slice ad len cap] w fun e w' => e = .returned (.bool (trB len c)) ∧ Below w.heap.size w w' := by
  have HR : Hid (TR w ad len c) := hr
  have HS : Hid (∀ j, (c j).code.size ≤ maxLen) := hs
  clear hr hs
  by_cases h60 : (60 : Int) < (len : Int)
  · have HV : Hid (trB len c = false) := trB_f fun H => by have := H.1; omega
    go_enter Try.func19, Try.ntmps19
    go_wp2
    go_returns
    exact ⟨ret_bool HV.out.symm, Below.refl _ _⟩
  have h6 : (len : Int) ≤ 60 := by omega
  clear h60
  go_enter Try.func19, Try.ntmps19
  go_wp2
  go_loopw [10] (fun i wr => ∃ (k : Nat), k ≤ len ∧ i = .int .i64 (k : Int) ∧ Hid ((∀ j, j < k → rGood c j) ∧ Below w.heap.size w wr)) (fun i _ => len - (intOf i).toNat)
  case atStart => exact ⟨0, Nat.zero_le _, rfl, fun j hj => by omega, Below.refl _ _⟩
  case round =>
    obtain ⟨k, hk, rfl, HH⟩ := hrel
    obtain ⟨wo, rfl⟩ : ∃ x, x = wr := ⟨wr, rfl⟩
    by_cases hlt : k < len
    · have hlt2 : (k : Int) < (len : Int) := by omega
      have hkc : (k : Int) ≤ (cap : Int) := by omega
      have hk6 : (k : Int) ≤ 1048576 := by omega
      obtain ⟨kb, off, rfl, hkb⟩ := HR.out.addr (by omega)
      obtain ⟨c0, c1, c2, c3, c4⟩ := (HR.out.below HH.out.2).cell hlt
      obtain ⟨r, hr⟩ : ∃ r, c k = r := ⟨_, rfl⟩
      have HX : Hid (c k = r) := hr
      have HZ : Hid (r.code.size ≤ maxLen) := by have := HS.out k; rw [hr] at this; exact this
      rw [hr] at c0 c1 c2 c3 c4
      obtain ⟨s, fr, to, ra, ki⟩ := r
      simp only at c0 c1 c2 c3 c4
      clear hr
      cases hv : rOk ⟨s, fr, to, ra, ki⟩
      · have HV : Hid (rOk ⟨s, fr, to, ra, ki⟩ = false) := hv
        have HF : Hid (trB len c = false) := hid (trB_one hlt (by rw [HX.out]; exact hv))
        clear hv
        go_wp2
        have hB0 : Below w.heap.size w (wo.alloc (.cells #[.string s, .int .i64 fr, .int .i64 to, .int .i64 ra, .int .i64 ki] 79 (0, 0))) := bel_on HH.out.2 (by go_grown)
        have hB1 : Below w.heap.size w (wo.alloc (.cells #[.string s, .int .i64 fr, .int .i64 to, .int .i64 ra, .int .i64 ki] 79 (0, 0))).drew := hB0.drew
        refine wp_region_noPanic ?_
        refine wp_region_held_drew (S := fun w' => w'.cell? ⟨wo.heap.size, 0, none⟩ = some (.string s) ∧ w'.cell? ⟨wo.heap.size, 1, none⟩ = some (.int .i64 fr) ∧ w'.cell? ⟨wo.heap.size, 2, none⟩ = some (.int .i64 to) ∧ w'.cell? ⟨wo.heap.size, 3, none⟩ = some (.int .i64 ra) ∧ w'.cell? ⟨wo.heap.size, 4, none⟩ = some (.int .i64 ki) ∧ Below w.heap.size w w') (by kernel_rfl) ?_ (fun hHeld => ?_)
        · (try dsimp only); refine ⟨?_, ?_, ?_, ?_, ?_, ?_⟩ <;> first | assumption | (simp [*, World.cell?_alloc_some]; done)
        refine wpAnyH_take (i := 0) (oi := { dst := some 15, op := Go.Op.load 79 (Go.Operand.tmp 4), type := 79, pos := "l10_tax.go:132", after := #[], guard := none }) (v := ?_) rfl (by kernel_rfl) (by kernel_rfl) (by kernel_rfl) (fun _ _ _ h => h) (Or.inl ⟨by rfl, ?_⟩) (by assumption) ?_
        rotate_left
        · (intro w hSw; (try dsimp only at hSw); go_simp <;> try with_reducible rfl)
        try simp only [Act.put, List.setIfInBounds_toArray, List.set_cons_zero, List.set_cons_succ]
        refine wpAnyH_ready (rs := [1]) (by kernel_rfl) (by simp) ?_
        refine AllReadyH.cons (o := { dst := some 16, op := Go.Op.call { callee := Go.Callee.value (Go.Operand.func 62), args := #[Go.Operand.tmp 15], argTypes := #[79] }, type := 4, pos := "l10_tax.go:132", after := #[{ on := 0, ground := Go.Ground.data }], guard := none }) rfl (fun K hK => ?_) AllReadyH.nil
        go_simp
        (go_at_call 62; refine (isRight_eq ⟨s, fr, to, ra, ki⟩ _ _ HZ.out HV.out).mono ?_; rintro e w2 ⟨rfl, b2⟩; have q1_0 : w2.cell? ⟨wo.heap.size, 0, none⟩ = some (.string s) := keep_cell b2 (by simp [*]); have q1_1 : w2.cell? ⟨wo.heap.size, 1, none⟩ = some (.int .i64 fr) := keep_cell b2 (by simp [*]); have q1_2 : w2.cell? ⟨wo.heap.size, 2, none⟩ = some (.int .i64 to) := keep_cell b2 (by simp [*]); have q1_3 : w2.cell? ⟨wo.heap.size, 3, none⟩ = some (.int .i64 ra) := keep_cell b2 (by simp [*]); have q1_4 : w2.cell? ⟨wo.heap.size, 4, none⟩ = some (.int .i64 ki) := keep_cell b2 (by simp [*]); have p1 : Below w.heap.size w w2 := bel_on (by assumption) b2; clear b2)
        first | refine hK.out _ _ ?_ (fun hHeld => ?_) | (go_wp2_with fail; refine hK.out _ _ ?_ (fun hHeld => ?_))
        · (try dsimp only); refine ⟨?_, ?_, ?_, ?_, ?_, ?_⟩ <;> first | assumption | (simp [*, World.cell?_alloc_some]; done)
        clear hK K
        try simp only [Act.put, List.setIfInBounds_toArray, List.set_cons_zero, List.set_cons_succ]
        refine wpAnyH_take (i := 2) (oi := { dst := some 17, op := Go.Op.unOp Go.UnOp.not 4 (Go.Operand.tmp 16), type := 4, pos := "l10_tax.go:132", after := #[{ on := 1, ground := Go.Ground.data }], guard := none }) (v := ?_) rfl (by kernel_rfl) (by kernel_rfl) (by kernel_rfl) (fun _ _ _ h => h) (Or.inl ⟨by rfl, ?_⟩) (by assumption) ?_
        rotate_left
        · (intro w hSw; (try dsimp only at hSw); go_simp <;> try with_reducible rfl)
        try simp only [Act.put, List.setIfInBounds_toArray, List.set_cons_zero, List.set_cons_succ]
        refine wpAnyH_take (i := 3) (oi := { dst := some 18, op := Go.Op.move (Go.Operand.tmp 17), type := 4, pos := "l10_tax.go:132", after := #[{ on := 2, ground := Go.Ground.data }, { on := 1, ground := Go.Ground.chain }], guard := none }) (v := ?_) rfl (by kernel_rfl) (by kernel_rfl) (by kernel_rfl) (fun _ _ _ h => h) (Or.inl ⟨by rfl, ?_⟩) (by assumption) ?_
        rotate_left
        · (intro w hSw; (try dsimp only at hSw); go_simp <;> try with_reducible rfl)
        try simp only [Act.put, List.setIfInBounds_toArray, List.set_cons_zero, List.set_cons_succ]
        refine wpAnyH_take (i := 4) (oi := { dst := some 19, op := Go.Op.move (Go.Operand.tmp 0), type := 24, pos := "l10_tax.go:132", after := #[{ on := 3, ground := Go.Ground.guard }], guard := some (3, false) }) (v := undef) rfl (by kernel_rfl) (by kernel_rfl) (by kernel_rfl) (fun _ _ _ h => h) (Or.inr ⟨by rfl, rfl⟩) (by assumption) ?_
        try simp only [Act.put, List.setIfInBounds_toArray, List.set_cons_zero, List.set_cons_succ]
        refine wpAnyH_take (i := 5) (oi := { dst := some 20, op := Go.Op.move (Go.Operand.tmp 3), type := 3, pos := "l10_tax.go:132", after := #[{ on := 3, ground := Go.Ground.guard }], guard := some (3, false) }) (v := undef) rfl (by kernel_rfl) (by kernel_rfl) (by kernel_rfl) (fun _ _ _ h => h) (Or.inr ⟨by rfl, rfl⟩) (by assumption) ?_
        try simp only [Act.put, List.setIfInBounds_toArray, List.set_cons_zero, List.set_cons_succ]
        refine wpAnyH_take (i := 6) (oi := { dst := some 21, op := Go.Op.slice 24 (Go.Operand.tmp 19) none (some (Go.Operand.tmp 20)) none, type := 24, pos := "l10_tax.go:132", after := #[{ on := 4, ground := Go.Ground.data }, { on := 5, ground := Go.Ground.data }, { on := 3, ground := Go.Ground.guard }], guard := some (3, false) }) (v := undef) rfl (by kernel_rfl) (by kernel_rfl) (by kernel_rfl) (fun _ _ _ h => h) (Or.inr ⟨by rfl, rfl⟩) (by assumption) ?_
        try simp only [Act.put, List.setIfInBounds_toArray, List.set_cons_zero, List.set_cons_succ]
        refine wpAnyH_take (i := 7) (oi := { dst := some 22, op := Go.Op.load 79 (Go.Operand.tmp 4), type := 79, pos := "l10_tax.go:132", after := #[{ on := 3, ground := Go.Ground.guard }], guard := some (3, false) }) (v := undef) rfl (by kernel_rfl) (by kernel_rfl) (by kernel_rfl) (fun _ _ _ h => h) (Or.inr ⟨by rfl, rfl⟩) (by assumption) ?_
        try simp only [Act.put, List.setIfInBounds_toArray, List.set_cons_zero, List.set_cons_succ]
        refine wpAnyH_take (i := 8) (oi := { dst := some 23, op := Go.Op.makeFunc (Go.Fn.func 64) #[Go.Operand.tmp 22] #[], type := 99, pos := "l10_tax.go:132", after := #[{ on := 7, ground := Go.Ground.data }, { on := 3, ground := Go.Ground.guard }], guard := some (3, false) }) (v := undef) rfl (by kernel_rfl) (by kernel_rfl) (by kernel_rfl) (fun _ _ _ h => h) (Or.inr ⟨by rfl, rfl⟩) (by assumption) ?_
        try simp only [Act.put, List.setIfInBounds_toArray, List.set_cons_zero, List.set_cons_succ]
        refine wpAnyH_take (i := 9) (oi := { dst := some 24, op := Go.Op.call { callee := Go.Callee.value (Go.Operand.func 63), args := #[Go.Operand.tmp 21, Go.Operand.tmp 23], argTypes := #[24, 99] }, type := 4, pos := "l10_tax.go:132", after := #[{ on := 6, ground := Go.Ground.data }, { on := 8, ground := Go.Ground.data }, { on := 3, ground := Go.Ground.chain }, { on := 3, ground := Go.Ground.guard }], guard := some (3, false) }) (v := undef) rfl (by kernel_rfl) (by kernel_rfl) (by kernel_rfl) (fun _ _ _ h => h) (Or.inr ⟨by rfl, rfl⟩) (by assumption) ?_
        try simp only [Act.put, List.setIfInBounds_toArray, List.set_cons_zero, List.set_cons_succ]
        refine wpAnyH_take (i := 10) (oi := { dst := some 25, op := Go.Op.pick (Go.Operand.tmp 18) (Go.Operand.const (Go.Value.bool true)) (Go.Operand.tmp 24), type := 4, pos := "l10_tax.go:132", after := #[{ on := 3, ground := Go.Ground.data }, { on := 9, ground := Go.Ground.data }], guard := none }) (v := ?_) rfl (by kernel_rfl) (by kernel_rfl) (by kernel_rfl) (fun _ _ _ h => h) (Or.inl ⟨by rfl, ?_⟩) (by assumption) ?_
        rotate_left
        · (intro w hSw; (try dsimp only at hSw); go_simp <;> try with_reducible rfl)
        try simp only [Act.put, List.setIfInBounds_toArray, List.set_cons_zero, List.set_cons_succ]
        refine wpAnyH_done (by kernel_rfl) ?_ _
        refine NoPanic.normal ?_
        go_wp2
        go_returns
        exact ⟨ret_bool HF.out.symm, p1⟩
      · have HV : Hid (rOk ⟨s, fr, to, ra, ki⟩ = true) := hv
        clear hv
        cases ha : decide (0 ≤ fstF (fun j => clB ⟨s, fr, to, ra, ki⟩ (c j)) k 0)
        · have HA : Hid (decide (0 ≤ fstF (fun j => clB ⟨s, fr, to, ra, ki⟩ (c j)) k 0) = false) := ha
          have HG : Hid (∀ j, j < k + 1 → rGood c j) := good_step HH.out.1 ⟨by rw [HX.out]; exact HV.out, by rw [HX.out]; exact noClash ha⟩
          clear ha
          go_wp2
          have hB0 : Below w.heap.size w (wo.alloc (.cells #[.string s, .int .i64 fr, .int .i64 to, .int .i64 ra, .int .i64 ki] 79 (0, 0))) := bel_on HH.out.2 (by go_grown)
          have hB1 : Below w.heap.size w (wo.alloc (.cells #[.string s, .int .i64 fr, .int .i64 to, .int .i64 ra, .int .i64 ki] 79 (0, 0))).drew := hB0.drew
          refine wp_region_noPanic ?_
          refine wp_region_held_drew (S := fun w' => w'.cell? ⟨wo.heap.size, 0, none⟩ = some (.string s) ∧ w'.cell? ⟨wo.heap.size, 1, none⟩ = some (.int .i64 fr) ∧ w'.cell? ⟨wo.heap.size, 2, none⟩ = some (.int .i64 to) ∧ w'.cell? ⟨wo.heap.size, 3, none⟩ = some (.int .i64 ra) ∧ w'.cell? ⟨wo.heap.size, 4, none⟩ = some (.int .i64 ki) ∧ Below w.heap.size w w') (by kernel_rfl) ?_ (fun hHeld => ?_)
          · (try dsimp only); refine ⟨?_, ?_, ?_, ?_, ?_, ?_⟩ <;> first | assumption | (simp [*, World.cell?_alloc_some]; done)
          refine wpAnyH_take (i := 0) (oi := { dst := some 15, op := Go.Op.load 79 (Go.Operand.tmp 4), type := 79, pos := "l10_tax.go:132", after := #[], guard := none }) (v := ?_) rfl (by kernel_rfl) (by kernel_rfl) (by kernel_rfl) (fun _ _ _ h => h) (Or.inl ⟨by rfl, ?_⟩) (by assumption) ?_
          rotate_left
          · (intro w hSw; (try dsimp only at hSw); go_simp <;> try with_reducible rfl)
          try simp only [Act.put, List.setIfInBounds_toArray, List.set_cons_zero, List.set_cons_succ]
          refine wpAnyH_ready (rs := [1]) (by kernel_rfl) (by simp) ?_
          refine AllReadyH.cons (o := { dst := some 16, op := Go.Op.call { callee := Go.Callee.value (Go.Operand.func 62), args := #[Go.Operand.tmp 15], argTypes := #[79] }, type := 4, pos := "l10_tax.go:132", after := #[{ on := 0, ground := Go.Ground.data }], guard := none }) rfl (fun K hK => ?_) AllReadyH.nil
          go_simp
          (go_at_call 62; refine (isRight_eq ⟨s, fr, to, ra, ki⟩ _ _ HZ.out HV.out).mono ?_; rintro e w2 ⟨rfl, b2⟩; have q1_0 : w2.cell? ⟨wo.heap.size, 0, none⟩ = some (.string s) := keep_cell b2 (by simp [*]); have q1_1 : w2.cell? ⟨wo.heap.size, 1, none⟩ = some (.int .i64 fr) := keep_cell b2 (by simp [*]); have q1_2 : w2.cell? ⟨wo.heap.size, 2, none⟩ = some (.int .i64 to) := keep_cell b2 (by simp [*]); have q1_3 : w2.cell? ⟨wo.heap.size, 3, none⟩ = some (.int .i64 ra) := keep_cell b2 (by simp [*]); have q1_4 : w2.cell? ⟨wo.heap.size, 4, none⟩ = some (.int .i64 ki) := keep_cell b2 (by simp [*]); have p1 : Below w.heap.size w w2 := bel_on (by assumption) b2; clear b2)
          first | refine hK.out _ _ ?_ (fun hHeld => ?_) | (go_wp2_with fail; refine hK.out _ _ ?_ (fun hHeld => ?_))
          · (try dsimp only); refine ⟨?_, ?_, ?_, ?_, ?_, ?_⟩ <;> first | assumption | (simp [*, World.cell?_alloc_some]; done)
          clear hK K
          try simp only [Act.put, List.setIfInBounds_toArray, List.set_cons_zero, List.set_cons_succ]
          refine wpAnyH_take (i := 2) (oi := { dst := some 17, op := Go.Op.unOp Go.UnOp.not 4 (Go.Operand.tmp 16), type := 4, pos := "l10_tax.go:132", after := #[{ on := 1, ground := Go.Ground.data }], guard := none }) (v := ?_) rfl (by kernel_rfl) (by kernel_rfl) (by kernel_rfl) (fun _ _ _ h => h) (Or.inl ⟨by rfl, ?_⟩) (by assumption) ?_
          rotate_left
          · (intro w hSw; (try dsimp only at hSw); go_simp <;> try with_reducible rfl)
          try simp only [Act.put, List.setIfInBounds_toArray, List.set_cons_zero, List.set_cons_succ]
          refine wpAnyH_take (i := 3) (oi := { dst := some 18, op := Go.Op.move (Go.Operand.tmp 17), type := 4, pos := "l10_tax.go:132", after := #[{ on := 2, ground := Go.Ground.data }, { on := 1, ground := Go.Ground.chain }], guard := none }) (v := ?_) rfl (by kernel_rfl) (by kernel_rfl) (by kernel_rfl) (fun _ _ _ h => h) (Or.inl ⟨by rfl, ?_⟩) (by assumption) ?_
          rotate_left
          · (intro w hSw; (try dsimp only at hSw); go_simp <;> try with_reducible rfl)
          try simp only [Act.put, List.setIfInBounds_toArray, List.set_cons_zero, List.set_cons_succ]
          refine wpAnyH_take (i := 4) (oi := { dst := some 19, op := Go.Op.move (Go.Operand.tmp 0), type := 24, pos := "l10_tax.go:132", after := #[{ on := 3, ground := Go.Ground.guard }], guard := some (3, false) }) (v := ?_) rfl (by kernel_rfl) (by kernel_rfl) (by kernel_rfl) (fun _ _ _ h => h) (Or.inl ⟨by rfl, ?_⟩) (by assumption) ?_
          rotate_left
          · (intro w hSw; (try dsimp only at hSw); go_simp <;> try with_reducible rfl)
          try simp only [Act.put, List.setIfInBounds_toArray, List.set_cons_zero, List.set_cons_succ]
          refine wpAnyH_take (i := 5) (oi := { dst := some 20, op := Go.Op.move (Go.Operand.tmp 3), type := 3, pos := "l10_tax.go:132", after := #[{ on := 3, ground := Go.Ground.guard }], guard := some (3, false) }) (v := ?_) rfl (by kernel_rfl) (by kernel_rfl) (by kernel_rfl) (fun _ _ _ h => h) (Or.inl ⟨by rfl, ?_⟩) (by assumption) ?_
          rotate_left
          · (intro w hSw; (try dsimp only at hSw); go_simp <;> try with_reducible rfl)
          try simp only [Act.put, List.setIfInBounds_toArray, List.set_cons_zero, List.set_cons_succ]
          refine wpAnyH_take (i := 6) (oi := { dst := some 21, op := Go.Op.slice 24 (Go.Operand.tmp 19) none (some (Go.Operand.tmp 20)) none, type := 24, pos := "l10_tax.go:132", after := #[{ on := 4, ground := Go.Ground.data }, { on := 5, ground := Go.Ground.data }, { on := 3, ground := Go.Ground.guard }], guard := some (3, false) }) (v := ?_) rfl (by kernel_rfl) (by kernel_rfl) (by kernel_rfl) (fun _ _ _ h => h) (Or.inl ⟨by rfl, ?_⟩) (by assumption) ?_
          rotate_left
          · (intro w hSw; (try dsimp only at hSw); go_simp <;> try with_reducible rfl)
          try simp only [Act.put, List.setIfInBounds_toArray, List.set_cons_zero, List.set_cons_succ]
          refine wpAnyH_take (i := 7) (oi := { dst := some 22, op := Go.Op.load 79 (Go.Operand.tmp 4), type := 79, pos := "l10_tax.go:132", after := #[{ on := 3, ground := Go.Ground.guard }], guard := some (3, false) }) (v := ?_) rfl (by kernel_rfl) (by kernel_rfl) (by kernel_rfl) (fun _ _ _ h => h) (Or.inl ⟨by rfl, ?_⟩) (by assumption) ?_
          rotate_left
          · (intro w hSw; (try dsimp only at hSw); go_simp <;> try with_reducible rfl)
          try simp only [Act.put, List.setIfInBounds_toArray, List.set_cons_zero, List.set_cons_succ]
          refine wpAnyH_take (i := 8) (oi := { dst := some 23, op := Go.Op.makeFunc (Go.Fn.func 64) #[Go.Operand.tmp 22] #[], type := 99, pos := "l10_tax.go:132", after := #[{ on := 7, ground := Go.Ground.data }, { on := 3, ground := Go.Ground.guard }], guard := some (3, false) }) (v := ?_) rfl (by kernel_rfl) (by kernel_rfl) (by kernel_rfl) (fun _ _ _ h => h) (Or.inl ⟨by rfl, ?_⟩) (by assumption) ?_
          rotate_left
          · (intro w hSw; (try dsimp only at hSw); go_simp <;> try with_reducible rfl)
          try simp only [Act.put, List.setIfInBounds_toArray, List.set_cons_zero, List.set_cons_succ]
          refine wpAnyH_ready (rs := [9]) (by kernel_rfl) (by simp) ?_
          refine AllReadyH.cons (o := { dst := some 24, op := Go.Op.call { callee := Go.Callee.value (Go.Operand.func 63), args := #[Go.Operand.tmp 21, Go.Operand.tmp 23], argTypes := #[24, 99] }, type := 4, pos := "l10_tax.go:132", after := #[{ on := 6, ground := Go.Ground.data }, { on := 8, ground := Go.Ground.data }, { on := 3, ground := Go.Ground.chain }, { on := 3, ground := Go.Ground.guard }], guard := some (3, false) }) rfl (fun K hK => ?_) AllReadyH.nil
          go_simp
          (go_at_call 63; refine (anyClash ⟨s, fr, to, ra, ki⟩ _ _ _ c _ _ hk6 ((HR.out.mono hk).below (by assumption)) HA.out).mono ?_; rintro e w3 ⟨rfl, b3⟩; have q2_0 : w3.cell? ⟨wo.heap.size, 0, none⟩ = some (.string s) := keep_cell b3 (by simp [*]); have q2_1 : w3.cell? ⟨wo.heap.size, 1, none⟩ = some (.int .i64 fr) := keep_cell b3 (by simp [*]); have q2_2 : w3.cell? ⟨wo.heap.size, 2, none⟩ = some (.int .i64 to) := keep_cell b3 (by simp [*]); have q2_3 : w3.cell? ⟨wo.heap.size, 3, none⟩ = some (.int .i64 ra) := keep_cell b3 (by simp [*]); have q2_4 : w3.cell? ⟨wo.heap.size, 4, none⟩ = some (.int .i64 ki) := keep_cell b3 (by simp [*]); have p2 : Below w.heap.size w w3 := bel_on (by assumption) b3; clear b3)
          first | refine hK.out _ _ ?_ (fun hHeld => ?_) | (go_wp2_with fail; refine hK.out _ _ ?_ (fun hHeld => ?_))
          · (try dsimp only); refine ⟨?_, ?_, ?_, ?_, ?_, ?_⟩ <;> first | assumption | (simp [*, World.cell?_alloc_some]; done)
          clear hK K
          try simp only [Act.put, List.setIfInBounds_toArray, List.set_cons_zero, List.set_cons_succ]
          refine wpAnyH_take (i := 10) (oi := { dst := some 25, op := Go.Op.pick (Go.Operand.tmp 18) (Go.Operand.const (Go.Value.bool true)) (Go.Operand.tmp 24), type := 4, pos := "l10_tax.go:132", after := #[{ on := 3, ground := Go.Ground.data }, { on := 9, ground := Go.Ground.data }], guard := none }) (v := ?_) rfl (by kernel_rfl) (by kernel_rfl) (by kernel_rfl) (fun _ _ _ h => h) (Or.inl ⟨by rfl, ?_⟩) (by assumption) ?_
          rotate_left
          · (intro w hSw; (try dsimp only at hSw); go_simp <;> try with_reducible rfl)
          try simp only [Act.put, List.setIfInBounds_toArray, List.set_cons_zero, List.set_cons_succ]
          refine wpAnyH_done (by kernel_rfl) ?_ _
          refine NoPanic.normal ?_
          go_wp2
          go_roundw
          case rel => exact ⟨k + 1, by omega, by go_num, HG.out, p2⟩
          case measure => simp [intOf]; omega
        · have HA : Hid (decide (0 ≤ fstF (fun j => clB ⟨s, fr, to, ra, ki⟩ (c j)) k 0) = true) := ha
          have HF : Hid (trB len c = false) := hid (by obtain ⟨j, h1, h2⟩ := oneClash ha; exact trB_two hlt h1 (by rw [HX.out]; exact h2))
          clear ha
          go_wp2
          have hB0 : Below w.heap.size w (wo.alloc (.cells #[.string s, .int .i64 fr, .int .i64 to, .int .i64 ra, .int .i64 ki] 79 (0, 0))) := bel_on HH.out.2 (by go_grown)
          have hB1 : Below w.heap.size w (wo.alloc (.cells #[.string s, .int .i64 fr, .int .i64 to, .int .i64 ra, .int .i64 ki] 79 (0, 0))).drew := hB0.drew
          refine wp_region_noPanic ?_
          refine wp_region_held_drew (S := fun w' => w'.cell? ⟨wo.heap.size, 0, none⟩ = some (.string s) ∧ w'.cell? ⟨wo.heap.size, 1, none⟩ = some (.int .i64 fr) ∧ w'.cell? ⟨wo.heap.size, 2, none⟩ = some (.int .i64 to) ∧ w'.cell? ⟨wo.heap.size, 3, none⟩ = some (.int .i64 ra) ∧ w'.cell? ⟨wo.heap.size, 4, none⟩ = some (.int .i64 ki) ∧ Below w.heap.size w w') (by kernel_rfl) ?_ (fun hHeld => ?_)
          · (try dsimp only); refine ⟨?_, ?_, ?_, ?_, ?_, ?_⟩ <;> first | assumption | (simp [*, World.cell?_alloc_some]; done)
          refine wpAnyH_take (i := 0) (oi := { dst := some 15, op := Go.Op.load 79 (Go.Operand.tmp 4), type := 79, pos := "l10_tax.go:132", after := #[], guard := none }) (v := ?_) rfl (by kernel_rfl) (by kernel_rfl) (by kernel_rfl) (fun _ _ _ h => h) (Or.inl ⟨by rfl, ?_⟩) (by assumption) ?_
          rotate_left
          · (intro w hSw; (try dsimp only at hSw); go_simp <;> try with_reducible rfl)
          try simp only [Act.put, List.setIfInBounds_toArray, List.set_cons_zero, List.set_cons_succ]
          refine wpAnyH_ready (rs := [1]) (by kernel_rfl) (by simp) ?_
          refine AllReadyH.cons (o := { dst := some 16, op := Go.Op.call { callee := Go.Callee.value (Go.Operand.func 62), args := #[Go.Operand.tmp 15], argTypes := #[79] }, type := 4, pos := "l10_tax.go:132", after := #[{ on := 0, ground := Go.Ground.data }], guard := none }) rfl (fun K hK => ?_) AllReadyH.nil
          go_simp
          (go_at_call 62; refine (isRight_eq ⟨s, fr, to, ra, ki⟩ _ _ HZ.out HV.out).mono ?_; rintro e w2 ⟨rfl, b2⟩; have q1_0 : w2.cell? ⟨wo.heap.size, 0, none⟩ = some (.string s) := keep_cell b2 (by simp [*]); have q1_1 : w2.cell? ⟨wo.heap.size, 1, none⟩ = some (.int .i64 fr) := keep_cell b2 (by simp [*]); have q1_2 : w2.cell? ⟨wo.heap.size, 2, none⟩ = some (.int .i64 to) := keep_cell b2 (by simp [*]); have q1_3 : w2.cell? ⟨wo.heap.size, 3, none⟩ = some (.int .i64 ra) := keep_cell b2 (by simp [*]); have q1_4 : w2.cell? ⟨wo.heap.size, 4, none⟩ = some (.int .i64 ki) := keep_cell b2 (by simp [*]); have p1 : Below w.heap.size w w2 := bel_on (by assumption) b2; clear b2)
          first | refine hK.out _ _ ?_ (fun hHeld => ?_) | (go_wp2_with fail; refine hK.out _ _ ?_ (fun hHeld => ?_))
          · (try dsimp only); refine ⟨?_, ?_, ?_, ?_, ?_, ?_⟩ <;> first | assumption | (simp [*, World.cell?_alloc_some]; done)
          clear hK K
          try simp only [Act.put, List.setIfInBounds_toArray, List.set_cons_zero, List.set_cons_succ]
          refine wpAnyH_take (i := 2) (oi := { dst := some 17, op := Go.Op.unOp Go.UnOp.not 4 (Go.Operand.tmp 16), type := 4, pos := "l10_tax.go:132", after := #[{ on := 1, ground := Go.Ground.data }], guard := none }) (v := ?_) rfl (by kernel_rfl) (by kernel_rfl) (by kernel_rfl) (fun _ _ _ h => h) (Or.inl ⟨by rfl, ?_⟩) (by assumption) ?_
          rotate_left
          · (intro w hSw; (try dsimp only at hSw); go_simp <;> try with_reducible rfl)
          try simp only [Act.put, List.setIfInBounds_toArray, List.set_cons_zero, List.set_cons_succ]
          refine wpAnyH_take (i := 3) (oi := { dst := some 18, op := Go.Op.move (Go.Operand.tmp 17), type := 4, pos := "l10_tax.go:132", after := #[{ on := 2, ground := Go.Ground.data }, { on := 1, ground := Go.Ground.chain }], guard := none }) (v := ?_) rfl (by kernel_rfl) (by kernel_rfl) (by kernel_rfl) (fun _ _ _ h => h) (Or.inl ⟨by rfl, ?_⟩) (by assumption) ?_
          rotate_left
          · (intro w hSw; (try dsimp only at hSw); go_simp <;> try with_reducible rfl)
          try simp only [Act.put, List.setIfInBounds_toArray, List.set_cons_zero, List.set_cons_succ]
          refine wpAnyH_take (i := 4) (oi := { dst := some 19, op := Go.Op.move (Go.Operand.tmp 0), type := 24, pos := "l10_tax.go:132", after := #[{ on := 3, ground := Go.Ground.guard }], guard := some (3, false) }) (v := ?_) rfl (by kernel_rfl) (by kernel_rfl) (by kernel_rfl) (fun _ _ _ h => h) (Or.inl ⟨by rfl, ?_⟩) (by assumption) ?_
          rotate_left
          · (intro w hSw; (try dsimp only at hSw); go_simp <;> try with_reducible rfl)
          try simp only [Act.put, List.setIfInBounds_toArray, List.set_cons_zero, List.set_cons_succ]
          refine wpAnyH_take (i := 5) (oi := { dst := some 20, op := Go.Op.move (Go.Operand.tmp 3), type := 3, pos := "l10_tax.go:132", after := #[{ on := 3, ground := Go.Ground.guard }], guard := some (3, false) }) (v := ?_) rfl (by kernel_rfl) (by kernel_rfl) (by kernel_rfl) (fun _ _ _ h => h) (Or.inl ⟨by rfl, ?_⟩) (by assumption) ?_
          rotate_left
          · (intro w hSw; (try dsimp only at hSw); go_simp <;> try with_reducible rfl)
          try simp only [Act.put, List.setIfInBounds_toArray, List.set_cons_zero, List.set_cons_succ]
          refine wpAnyH_take (i := 6) (oi := { dst := some 21, op := Go.Op.slice 24 (Go.Operand.tmp 19) none (some (Go.Operand.tmp 20)) none, type := 24, pos := "l10_tax.go:132", after := #[{ on := 4, ground := Go.Ground.data }, { on := 5, ground := Go.Ground.data }, { on := 3, ground := Go.Ground.guard }], guard := some (3, false) }) (v := ?_) rfl (by kernel_rfl) (by kernel_rfl) (by kernel_rfl) (fun _ _ _ h => h) (Or.inl ⟨by rfl, ?_⟩) (by assumption) ?_
          rotate_left
          · (intro w hSw; (try dsimp only at hSw); go_simp <;> try with_reducible rfl)
          try simp only [Act.put, List.setIfInBounds_toArray, List.set_cons_zero, List.set_cons_succ]
          refine wpAnyH_take (i := 7) (oi := { dst := some 22, op := Go.Op.load 79 (Go.Operand.tmp 4), type := 79, pos := "l10_tax.go:132", after := #[{ on := 3, ground := Go.Ground.guard }], guard := some (3, false) }) (v := ?_) rfl (by kernel_rfl) (by kernel_rfl) (by kernel_rfl) (fun _ _ _ h => h) (Or.inl ⟨by rfl, ?_⟩) (by assumption) ?_
          rotate_left
          · (intro w hSw; (try dsimp only at hSw); go_simp <;> try with_reducible rfl)
          try simp only [Act.put, List.setIfInBounds_toArray, List.set_cons_zero, List.set_cons_succ]
          refine wpAnyH_take (i := 8) (oi := { dst := some 23, op := Go.Op.makeFunc (Go.Fn.func 64) #[Go.Operand.tmp 22] #[], type := 99, pos := "l10_tax.go:132", after := #[{ on := 7, ground := Go.Ground.data }, { on := 3, ground := Go.Ground.guard }], guard := some (3, false) }) (v := ?_) rfl (by kernel_rfl) (by kernel_rfl) (by kernel_rfl) (fun _ _ _ h => h) (Or.inl ⟨by rfl, ?_⟩) (by assumption) ?_
          rotate_left
          · (intro w hSw; (try dsimp only at hSw); go_simp <;> try with_reducible rfl)
          try simp only [Act.put, List.setIfInBounds_toArray, List.set_cons_zero, List.set_cons_succ]
          refine wpAnyH_ready (rs := [9]) (by kernel_rfl) (by simp) ?_
          refine AllReadyH.cons (o := { dst := some 24, op := Go.Op.call { callee := Go.Callee.value (Go.Operand.func 63), args := #[Go.Operand.tmp 21, Go.Operand.tmp 23], argTypes := #[24, 99] }, type := 4, pos := "l10_tax.go:132", after := #[{ on := 6, ground := Go.Ground.data }, { on := 8, ground := Go.Ground.data }, { on := 3, ground := Go.Ground.chain }, { on := 3, ground := Go.Ground.guard }], guard := some (3, false) }) rfl (fun K hK => ?_) AllReadyH.nil
          go_simp
          (go_at_call 63; refine (anyClash ⟨s, fr, to, ra, ki⟩ _ _ _ c _ _ hk6 ((HR.out.mono hk).below (by assumption)) HA.out).mono ?_; rintro e w3 ⟨rfl, b3⟩; have q2_0 : w3.cell? ⟨wo.heap.size, 0, none⟩ = some (.string s) := keep_cell b3 (by simp [*]); have q2_1 : w3.cell? ⟨wo.heap.size, 1, none⟩ = some (.int .i64 fr) := keep_cell b3 (by simp [*]); have q2_2 : w3.cell? ⟨wo.heap.size, 2, none⟩ = some (.int .i64 to) := keep_cell b3 (by simp [*]); have q2_3 : w3.cell? ⟨wo.heap.size, 3, none⟩ = some (.int .i64 ra) := keep_cell b3 (by simp [*]); have q2_4 : w3.cell? ⟨wo.heap.size, 4, none⟩ = some (.int .i64 ki) := keep_cell b3 (by simp [*]); have p2 : Below w.heap.size w w3 := bel_on (by assumption) b3; clear b3)
          first | refine hK.out _ _ ?_ (fun hHeld => ?_) | (go_wp2_with fail; refine hK.out _ _ ?_ (fun hHeld => ?_))
          · (try dsimp only); refine ⟨?_, ?_, ?_, ?_, ?_, ?_⟩ <;> first | assumption | (simp [*, World.cell?_alloc_some]; done)
          clear hK K
          try simp only [Act.put, List.setIfInBounds_toArray, List.set_cons_zero, List.set_cons_succ]
          refine wpAnyH_take (i := 10) (oi := { dst := some 25, op := Go.Op.pick (Go.Operand.tmp 18) (Go.Operand.const (Go.Value.bool true)) (Go.Operand.tmp 24), type := 4, pos := "l10_tax.go:132", after := #[{ on := 3, ground := Go.Ground.data }, { on := 9, ground := Go.Ground.data }], guard := none }) (v := ?_) rfl (by kernel_rfl) (by kernel_rfl) (by kernel_rfl) (fun _ _ _ h => h) (Or.inl ⟨by rfl, ?_⟩) (by assumption) ?_
          rotate_left
          · (intro w hSw; (try dsimp only at hSw); go_simp <;> try with_reducible rfl)
          try simp only [Act.put, List.setIfInBounds_toArray, List.set_cons_zero, List.set_cons_succ]
          refine wpAnyH_done (by kernel_rfl) ?_ _
          refine NoPanic.normal ?_
          go_wp2
          go_returns
          exact ⟨ret_bool HF.out.symm, p2⟩
    · obtain rfl : k = len := by omega
      have lkk : ¬ (k : Int) < (k : Int) := by omega
      have HF : Hid (trB k c = true) := trB_t ⟨by omega, HH.out.1⟩
      go_wp2
      go_returns
      exact ⟨ret_bool HF.out.symm, HH.out.2⟩
end Go.Proofs.Ytbhghghkgojpgaa
