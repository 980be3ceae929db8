/- CursOk in the program and in the model: both answer 'cursB'. -/
import Derived.Test.YtidhnmodedbmgaaCq
import Derived.Test.YtidhnmodedbmgaaSm
import Derived.Deep.RegionHeld3
namespace Go.Proofs.Ytidhnmodedbmgaa
open Go.ChangeShapes Go.WideShapes Go.ChangeAt Go.RowKit
set_option linter.unusedVariables false
set_option linter.unusedSimpArgs false

open Classical in
noncomputable def hasB (n : Nat) (c : Nat → C3) (s : ByteArray) : Bool := decide (∃ k, k < n ∧ (c k).code = s)
open Classical in
theorem hasB_t {n : Nat} {c : Nat → C3} {s : ByteArray} (h : ∃ k, k < n ∧ (c k).code = s) : hasB n c s = true := by unfold hasB; exact decide_eq_true h
open Classical in
theorem hasB_f {n : Nat} {c : Nat → C3} {s : ByteArray} (h : ¬ ∃ k, k < n ∧ (c k).code = s) : hasB n c s = false := by unfold hasB; exact decide_eq_false h

def cursP (len : Nat) (c : Nat → C3) : Prop := 1 ≤ len ∧ len ≤ 20 ∧ ∀ i, i < len → curB (c i) = true ∧ hasB i c (c i).code = false
open Classical in
noncomputable def cursB (len : Nat) (c : Nat → C3) : Bool := decide (cursP len c)
open Classical in
theorem cursB_t {len : Nat} {c : Nat → C3} (h : cursP len c) : cursB len c = true := by unfold cursB; exact decide_eq_true h
open Classical in
theorem cursB_f {len : Nat} {c : Nat → C3} (h : ¬ cursP len c) : cursB len c = false := by unfold cursB; exact decide_eq_false h

theorem code_eq {s t : ByteArray} {v : Bool} (b : Nat) (p q : Int) (w : World) (hd : CB w b #[.string t] 9) (hv : decide (s = t) = v) :
    Calls Try.prog 78 #[.agg #[.string s, .int .i64 p, .int .i64 q], .pointer (some ⟨b, 0, none⟩)] w fun e w' => e = .returned (.bool v) ∧ Below w.heap.size w w' := by
  have c0 := (hd.alloc (.cells #[.string s, .int .i64 p, .int .i64 q] 33 (0, 0))).cell 0
  simp at c0
  clear hd
  subst hv
  go_enter Try.func78, Try.ntmps78
  go_wp2
  go_returns
  refine ⟨ret_bool ?_, by go_grown⟩
  rw [Bool.eq_iff_iff]
  simp only [beq_iff_eq, decide_eq_true_eq, ByteArray.toList_eq]
  constructor
  · intro h
    exact ByteArray.ext (Array.toList_inj.1 h)
  · rintro rfl
    rfl

set_option maxHeartbeats 1000000 in
theorem indexCode_any (ad : Option Addr) (len cap : Nat) (c : Nat → C3) (s : ByteArray) (b : Nat) (w : World) (h : (len : Int) ≤ 20) (hr : CR w ad len c) (hd : CB w b #[.string s] 9) :
    Calls Try.prog 87 #[.slice ad len cap, .func (Fn.func 78) #[] #[.pointer (some ⟨b, 0, none⟩)]] w fun e w' => (∃ i : Int, e = .returned (.int .i64 i) ∧ ((0 ≤ i ∧ hasB len c s = true) ∨ (i < 0 ∧ hasB len c s = false))) ∧ Below w.heap.size w w' := by
  have HR : Hid (CR w ad len c) := hr
  have HD : Hid (CB w b #[.string s] 9) := hd
  clear hr hd
  go_enter Try.func87, Try.ntmps87
  go_wp2
  go_loopw [8] (fun i wr => ∃ k : Nat, k ≤ len ∧ i = .int .i64 (k : Int) ∧ Hid (∀ j, j < k → (c j).code ≠ s) ∧ Below w.heap.size w wr) (fun i _ => len - (intOf i).toNat)
  case atStart => exact ⟨0, Nat.zero_le _, rfl, fun j hj => by omega, Below.refl _ _⟩
  case round =>
    obtain ⟨k, hk, rfl, hP, hB⟩ := hrel
    by_cases hlt : k < len
    · obtain ⟨kb, off, rfl, _⟩ := HR.out.addr (by omega)
      obtain ⟨c1, c2, c3⟩ := (HR.out.below hB).cell hlt
      have HB : Hid (Below w.heap.size w wr) := hB
      have HC : Hid (CB wr b #[.string s] 9) := HD.out.below hB HD.out.lt
      clear hB
      by_cases g : (c k).code = s
      · have HF : Hid (hasB len c s = true) := hasB_t ⟨k, hlt, g⟩
        have hv : Hid (decide ((c k).code = s) = true) := decide_eq_true g
        clear g
        go_wp2_with (go_at_call 78; refine (code_eq b _ _ _ HC.out hv.out).mono ?_; rintro e w1 ⟨rfl, b1⟩)
        go_returns
        exact ⟨⟨(k : Int), rfl, .inl ⟨by omega, HF.out⟩⟩, bel_on HB.out b1⟩
      · have HF : Hid (∀ j, j < k + 1 → (c j).code ≠ s) := fun j hj => by
          by_cases e : j = k
          · subst e; exact g
          · exact hP.out j (by omega)
        have hv : Hid (decide ((c k).code = s) = false) := decide_eq_false g
        clear g
        go_wp2_with (go_at_call 78; refine (code_eq b _ _ _ HC.out hv.out).mono ?_; rintro e w1 ⟨rfl, b1⟩)
        go_roundw
        case rel => exact ⟨k + 1, by omega, by go_num, HF, bel_on HB.out b1⟩
        case measure => simp [intOf]; omega
    · obtain rfl : k = len := by omega
      have HF : Hid (hasB k c s = false) := hasB_f fun ⟨j, h1, h2⟩ => hP.out j h1 h2
      have HB : Hid (Below w.heap.size w wr) := hB
      clear hB
      go_wp2
      go_returns
      exact ⟨⟨-1, rfl, .inr ⟨by omega, HF.out⟩⟩, HB.out⟩

theorem contains_any (ad : Option Addr) (len cap : Nat) (c : Nat → C3) (s : ByteArray) (b : Nat) (w : World) (h : (len : Int) ≤ 20) (hr : CR w ad len c) (hd : CB w b #[.string s] 9) :
    Calls Try.prog 77 #[.slice ad len cap, .func (Fn.func 78) #[] #[.pointer (some ⟨b, 0, none⟩)]] w fun e w' => e = .returned (.bool (hasB len c s)) ∧ Below w.heap.size w w' := by
  go_enter Try.func77, Try.ntmps77
  go_wp2_with (go_at_call 87; refine (indexCode_any _ _ _ c s b _ h hr hd).mono ?_; rintro e w1 ⟨⟨i, rfl, hi⟩, b1⟩; clear hr hd)
  go_returns
  refine ⟨ret_bool ?_, b1⟩
  rcases hi with ⟨h1, h2⟩ | ⟨h1, h2⟩
  · rw [h2]; simp; omega
  · rw [h2]; simp; omega

theorem hasCode_eq (ad : Option Addr) (len cap : Nat) (c : Nat → C3) (s : ByteArray) (w : World) (hr : CR w ad len c) (h : (len : Int) ≤ 20) (hs : s.size ≤ maxLen) {v : Bool} (hv : hasB len c s = v) :
    Calls Try.prog 52 #[.slice ad len cap, .string s] w fun e w' => e = .returned (.bool v) ∧ Below w.heap.size w w' := by
  subst hv
  go_enter Try.func52, Try.ntmps52
  go_wp2_with (go_at_call 77; refine (contains_any _ _ _ c s _ _ h (hr.alloc _) (CB.new _ _)).mono ?_; rintro e w1 ⟨rfl, b1⟩)
  go_returns
  exact ⟨rfl, bel_on ((Below.refl _ _).alloc (Nat.le_refl _) _) b1⟩

theorem isRight_eq {s : ByteArray} {p q : Int} {v : Bool} (w : World) (hs : s.size ≤ maxLen) (hv : curB ⟨s, p, q⟩ = v) :
    Calls Try.prog 47 #[.agg #[.string s, .int .i64 p, .int .i64 q]] w fun e w' => e = .returned (.bool v) ∧ Below w.heap.size w w' := hv ▸ isRight_any s p q w hs
theorem l3Cur_eq {s : ByteArray} {p q : Int} {v : Bool} (w : World) (hs : s.size ≤ maxLen) (hv : curB ⟨s, p, q⟩ = v) :
    Calls Try.prog 50 #[.agg #[.string s, .int .i64 p, .int .i64 q]] w fun e w' => e = .returned (.bool v) ∧ Below w.heap.size w w' := hv ▸ l3Cur_any s p q w hs

def cGood (c : Nat → C3) (i : Nat) : Prop := curB (c i) = true ∧ hasB i c (c i).code = false
theorem cursB_bad {len : Nat} {c : Nat → C3} {k : Nat} (hk : k < len) (h : ¬ cGood c k) : cursB len c = false := cursB_f fun H => h (H.2.2 k hk)
theorem cgood_step {c : Nat → C3} {k : Nat} (h : ∀ j, j < k → cGood c j) (hk : cGood c k) : ∀ j, j < k + 1 → cGood c j := fun j hj => by
  by_cases e : j = k
  · subst e; exact hk
  · exact h j (by omega)

set_option maxHeartbeats 4000000 in
theorem implCursOk_any (ad : Option Addr) (len cap : Nat) (c : Nat → C3) (w : World) (h : (len : Int) ≤ 1048576) (hcap : len ≤ cap) (hs : ∀ j, (c j).code.size ≤ maxLen) (hr : CR w ad len c) :
    Calls Try.prog 21 #[.slice ad len cap] w fun e w' => e = .returned (.bool (cursB len c)) ∧ Below w.heap.size w w' := by
  have HR : Hid (CR w ad len c) := hr
  have HS0 : Hid (∀ j, (c j).code.size ≤ maxLen) := hs
  clear hr hs
  cases hm : inB (len : Int) 1 20
  · have HF : Hid (cursB len c = false) := cursB_f fun H => by have := inB_t (x := (len : Int)) (lo := 1) (hi := 20) (by have := H.1; omega) (by have := H.2.1; omega); rw [this] at hm; cases hm
    go_enter Try.func21, Try.ntmps21
    go_wp2_with (go_at_call 51; refine (isCurCount_any _ _).mono ?_; rintro e w1 ⟨rfl, ew⟩; replace ew := ew.symm; subst ew)
    go_returns
    exact ⟨ret_bool HF.out.symm, by go_grown⟩
  have hm3 := inB_iff.1 hm
  have hcap2 : (len : Int) ≤ (cap : Int) := by omega
  go_enter Try.func21, Try.ntmps21
  go_wp2_with (go_at_call 51; refine (isCurCount_any _ _).mono ?_; rintro e w1 ⟨rfl, ew⟩; replace ew := ew.symm; subst ew)
  go_loopw [11] (fun i wr => ∃ k : Nat, k ≤ len ∧ i = .int .i64 (k : Int) ∧ Hid (∀ j, j < k → cGood c j) ∧ Below w.heap.size w wr) (fun i _ => len - (intOf i).toNat)
  case atStart => exact ⟨0, Nat.zero_le _, rfl, fun j hj => by omega, Below.refl _ _⟩
  case round =>
    obtain ⟨k, hk, rfl, HP, hB⟩ := hrel
    by_cases hlt : k < len
    · obtain ⟨kb, off, rfl, _⟩ := HR.out.addr (by omega)
      have RC := HR.out.below hB
      obtain ⟨xs, xp, xq, hx⟩ : ∃ a b d, c k = ⟨a, b, d⟩ := ⟨_, _, _, rfl⟩
      obtain ⟨c1, c2, c3⟩ := RC.cell hlt
      rw [hx] at c1 c2 c3
      simp only at c1 c2 c3
      have HX : Hid (c k = ⟨xs, xp, xq⟩) := hx
      have HS : Hid (∀ _ : Nat, xs.size ≤ maxLen) := fun _ => by have := HS0.out k; rw [hx] at this; exact this
      have hC := CB.new (w := wr) #[.string xs, .int .i64 xp, .int .i64 xq] 33
      have hB2 : Below w.heap.size w (wr.alloc (.cells #[.string xs, .int .i64 xp, .int .i64 xq] 33 (0, 0))).drew := (hB.alloc hB.size _).drew
      have hCR2 : CR (wr.alloc (.cells #[.string xs, .int .i64 xp, .int .i64 xq] 33 (0, 0))).drew (some ⟨kb, off, none⟩) len c := (RC.alloc _).drewN 1
      have hk2 : (k : Int) ≤ 20 := by omega
      have hk3 : (k : Int) ≤ (cap : Int) := by omega
      have hk4 : (0 : Int) ≤ (k : Int) := by omega
      clear hx hC
      cases hb : curB ⟨xs, xp, xq⟩
      · have HF : Hid (cursB len c = false) := cursB_bad hlt fun H => by have := H.1; rw [HX.out] at this; rw [hb] at this; cases this
        clear hB RC
        go_wp2
        refine wp_region_noPanic ?_
        refine wp_region_held_drew (S := fun w' => w'.cell? ⟨wr.heap.size, 0, none⟩ = some (.string xs) ∧ w'.cell? ⟨wr.heap.size, 1, none⟩ = some (.int .i64 xp) ∧ w'.cell? ⟨wr.heap.size, 2, none⟩ = some (.int .i64 xq) ∧ CR w' (some ⟨kb, off, none⟩) len c ∧ Below w.heap.size w w') (by kernel_rfl) ?_ (fun hHeld => ?_)
        · (try dsimp only); refine ⟨?_, ?_, ?_, ?_, ?_⟩ <;> first | assumption | (simp [*, World.cell?_alloc_some]; done)
        refine wpAnyH_take (i := 0) (oi := { dst := some 16, op := Go.Op.load 33 (Go.Operand.tmp 4), type := 33, pos := "l03_rates.go:42", after := #[], guard := none }) (v := ?_) rfl (by kernel_rfl) (by kernel_rfl) (by kernel_rfl) (fun _ _ _ h => h) (Or.inl ⟨by rfl, ?_⟩) (by assumption) ?_
        rotate_left
        · (intro w hSw; (try dsimp only at hSw); go_simp <;> try with_reducible rfl)
        try simp only [Act.put, List.setIfInBounds_toArray, List.set_cons_zero, List.set_cons_succ]
        refine wpAnyH_ready (rs := [1]) (by kernel_rfl) (by simp) ?_
        refine AllReadyH.cons (o := { dst := some 17, op := Go.Op.call { callee := Go.Callee.value (Go.Operand.func 47), args := #[Go.Operand.tmp 16], argTypes := #[33] }, type := 4, pos := "l03_rates.go:42", after := #[{ on := 0, ground := Go.Ground.data }], guard := none }) rfl (fun K hK => ?_) AllReadyH.nil
        go_simp
        (go_at_call 47; refine (isRight_eq _ (HS.out k) hb).mono ?_; rintro e w2 ⟨rfl, b2⟩; have q0 : w2.cell? ⟨wr.heap.size, 0, none⟩ = some (.string xs) := keep_cell b2 (by simp [*]); have q1 : w2.cell? ⟨wr.heap.size, 1, none⟩ = some (.int .i64 xp) := keep_cell b2 (by simp [*]); have q2 : w2.cell? ⟨wr.heap.size, 2, none⟩ = some (.int .i64 xq) := keep_cell b2 (by simp [*]); have q3 : CR w2 (some ⟨kb, off, none⟩) len c := CR.below (by assumption) b2; have q4 : Below w.heap.size w w2 := bel_on (by assumption) b2; clear b2)
        first | refine hK.out _ _ ?_ (fun hHeld => ?_) | (go_wp2_with fail; refine hK.out _ _ ?_ (fun hHeld => ?_))
        · (try dsimp only); refine ⟨?_, ?_, ?_, ?_, ?_⟩ <;> first | assumption | (simp [*, World.cell?_alloc_some]; done)
        clear hK K
        try simp only [Act.put, List.setIfInBounds_toArray, List.set_cons_zero, List.set_cons_succ]
        refine wpAnyH_take (i := 2) (oi := { dst := some 18, op := Go.Op.unOp Go.UnOp.not 4 (Go.Operand.tmp 17), type := 4, pos := "l03_rates.go:42", after := #[{ on := 1, ground := Go.Ground.data }], guard := none }) (v := ?_) rfl (by kernel_rfl) (by kernel_rfl) (by kernel_rfl) (fun _ _ _ h => h) (Or.inl ⟨by rfl, ?_⟩) (by assumption) ?_
        rotate_left
        · (intro w hSw; (try dsimp only at hSw); go_simp <;> try with_reducible rfl)
        try simp only [Act.put, List.setIfInBounds_toArray, List.set_cons_zero, List.set_cons_succ]
        refine wpAnyH_take (i := 3) (oi := { dst := some 19, op := Go.Op.move (Go.Operand.tmp 18), type := 4, pos := "l03_rates.go:42", after := #[{ on := 2, ground := Go.Ground.data }, { on := 1, ground := Go.Ground.chain }], guard := none }) (v := ?_) rfl (by kernel_rfl) (by kernel_rfl) (by kernel_rfl) (fun _ _ _ h => h) (Or.inl ⟨by rfl, ?_⟩) (by assumption) ?_
        rotate_left
        · (intro w hSw; (try dsimp only at hSw); go_simp <;> try with_reducible rfl)
        try simp only [Act.put, List.setIfInBounds_toArray, List.set_cons_zero, List.set_cons_succ]
        refine wpAnyH_take (i := 4) (oi := { dst := some 20, op := Go.Op.move (Go.Operand.tmp 0), type := 40, pos := "l03_rates.go:42", after := #[{ on := 3, ground := Go.Ground.guard }], guard := some (3, false) }) (v := undef) rfl (by kernel_rfl) (by kernel_rfl) (by kernel_rfl) (fun _ _ _ h => h) (Or.inr ⟨by rfl, rfl⟩) (by assumption) ?_
        try simp only [Act.put, List.setIfInBounds_toArray, List.set_cons_zero, List.set_cons_succ]
        refine wpAnyH_take (i := 5) (oi := { dst := some 21, op := Go.Op.move (Go.Operand.tmp 3), type := 3, pos := "l03_rates.go:42", after := #[{ on := 3, ground := Go.Ground.guard }], guard := some (3, false) }) (v := undef) rfl (by kernel_rfl) (by kernel_rfl) (by kernel_rfl) (fun _ _ _ h => h) (Or.inr ⟨by rfl, rfl⟩) (by assumption) ?_
        try simp only [Act.put, List.setIfInBounds_toArray, List.set_cons_zero, List.set_cons_succ]
        refine wpAnyH_take (i := 6) (oi := { dst := some 22, op := Go.Op.slice 40 (Go.Operand.tmp 20) none (some (Go.Operand.tmp 21)) none, type := 40, pos := "l03_rates.go:42", after := #[{ on := 4, ground := Go.Ground.data }, { on := 5, ground := Go.Ground.data }, { on := 3, ground := Go.Ground.guard }], guard := some (3, false) }) (v := undef) rfl (by kernel_rfl) (by kernel_rfl) (by kernel_rfl) (fun _ _ _ h => h) (Or.inr ⟨by rfl, rfl⟩) (by assumption) ?_
        try simp only [Act.put, List.setIfInBounds_toArray, List.set_cons_zero, List.set_cons_succ]
        refine wpAnyH_take (i := 7) (oi := { dst := some 23, op := Go.Op.fieldAddr 33 (Go.Operand.tmp 4) 0, type := 0, pos := "l03_rates.go:42", after := #[{ on := 3, ground := Go.Ground.guard }], guard := some (3, false) }) (v := undef) rfl (by kernel_rfl) (by kernel_rfl) (by kernel_rfl) (fun _ _ _ h => h) (Or.inr ⟨by rfl, rfl⟩) (by assumption) ?_
        try simp only [Act.put, List.setIfInBounds_toArray, List.set_cons_zero, List.set_cons_succ]
        refine wpAnyH_take (i := 8) (oi := { dst := some 24, op := Go.Op.load 9 (Go.Operand.tmp 23), type := 9, pos := "l03_rates.go:42", after := #[{ on := 7, ground := Go.Ground.data }, { on := 3, ground := Go.Ground.guard }], guard := some (3, false) }) (v := undef) rfl (by kernel_rfl) (by kernel_rfl) (by kernel_rfl) (fun _ _ _ h => h) (Or.inr ⟨by rfl, rfl⟩) (by assumption) ?_
        try simp only [Act.put, List.setIfInBounds_toArray, List.set_cons_zero, List.set_cons_succ]
        refine wpAnyH_take (i := 9) (oi := { dst := some 25, op := Go.Op.call { callee := Go.Callee.value (Go.Operand.func 52), args := #[Go.Operand.tmp 22, Go.Operand.tmp 24], argTypes := #[40, 9] }, type := 4, pos := "l03_rates.go:42", after := #[{ on := 6, ground := Go.Ground.data }, { on := 8, ground := Go.Ground.data }, { on := 3, ground := Go.Ground.chain }, { on := 3, ground := Go.Ground.guard }], guard := some (3, false) }) (v := undef) rfl (by kernel_rfl) (by kernel_rfl) (by kernel_rfl) (fun _ _ _ h => h) (Or.inr ⟨by rfl, rfl⟩) (by assumption) ?_
        try simp only [Act.put, List.setIfInBounds_toArray, List.set_cons_zero, List.set_cons_succ]
        refine wpAnyH_take (i := 10) (oi := { dst := some 26, op := Go.Op.pick (Go.Operand.tmp 19) (Go.Operand.const (Go.Value.bool true)) (Go.Operand.tmp 25), type := 4, pos := "l03_rates.go:42", after := #[{ on := 3, ground := Go.Ground.data }, { on := 9, ground := Go.Ground.data }], guard := none }) (v := ?_) rfl (by kernel_rfl) (by kernel_rfl) (by kernel_rfl) (fun _ _ _ h => h) (Or.inl ⟨by rfl, ?_⟩) (by assumption) ?_
        rotate_left
        · (intro w hSw; (try dsimp only at hSw); go_simp <;> try with_reducible rfl)
        try simp only [Act.put, List.setIfInBounds_toArray, List.set_cons_zero, List.set_cons_succ]
        refine wpAnyH_done (by kernel_rfl) ?_ _
        refine NoPanic.normal ?_
        go_wp2
        go_returns
        exact ⟨ret_bool HF.out.symm, q4⟩
      · cases hd : hasB k c xs
        · have HG : Hid (∀ j, j < k + 1 → cGood c j) := cgood_step HP.out ⟨by rw [HX.out]; exact hb, by rw [HX.out]; exact hd⟩
          clear hB RC
          go_wp2
          refine wp_region_noPanic ?_
          refine wp_region_held_drew (S := fun w' => w'.cell? ⟨wr.heap.size, 0, none⟩ = some (.string xs) ∧ w'.cell? ⟨wr.heap.size, 1, none⟩ = some (.int .i64 xp) ∧ w'.cell? ⟨wr.heap.size, 2, none⟩ = some (.int .i64 xq) ∧ CR w' (some ⟨kb, off, none⟩) len c ∧ Below w.heap.size w w') (by kernel_rfl) ?_ (fun hHeld => ?_)
          · (try dsimp only); refine ⟨?_, ?_, ?_, ?_, ?_⟩ <;> first | assumption | (simp [*, World.cell?_alloc_some]; done)
          refine wpAnyH_take (i := 0) (oi := { dst := some 16, op := Go.Op.load 33 (Go.Operand.tmp 4), type := 33, pos := "l03_rates.go:42", after := #[], guard := none }) (v := ?_) rfl (by kernel_rfl) (by kernel_rfl) (by kernel_rfl) (fun _ _ _ h => h) (Or.inl ⟨by rfl, ?_⟩) (by assumption) ?_
          rotate_left
          · (intro w hSw; (try dsimp only at hSw); go_simp <;> try with_reducible rfl)
          try simp only [Act.put, List.setIfInBounds_toArray, List.set_cons_zero, List.set_cons_succ]
          refine wpAnyH_ready (rs := [1]) (by kernel_rfl) (by simp) ?_
          refine AllReadyH.cons (o := { dst := some 17, op := Go.Op.call { callee := Go.Callee.value (Go.Operand.func 47), args := #[Go.Operand.tmp 16], argTypes := #[33] }, type := 4, pos := "l03_rates.go:42", after := #[{ on := 0, ground := Go.Ground.data }], guard := none }) rfl (fun K hK => ?_) AllReadyH.nil
          go_simp
          (go_at_call 47; refine (isRight_eq _ (HS.out k) hb).mono ?_; rintro e w2 ⟨rfl, b2⟩; have q0 : w2.cell? ⟨wr.heap.size, 0, none⟩ = some (.string xs) := keep_cell b2 (by simp [*]); have q1 : w2.cell? ⟨wr.heap.size, 1, none⟩ = some (.int .i64 xp) := keep_cell b2 (by simp [*]); have q2 : w2.cell? ⟨wr.heap.size, 2, none⟩ = some (.int .i64 xq) := keep_cell b2 (by simp [*]); have q3 : CR w2 (some ⟨kb, off, none⟩) len c := CR.below (by assumption) b2; have q4 : Below w.heap.size w w2 := bel_on (by assumption) b2; clear b2)
          first | refine hK.out _ _ ?_ (fun hHeld => ?_) | (go_wp2_with fail; refine hK.out _ _ ?_ (fun hHeld => ?_))
          · (try dsimp only); refine ⟨?_, ?_, ?_, ?_, ?_⟩ <;> first | assumption | (simp [*, World.cell?_alloc_some]; done)
          clear hK K
          try simp only [Act.put, List.setIfInBounds_toArray, List.set_cons_zero, List.set_cons_succ]
          refine wpAnyH_take (i := 2) (oi := { dst := some 18, op := Go.Op.unOp Go.UnOp.not 4 (Go.Operand.tmp 17), type := 4, pos := "l03_rates.go:42", after := #[{ on := 1, ground := Go.Ground.data }], guard := none }) (v := ?_) rfl (by kernel_rfl) (by kernel_rfl) (by kernel_rfl) (fun _ _ _ h => h) (Or.inl ⟨by rfl, ?_⟩) (by assumption) ?_
          rotate_left
          · (intro w hSw; (try dsimp only at hSw); go_simp <;> try with_reducible rfl)
          try simp only [Act.put, List.setIfInBounds_toArray, List.set_cons_zero, List.set_cons_succ]
          refine wpAnyH_take (i := 3) (oi := { dst := some 19, op := Go.Op.move (Go.Operand.tmp 18), type := 4, pos := "l03_rates.go:42", after := #[{ on := 2, ground := Go.Ground.data }, { on := 1, ground := Go.Ground.chain }], guard := none }) (v := ?_) rfl (by kernel_rfl) (by kernel_rfl) (by kernel_rfl) (fun _ _ _ h => h) (Or.inl ⟨by rfl, ?_⟩) (by assumption) ?_
          rotate_left
          · (intro w hSw; (try dsimp only at hSw); go_simp <;> try with_reducible rfl)
          try simp only [Act.put, List.setIfInBounds_toArray, List.set_cons_zero, List.set_cons_succ]
          refine wpAnyH_take (i := 4) (oi := { dst := some 20, op := Go.Op.move (Go.Operand.tmp 0), type := 40, pos := "l03_rates.go:42", after := #[{ on := 3, ground := Go.Ground.guard }], guard := some (3, false) }) (v := ?_) rfl (by kernel_rfl) (by kernel_rfl) (by kernel_rfl) (fun _ _ _ h => h) (Or.inl ⟨by rfl, ?_⟩) (by assumption) ?_
          rotate_left
          · (intro w hSw; (try dsimp only at hSw); go_simp <;> try with_reducible rfl)
          try simp only [Act.put, List.setIfInBounds_toArray, List.set_cons_zero, List.set_cons_succ]
          refine wpAnyH_take (i := 5) (oi := { dst := some 21, op := Go.Op.move (Go.Operand.tmp 3), type := 3, pos := "l03_rates.go:42", after := #[{ on := 3, ground := Go.Ground.guard }], guard := some (3, false) }) (v := ?_) rfl (by kernel_rfl) (by kernel_rfl) (by kernel_rfl) (fun _ _ _ h => h) (Or.inl ⟨by rfl, ?_⟩) (by assumption) ?_
          rotate_left
          · (intro w hSw; (try dsimp only at hSw); go_simp <;> try with_reducible rfl)
          try simp only [Act.put, List.setIfInBounds_toArray, List.set_cons_zero, List.set_cons_succ]
          refine wpAnyH_take (i := 6) (oi := { dst := some 22, op := Go.Op.slice 40 (Go.Operand.tmp 20) none (some (Go.Operand.tmp 21)) none, type := 40, pos := "l03_rates.go:42", after := #[{ on := 4, ground := Go.Ground.data }, { on := 5, ground := Go.Ground.data }, { on := 3, ground := Go.Ground.guard }], guard := some (3, false) }) (v := ?_) rfl (by kernel_rfl) (by kernel_rfl) (by kernel_rfl) (fun _ _ _ h => h) (Or.inl ⟨by rfl, ?_⟩) (by assumption) ?_
          rotate_left
          · (intro w hSw; (try dsimp only at hSw); go_simp <;> try with_reducible rfl)
          try simp only [Act.put, List.setIfInBounds_toArray, List.set_cons_zero, List.set_cons_succ]
          refine wpAnyH_take (i := 7) (oi := { dst := some 23, op := Go.Op.fieldAddr 33 (Go.Operand.tmp 4) 0, type := 0, pos := "l03_rates.go:42", after := #[{ on := 3, ground := Go.Ground.guard }], guard := some (3, false) }) (v := ?_) rfl (by kernel_rfl) (by kernel_rfl) (by kernel_rfl) (fun _ _ _ h => h) (Or.inl ⟨by rfl, ?_⟩) (by assumption) ?_
          rotate_left
          · (intro w hSw; (try dsimp only at hSw); go_simp <;> try with_reducible rfl)
          try simp only [Act.put, List.setIfInBounds_toArray, List.set_cons_zero, List.set_cons_succ]
          refine wpAnyH_take (i := 8) (oi := { dst := some 24, op := Go.Op.load 9 (Go.Operand.tmp 23), type := 9, pos := "l03_rates.go:42", after := #[{ on := 7, ground := Go.Ground.data }, { on := 3, ground := Go.Ground.guard }], guard := some (3, false) }) (v := ?_) rfl (by kernel_rfl) (by kernel_rfl) (by kernel_rfl) (fun _ _ _ h => h) (Or.inl ⟨by rfl, ?_⟩) (by assumption) ?_
          rotate_left
          · (intro w hSw; (try dsimp only at hSw); go_simp <;> try with_reducible rfl)
          try simp only [Act.put, List.setIfInBounds_toArray, List.set_cons_zero, List.set_cons_succ]
          refine wpAnyH_ready (rs := [9]) (by kernel_rfl) (by simp) ?_
          refine AllReadyH.cons (o := { dst := some 25, op := Go.Op.call { callee := Go.Callee.value (Go.Operand.func 52), args := #[Go.Operand.tmp 22, Go.Operand.tmp 24], argTypes := #[40, 9] }, type := 4, pos := "l03_rates.go:42", after := #[{ on := 6, ground := Go.Ground.data }, { on := 8, ground := Go.Ground.data }, { on := 3, ground := Go.Ground.chain }, { on := 3, ground := Go.Ground.guard }], guard := some (3, false) }) rfl (fun K hK => ?_) AllReadyH.nil
          go_simp
          (go_at_call 52; refine (hasCode_eq _ _ _ c _ _ (CR.mono q3 hk) hk2 (HS.out k) hd).mono ?_; rintro e w3 ⟨rfl, b3⟩; have p0 : w3.cell? ⟨wr.heap.size, 0, none⟩ = some (.string xs) := keep_cell b3 (by simp [*]); have p1 : w3.cell? ⟨wr.heap.size, 1, none⟩ = some (.int .i64 xp) := keep_cell b3 (by simp [*]); have p2 : w3.cell? ⟨wr.heap.size, 2, none⟩ = some (.int .i64 xq) := keep_cell b3 (by simp [*]); have p3 : CR w3 (some ⟨kb, off, none⟩) len c := CR.below (by assumption) b3; have p4 : Below w.heap.size w w3 := bel_on (by assumption) b3; clear b3)
          first | refine hK.out _ _ ?_ (fun hHeld => ?_) | (go_wp2_with fail; refine hK.out _ _ ?_ (fun hHeld => ?_))
          · (try dsimp only); refine ⟨?_, ?_, ?_, ?_, ?_⟩ <;> first | assumption | (simp [*, World.cell?_alloc_some]; done)
          clear hK K
          try simp only [Act.put, List.setIfInBounds_toArray, List.set_cons_zero, List.set_cons_succ]
          refine wpAnyH_take (i := 10) (oi := { dst := some 26, op := Go.Op.pick (Go.Operand.tmp 19) (Go.Operand.const (Go.Value.bool true)) (Go.Operand.tmp 25), type := 4, pos := "l03_rates.go:42", after := #[{ on := 3, ground := Go.Ground.data }, { on := 9, ground := Go.Ground.data }], guard := none }) (v := ?_) rfl (by kernel_rfl) (by kernel_rfl) (by kernel_rfl) (fun _ _ _ h => h) (Or.inl ⟨by rfl, ?_⟩) (by assumption) ?_
          rotate_left
          · (intro w hSw; (try dsimp only at hSw); go_simp <;> try with_reducible rfl)
          try simp only [Act.put, List.setIfInBounds_toArray, List.set_cons_zero, List.set_cons_succ]
          refine wpAnyH_done (by kernel_rfl) ?_ _
          refine NoPanic.normal ?_
          go_wp2
          go_roundw
          case rel => exact ⟨k + 1, by omega, by go_num, HG, p4⟩
          case measure => simp [intOf]; omega
        · have HF : Hid (cursB len c = false) := cursB_bad hlt fun H => by have := H.2; rw [HX.out] at this; simp only at this; rw [hd] at this; cases this
          clear hB RC
          go_wp2
          refine wp_region_noPanic ?_
          refine wp_region_held_drew (S := fun w' => w'.cell? ⟨wr.heap.size, 0, none⟩ = some (.string xs) ∧ w'.cell? ⟨wr.heap.size, 1, none⟩ = some (.int .i64 xp) ∧ w'.cell? ⟨wr.heap.size, 2, none⟩ = some (.int .i64 xq) ∧ CR w' (some ⟨kb, off, none⟩) len c ∧ Below w.heap.size w w') (by kernel_rfl) ?_ (fun hHeld => ?_)
          · (try dsimp only); refine ⟨?_, ?_, ?_, ?_, ?_⟩ <;> first | assumption | (simp [*, World.cell?_alloc_some]; done)
          refine wpAnyH_take (i := 0) (oi := { dst := some 16, op := Go.Op.load 33 (Go.Operand.tmp 4), type := 33, pos := "l03_rates.go:42", after := #[], guard := none }) (v := ?_) rfl (by kernel_rfl) (by kernel_rfl) (by kernel_rfl) (fun _ _ _ h => h) (Or.inl ⟨by rfl, ?_⟩) (by assumption) ?_
          rotate_left
          · (intro w hSw; (try dsimp only at hSw); go_simp <;> try with_reducible rfl)
          try simp only [Act.put, List.setIfInBounds_toArray, List.set_cons_zero, List.set_cons_succ]
          refine wpAnyH_ready (rs := [1]) (by kernel_rfl) (by simp) ?_
          refine AllReadyH.cons (o := { dst := some 17, op := Go.Op.call { callee := Go.Callee.value (Go.Operand.func 47), args := #[Go.Operand.tmp 16], argTypes := #[33] }, type := 4, pos := "l03_rates.go:42", after := #[{ on := 0, ground := Go.Ground.data }], guard := none }) rfl (fun K hK => ?_) AllReadyH.nil
          go_simp
          (go_at_call 47; refine (isRight_eq _ (HS.out k) hb).mono ?_; rintro e w2 ⟨rfl, b2⟩; have q0 : w2.cell? ⟨wr.heap.size, 0, none⟩ = some (.string xs) := keep_cell b2 (by simp [*]); have q1 : w2.cell? ⟨wr.heap.size, 1, none⟩ = some (.int .i64 xp) := keep_cell b2 (by simp [*]); have q2 : w2.cell? ⟨wr.heap.size, 2, none⟩ = some (.int .i64 xq) := keep_cell b2 (by simp [*]); have q3 : CR w2 (some ⟨kb, off, none⟩) len c := CR.below (by assumption) b2; have q4 : Below w.heap.size w w2 := bel_on (by assumption) b2; clear b2)
          first | refine hK.out _ _ ?_ (fun hHeld => ?_) | (go_wp2_with fail; refine hK.out _ _ ?_ (fun hHeld => ?_))
          · (try dsimp only); refine ⟨?_, ?_, ?_, ?_, ?_⟩ <;> first | assumption | (simp [*, World.cell?_alloc_some]; done)
          clear hK K
          try simp only [Act.put, List.setIfInBounds_toArray, List.set_cons_zero, List.set_cons_succ]
          refine wpAnyH_take (i := 2) (oi := { dst := some 18, op := Go.Op.unOp Go.UnOp.not 4 (Go.Operand.tmp 17), type := 4, pos := "l03_rates.go:42", after := #[{ on := 1, ground := Go.Ground.data }], guard := none }) (v := ?_) rfl (by kernel_rfl) (by kernel_rfl) (by kernel_rfl) (fun _ _ _ h => h) (Or.inl ⟨by rfl, ?_⟩) (by assumption) ?_
          rotate_left
          · (intro w hSw; (try dsimp only at hSw); go_simp <;> try with_reducible rfl)
          try simp only [Act.put, List.setIfInBounds_toArray, List.set_cons_zero, List.set_cons_succ]
          refine wpAnyH_take (i := 3) (oi := { dst := some 19, op := Go.Op.move (Go.Operand.tmp 18), type := 4, pos := "l03_rates.go:42", after := #[{ on := 2, ground := Go.Ground.data }, { on := 1, ground := Go.Ground.chain }], guard := none }) (v := ?_) rfl (by kernel_rfl) (by kernel_rfl) (by kernel_rfl) (fun _ _ _ h => h) (Or.inl ⟨by rfl, ?_⟩) (by assumption) ?_
          rotate_left
          · (intro w hSw; (try dsimp only at hSw); go_simp <;> try with_reducible rfl)
          try simp only [Act.put, List.setIfInBounds_toArray, List.set_cons_zero, List.set_cons_succ]
          refine wpAnyH_take (i := 4) (oi := { dst := some 20, op := Go.Op.move (Go.Operand.tmp 0), type := 40, pos := "l03_rates.go:42", after := #[{ on := 3, ground := Go.Ground.guard }], guard := some (3, false) }) (v := ?_) rfl (by kernel_rfl) (by kernel_rfl) (by kernel_rfl) (fun _ _ _ h => h) (Or.inl ⟨by rfl, ?_⟩) (by assumption) ?_
          rotate_left
          · (intro w hSw; (try dsimp only at hSw); go_simp <;> try with_reducible rfl)
          try simp only [Act.put, List.setIfInBounds_toArray, List.set_cons_zero, List.set_cons_succ]
          refine wpAnyH_take (i := 5) (oi := { dst := some 21, op := Go.Op.move (Go.Operand.tmp 3), type := 3, pos := "l03_rates.go:42", after := #[{ on := 3, ground := Go.Ground.guard }], guard := some (3, false) }) (v := ?_) rfl (by kernel_rfl) (by kernel_rfl) (by kernel_rfl) (fun _ _ _ h => h) (Or.inl ⟨by rfl, ?_⟩) (by assumption) ?_
          rotate_left
          · (intro w hSw; (try dsimp only at hSw); go_simp <;> try with_reducible rfl)
          try simp only [Act.put, List.setIfInBounds_toArray, List.set_cons_zero, List.set_cons_succ]
          refine wpAnyH_take (i := 6) (oi := { dst := some 22, op := Go.Op.slice 40 (Go.Operand.tmp 20) none (some (Go.Operand.tmp 21)) none, type := 40, pos := "l03_rates.go:42", after := #[{ on := 4, ground := Go.Ground.data }, { on := 5, ground := Go.Ground.data }, { on := 3, ground := Go.Ground.guard }], guard := some (3, false) }) (v := ?_) rfl (by kernel_rfl) (by kernel_rfl) (by kernel_rfl) (fun _ _ _ h => h) (Or.inl ⟨by rfl, ?_⟩) (by assumption) ?_
          rotate_left
          · (intro w hSw; (try dsimp only at hSw); go_simp <;> try with_reducible rfl)
          try simp only [Act.put, List.setIfInBounds_toArray, List.set_cons_zero, List.set_cons_succ]
          refine wpAnyH_take (i := 7) (oi := { dst := some 23, op := Go.Op.fieldAddr 33 (Go.Operand.tmp 4) 0, type := 0, pos := "l03_rates.go:42", after := #[{ on := 3, ground := Go.Ground.guard }], guard := some (3, false) }) (v := ?_) rfl (by kernel_rfl) (by kernel_rfl) (by kernel_rfl) (fun _ _ _ h => h) (Or.inl ⟨by rfl, ?_⟩) (by assumption) ?_
          rotate_left
          · (intro w hSw; (try dsimp only at hSw); go_simp <;> try with_reducible rfl)
          try simp only [Act.put, List.setIfInBounds_toArray, List.set_cons_zero, List.set_cons_succ]
          refine wpAnyH_take (i := 8) (oi := { dst := some 24, op := Go.Op.load 9 (Go.Operand.tmp 23), type := 9, pos := "l03_rates.go:42", after := #[{ on := 7, ground := Go.Ground.data }, { on := 3, ground := Go.Ground.guard }], guard := some (3, false) }) (v := ?_) rfl (by kernel_rfl) (by kernel_rfl) (by kernel_rfl) (fun _ _ _ h => h) (Or.inl ⟨by rfl, ?_⟩) (by assumption) ?_
          rotate_left
          · (intro w hSw; (try dsimp only at hSw); go_simp <;> try with_reducible rfl)
          try simp only [Act.put, List.setIfInBounds_toArray, List.set_cons_zero, List.set_cons_succ]
          refine wpAnyH_ready (rs := [9]) (by kernel_rfl) (by simp) ?_
          refine AllReadyH.cons (o := { dst := some 25, op := Go.Op.call { callee := Go.Callee.value (Go.Operand.func 52), args := #[Go.Operand.tmp 22, Go.Operand.tmp 24], argTypes := #[40, 9] }, type := 4, pos := "l03_rates.go:42", after := #[{ on := 6, ground := Go.Ground.data }, { on := 8, ground := Go.Ground.data }, { on := 3, ground := Go.Ground.chain }, { on := 3, ground := Go.Ground.guard }], guard := some (3, false) }) rfl (fun K hK => ?_) AllReadyH.nil
          go_simp
          (go_at_call 52; refine (hasCode_eq _ _ _ c _ _ (CR.mono q3 hk) hk2 (HS.out k) hd).mono ?_; rintro e w3 ⟨rfl, b3⟩; have p0 : w3.cell? ⟨wr.heap.size, 0, none⟩ = some (.string xs) := keep_cell b3 (by simp [*]); have p1 : w3.cell? ⟨wr.heap.size, 1, none⟩ = some (.int .i64 xp) := keep_cell b3 (by simp [*]); have p2 : w3.cell? ⟨wr.heap.size, 2, none⟩ = some (.int .i64 xq) := keep_cell b3 (by simp [*]); have p3 : CR w3 (some ⟨kb, off, none⟩) len c := CR.below (by assumption) b3; have p4 : Below w.heap.size w w3 := bel_on (by assumption) b3; clear b3)
          first | refine hK.out _ _ ?_ (fun hHeld => ?_) | (go_wp2_with fail; refine hK.out _ _ ?_ (fun hHeld => ?_))
          · (try dsimp only); refine ⟨?_, ?_, ?_, ?_, ?_⟩ <;> first | assumption | (simp [*, World.cell?_alloc_some]; done)
          clear hK K
          try simp only [Act.put, List.setIfInBounds_toArray, List.set_cons_zero, List.set_cons_succ]
          refine wpAnyH_take (i := 10) (oi := { dst := some 26, op := Go.Op.pick (Go.Operand.tmp 19) (Go.Operand.const (Go.Value.bool true)) (Go.Operand.tmp 25), type := 4, pos := "l03_rates.go:42", after := #[{ on := 3, ground := Go.Ground.data }, { on := 9, ground := Go.Ground.data }], guard := none }) (v := ?_) rfl (by kernel_rfl) (by kernel_rfl) (by kernel_rfl) (fun _ _ _ h => h) (Or.inl ⟨by rfl, ?_⟩) (by assumption) ?_
          rotate_left
          · (intro w hSw; (try dsimp only at hSw); go_simp <;> try with_reducible rfl)
          try simp only [Act.put, List.setIfInBounds_toArray, List.set_cons_zero, List.set_cons_succ]
          refine wpAnyH_done (by kernel_rfl) ?_ _
          refine NoPanic.normal ?_
          go_wp2
          go_returns
          exact ⟨ret_bool HF.out.symm, p4⟩
    · obtain rfl : k = len := by omega
      have HF : Hid (cursB k c = true) := cursB_t ⟨by omega, by omega, HP.out⟩
      have HB : Hid (Below w.heap.size w wr) := hB
      clear hB
      go_wp2
      go_returns
      exact ⟨ret_bool HF.out.symm, HB.out⟩

end Go.Proofs.Ytidhnmodedbmgaa
