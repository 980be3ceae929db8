/- Parts of an item: the program's closures over them; areParts answers 'apB'. -/
import Derived.Test.YtmbdeafpfdeigaaJa
namespace Go.Proofs.Ytmbdeafpfdeigaa
open Go.ChangeShapes Go.WideShapes Go.ChangeAt Go.RowKit
set_option linter.unusedVariables false
set_option linter.unusedSimpArgs false

/-- The lowest place from s on, of f places, at which p holds; -1 if there is none. -/
def fstF (p : Nat → Bool) : Nat → Nat → Int
  | 0, _ => -1
  | f + 1, s => if p s = true then (s : Int) else fstF p f (s + 1)
theorem fstF_hit {p : Nat → Bool} {len k : Nat} (hk : k < len) (h : p k = true) : fstF p (len - k) k = (k : Int) := by
  obtain ⟨f, hf⟩ : ∃ f, len - k = f + 1 := ⟨len - k - 1, by omega⟩
  rw [hf]; exact if_pos h
theorem fstF_miss {p : Nat → Bool} {len k : Nat} (hk : k < len) (h : p k = false) : fstF p (len - k) k = fstF p (len - (k + 1)) (k + 1) := by
  obtain ⟨f, hf⟩ : ∃ f, len - k = f + 1 := ⟨len - k - 1, by omega⟩
  rw [hf, show len - (k + 1) = f by omega]; exact if_neg (by rw [h]; decide)
theorem fstF_end {p : Nat → Bool} {k : Nat} : fstF p (k - k) k = -1 := by rw [Nat.sub_self]; rfl
theorem fstF_spec (p : Nat → Bool) : ∀ f s, (fstF p f s = -1 ∧ ∀ j, s ≤ j → j < s + f → p j = false) ∨ ∃ k : Nat, fstF p f s = (k : Int) ∧ s ≤ k ∧ k < s + f ∧ p k = true ∧ ∀ j, s ≤ j → j < k → p j = false
  | 0, s => .inl ⟨rfl, fun j h1 h2 => by omega⟩
  | f + 1, s => by
    cases h : p s
    · have e : fstF p (f + 1) s = fstF p f (s + 1) := if_neg (by rw [h]; decide)
      rcases fstF_spec p f (s + 1) with ⟨h1, h2⟩ | ⟨k, h1, h2, h3, h4, h5⟩
      · refine .inl ⟨e.trans h1, fun j g1 g2 => ?_⟩
        by_cases q : j = s
        · subst q; exact h
        · exact h2 j (by omega) (by omega)
      · refine .inr ⟨k, e.trans h1, by omega, by omega, h4, fun j g1 g2 => ?_⟩
        by_cases q : j = s
        · subst q; exact h
        · exact h5 j (by omega) g2
    · exact .inr ⟨s, if_pos h, by omega, by omega, h, fun j g1 g2 => by omega⟩




/-- What comes out beside the item at o, among n. -/
def beB (o n : Int) (r : PA6) : Bool := paB o n r && (r.scr == 0) && (r.grp == 0)
def ApP (T : PA6 → Bool) (n : Nat) (c : Nat → PA6) : Prop := n ≤ 30 ∧ ∀ j, j < n → T (c j) = true
open Classical in
noncomputable def apB (T : PA6 → Bool) (n : Nat) (c : Nat → PA6) : Bool := decide (ApP T n c)
open Classical in
theorem apB_t {T : PA6 → Bool} {n : Nat} {c : Nat → PA6} (h : ApP T n c) : apB T n c = true := by unfold apB; exact decide_eq_true h
open Classical in
theorem apB_f {T : PA6 → Bool} {n : Nat} {c : Nat → PA6} (h : ¬ ApP T n c) : apB T n c = false := by unfold apB; exact decide_eq_false h
open Classical in
theorem apB_p {T : PA6 → Bool} {n : Nat} {c : Nat → PA6} (h : apB T n c = true) : ApP T n c := by unfold apB at h; exact of_decide_eq_true h
theorem apB_bad {T : PA6 → Bool} {n j : Nat} {c : Nat → PA6} (hj : j < n) (h : T (c j) = false) : apB T n c = false := apB_f fun H => by have := H.2 j hj; rw [h] at this; cases this
theorem fst_apB {T : PA6 → Bool} {len : Nat} {c : Nat → PA6} (h6 : len ≤ 30) : apB T len c = !decide (0 ≤ fstF (fun j => !T (c j)) len 0) := by
  rcases fstF_spec (fun j => !T (c j)) len 0 with ⟨h, g⟩ | ⟨k, h, _, hk, hp, _⟩
  · rw [h, apB_t ⟨h6, fun j hj => by have := g j (by omega) (by omega); simpa using this⟩]; rfl
  · rw [h, apB_bad (j := k) (by omega) (by simpa using hp)]; simp
theorem cell_lt {w : World} {b o : Nat} {v : Value} (h : w.cell? ⟨b, o, none⟩ = some v) : b < w.heap.size := by
  simp only [World.cell?] at h
  cases hh : w.heap[b]? with
  | none => simp [hh] at h
  | some o => exact lt_of_block hh
def EP (W : World) (pb qb : Nat) (o n : Int) : Prop := W.cell? ⟨pb, 0, none⟩ = some (.int .i64 o) ∧ W.cell? ⟨qb, 0, none⟩ = some (.int .i64 n)
theorem EP.below {W W' : World} {pb qb : Nat} {o n : Int} (h : EP W pb qb o n) (b : Below W.heap.size W W') : EP W' pb qb o n := ⟨keep_cell b h.1, keep_cell b h.2⟩
def EQ (W : World) (vb pb qb : Nat) (o n : Int) : Prop := W.cell? ⟨vb, 0, none⟩ = some (.func (.func 126) #[] #[.pointer (some ⟨pb, 0, none⟩), .pointer (some ⟨qb, 0, none⟩)]) ∧ EP W pb qb o n
theorem EQ.below {W W' : World} {vb pb qb : Nat} {o n : Int} (h : EQ W vb pb qb o n) (b : Below W.heap.size W W') : EQ W' vb pb qb o n := ⟨keep_cell b h.1, h.2.below b⟩
/-- Places among so many. -/
def OnB (o n : Int) : Prop := 0 ≤ o ∧ o ≤ 1048576 ∧ 0 ≤ n ∧ n ≤ 1048576

set_option maxRecDepth 20000 in
set_option maxHeartbeats 2000000 in
theorem isPart_eq (r : PA6) (pb qb : Nat) (o n : Int) (v : Bool) (w : World) (hb : OnB o n) (E : EP w pb qb o n) (h : paB o n r = v) : Calls Try.prog 126 #[r.val, .pointer (some ⟨pb, 0, none⟩), .pointer (some ⟨qb, 0, none⟩)] w fun e w' => e = .returned (.bool v) ∧ Below w.heap.size w w' := by
  have HV : Hid (paB o n r = v) := h
  have HBL : Hid (Below w.heap.size w (w.alloc (.cells #[.int .i64 r.item, .int .i64 r.qty, .int .i64 r.scr, .int .i64 r.fst, .int .i64 r.lst, .int .i64 r.grp] 28 (0, 0)))) := (Below.refl _ _).alloc (Nat.le_refl _) _
  have e1 := E.1
  have e2 := E.2
  have l1 := cell_lt e1
  have l2 := cell_lt e2
  clear h E
  obtain ⟨it, qt, sc, fs, la, gr⟩ := r
  unfold PA6.val
  go_enter Try.func126, Try.ntmps126
  go_wp2_with (go_at_call 127; refine (paRight_eq ⟨it, qt, sc, fs, la, gr⟩ _ _ _ _ hb.1 hb.2.1 hb.2.2.1 hb.2.2.2 HV.out).mono ?_; rintro e w1 ⟨rfl, b1⟩; have HB1 : Hid (Below w.heap.size w w1) := bel_on HBL.out b1; clear b1)
  go_returns
  exact ⟨rfl, HB1.out⟩
set_option maxRecDepth 20000 in
set_option maxHeartbeats 2000000 in
theorem isBeside_eq (r : PA6) (vb pb qb : Nat) (o n : Int) (v : Bool) (w : World) (hb : OnB o n) (E : EQ w vb pb qb o n) (h : beB o n r = v) : Calls Try.prog 128 #[r.val, .pointer (some ⟨vb, 0, none⟩)] w fun e w' => e = .returned (.bool v) ∧ Below w.heap.size w w' := by
  have HBL : Hid (Below w.heap.size w (w.alloc (.cells #[.int .i64 r.item, .int .i64 r.qty, .int .i64 r.scr, .int .i64 r.fst, .int .i64 r.lst, .int .i64 r.grp] 28 (0, 0)))) := (Below.refl _ _).alloc (Nat.le_refl _) _
  have e1 := E.1
  have l1 := cell_lt e1
  have HE : Hid (EP w pb qb o n) := E.2
  clear E
  subst h
  obtain ⟨it, qt, sc, fs, la, gr⟩ := r
  unfold PA6.val
  have HC : Hid (CB (w.alloc (.cells #[.int .i64 it, .int .i64 qt, .int .i64 sc, .int .i64 fs, .int .i64 la, .int .i64 gr] 28 (0, 0))) w.heap.size #[.int .i64 it, .int .i64 qt, .int .i64 sc, .int .i64 fs, .int .i64 la, .int .i64 gr] 28) := CB.new _ _
  cases hp : paB o n ⟨it, qt, sc, fs, la, gr⟩
  · have HV : Hid (false = beB o n ⟨it, qt, sc, fs, la, gr⟩) := hid (by simp [beB, hp])
    have HP : Hid (paB o n ⟨it, qt, sc, fs, la, gr⟩ = false) := hp
    clear hp
    go_enter Try.func128, Try.ntmps128
    go_wp2_with (go_at_call 126; refine (isPart_eq ⟨it, qt, sc, fs, la, gr⟩ pb qb o n _ _ hb (HE.out.below ((Below.refl _ _).alloc (Nat.le_refl _) _)) HP.out).mono ?_; rintro e w1 ⟨rfl, b1⟩; have HB1 : Hid (Below w.heap.size w w1) := bel_on HBL.out b1; clear b1)
    go_returns
    exact ⟨ret_bool HV.out, HB1.out⟩
  have HP : Hid (paB o n ⟨it, qt, sc, fs, la, gr⟩ = true) := hp
  cases h1 : (sc == 0)
  · have HV : Hid (false = beB o n ⟨it, qt, sc, fs, la, gr⟩) := hid (by simp [beB, hp, h1])
    clear hp
    go_enter Try.func128, Try.ntmps128
    go_wp2_with (go_at_call 126; refine (isPart_eq ⟨it, qt, sc, fs, la, gr⟩ pb qb o n _ _ hb (HE.out.below ((Below.refl _ _).alloc (Nat.le_refl _) _)) HP.out).mono ?_; rintro e w1 ⟨rfl, b1⟩; have HB1 : Hid (Below w.heap.size w w1) := bel_on HBL.out b1; have k2 : w1.cell? ⟨w.heap.size, 2, none⟩ = some (.int .i64 sc) := ((HC.out.below b1 HC.out.lt).cell 2).trans rfl; clear b1)
    go_returns
    exact ⟨ret_bool HV.out, HB1.out⟩
  have HV : Hid ((gr == 0) = beB o n ⟨it, qt, sc, fs, la, gr⟩) := hid (by simp [beB, hp, h1])
  clear hp
  go_enter Try.func128, Try.ntmps128
  go_wp2_with (go_at_call 126; refine (isPart_eq ⟨it, qt, sc, fs, la, gr⟩ pb qb o n _ _ hb (HE.out.below ((Below.refl _ _).alloc (Nat.le_refl _) _)) HP.out).mono ?_; rintro e w1 ⟨rfl, b1⟩; have HB1 : Hid (Below w.heap.size w w1) := bel_on HBL.out b1; have k2 : w1.cell? ⟨w.heap.size, 2, none⟩ = some (.int .i64 sc) := ((HC.out.below b1 HC.out.lt).cell 2).trans rfl; have k5 : w1.cell? ⟨w.heap.size, 5, none⟩ = some (.int .i64 gr) := ((HC.out.below b1 HC.out.lt).cell 5).trans rfl; clear b1)
  go_returns
  exact ⟨ret_bool HV.out, HB1.out⟩

set_option maxRecDepth 20000 in
set_option maxHeartbeats 2000000 in
theorem notPart_eq (r : PA6) (fb pb qb : Nat) (o n : Int) (v : Bool) (w : World) (hb : OnB o n) (hf : w.cell? ⟨fb, 0, none⟩ = some (.func (.func 126) #[] #[.pointer (some ⟨pb, 0, none⟩), .pointer (some ⟨qb, 0, none⟩)])) (E : EP w pb qb o n) (h : paB o n r = v) : Calls Try.prog 155 #[r.val, .pointer (some ⟨fb, 0, none⟩)] w fun e w' => e = .returned (.bool (!v)) ∧ Below w.heap.size w w' := by
  have HV : Hid (paB o n r = v) := h
  have HBL : Hid (Below w.heap.size w (w.alloc (.cells #[.int .i64 r.item, .int .i64 r.qty, .int .i64 r.scr, .int .i64 r.fst, .int .i64 r.lst, .int .i64 r.grp] 28 (0, 0)))) := (Below.refl _ _).alloc (Nat.le_refl _) _
  have HE : Hid (EP w pb qb o n) := E
  have l1 := cell_lt hf
  clear h E
  obtain ⟨it, qt, sc, fs, la, gr⟩ := r
  unfold PA6.val
  go_enter Try.func155, Try.ntmps155
  go_wp2_with (go_at_call 126; refine (isPart_eq ⟨it, qt, sc, fs, la, gr⟩ pb qb o n _ _ hb (HE.out.below ((Below.refl _ _).alloc (Nat.le_refl _) _)) HV.out).mono ?_; rintro e w1 ⟨rfl, b1⟩; have HB1 : Hid (Below w.heap.size w w1) := bel_on HBL.out b1; clear b1)
  go_returns
  exact ⟨rfl, HB1.out⟩
set_option maxRecDepth 20000 in
set_option maxHeartbeats 2000000 in
theorem idxPart_any (ad : Option Addr) (len cap : Nat) (c : Nat → PA6) (fb pb qb : Nat) (o n : Int) (w : World) (hb : OnB o n) (hf : w.cell? ⟨fb, 0, none⟩ = some (.func (.func 126) #[] #[.pointer (some ⟨pb, 0, none⟩), .pointer (some ⟨qb, 0, none⟩)])) (E : EP w pb qb o n) (h : (len : Int) ≤ 1048576) (hr : PAr w ad len c) :
    Calls Try.prog 163 #[.slice ad len cap, .func (Fn.func 155) #[] #[.pointer (some ⟨fb, 0, none⟩)]] w fun e w' => e = .returned (.int .i64 (fstF (fun j => !paB o n (c j)) len 0)) ∧ Below w.heap.size w w' := by
  have HR : Hid (PAr w ad len c) := hr
  have HF0 : Hid (w.cell? ⟨fb, 0, none⟩ = some (.func (.func 126) #[] #[.pointer (some ⟨pb, 0, none⟩), .pointer (some ⟨qb, 0, none⟩)]) ∧ EP w pb qb o n) := ⟨hf, E⟩
  clear hr hf E
  go_enter Try.func163, Try.ntmps163
  go_wp2
  go_loopw [8] (fun i wr => ∃ k : Nat, k ≤ len ∧ i = .int .i64 (k : Int) ∧ Hid (fstF (fun j => !paB o n (c j)) (len - k) k = fstF (fun j => !paB o n (c j)) len 0) ∧ Hid (Below w.heap.size w wr)) (fun i _ => len - (intOf i).toNat)
  case atStart => exact ⟨0, Nat.zero_le _, rfl, rfl, Below.refl _ _⟩
  case round =>
    obtain ⟨k, hk, rfl, hP, HB⟩ := hrel
    by_cases hlt : k < len
    · have hlt2 : (k : Int) < (len : Int) := by omega
      obtain ⟨kb, off, rfl, _⟩ := HR.out.addr (by omega)
      obtain ⟨c0, c1, c2, c3, c4, c5⟩ := (HR.out.below HB.out).cell hlt
      cases g : paB o n (c k)
      · have HF : Hid (fstF (fun j => !paB o n (c j)) len 0 = (k : Int)) := hid (by rw [← hP.out]; exact fstF_hit hlt (by simp [g]))
        have HG : Hid (paB o n (c k) = false) := g
        clear g
        go_wp2_with (go_at_call 155; refine (notPart_eq (c k) fb pb qb o n _ _ hb (keep_cell HB.out HF0.out.1) (HF0.out.2.below HB.out) HG.out).mono ?_; rintro e w1 ⟨rfl, b1⟩; have HB1 : Hid (Below w.heap.size w w1) := bel_on HB.out b1; clear b1)
        go_returns
        exact ⟨ret_i HF.out.symm, HB1.out⟩
      · have HF : Hid (fstF (fun j => !paB o n (c j)) (len - (k + 1)) (k + 1) = fstF (fun j => !paB o n (c j)) len 0) := hid (by rw [← hP.out]; exact (fstF_miss hlt (by simp [g])).symm)
        have HG : Hid (paB o n (c k) = true) := g
        clear g
        go_wp2_with (go_at_call 155; refine (notPart_eq (c k) fb pb qb o n _ _ hb (keep_cell HB.out HF0.out.1) (HF0.out.2.below HB.out) HG.out).mono ?_; rintro e w1 ⟨rfl, b1⟩; have HB1 : Hid (Below w.heap.size w w1) := bel_on HB.out b1; clear b1)
        go_roundw
        case rel => exact ⟨k + 1, by omega, by go_num, HF, HB1⟩
        case measure => simp [intOf]; omega
    · obtain rfl : k = len := by omega
      have lkk : ¬ (k : Int) < (k : Int) := by omega
      have HF : Hid (fstF (fun j => !paB o n (c j)) k 0 = -1) := hid (by rw [← hP.out]; exact fstF_end)
      go_wp2
      go_returns
      exact ⟨ret_i HF.out.symm, HB.out⟩
theorem anyPart (ad : Option Addr) (len cap : Nat) (c : Nat → PA6) (fb pb qb : Nat) (o n : Int) (v : Bool) (w : World) (hb : OnB o n) (hf : w.cell? ⟨fb, 0, none⟩ = some (.func (.func 126) #[] #[.pointer (some ⟨pb, 0, none⟩), .pointer (some ⟨qb, 0, none⟩)])) (E : EP w pb qb o n) (h : (len : Int) ≤ 1048576) (hr : PAr w ad len c) (hv : decide (0 ≤ fstF (fun j => !paB o n (c j)) len 0) = v) :
    Calls Try.prog 154 #[.slice ad len cap, .func (Fn.func 155) #[] #[.pointer (some ⟨fb, 0, none⟩)]] w fun e w' => e = .returned (.bool v) ∧ Below w.heap.size w w' := by
  have HC := idxPart_any ad len cap c fb pb qb o n w hb hf E h hr
  obtain ⟨x, hx⟩ : ∃ x, fstF (fun j => !paB o n (c j)) len 0 = x := ⟨_, rfl⟩
  rw [hx] at HC hv
  have HC2 : Hid (Calls Try.prog 163 #[.slice ad len cap, .func (Fn.func 155) #[] #[.pointer (some ⟨fb, 0, none⟩)]] w fun e w' => e = .returned (.int .i64 x) ∧ Below w.heap.size w w') := HC
  obtain ⟨fv, hfv⟩ : ∃ f, Value.func (Fn.func 155) #[] #[.pointer (some ⟨fb, 0, none⟩)] = f := ⟨_, rfl⟩
  rw [hfv] at HC2 ⊢
  clear HC hr hx hf hfv E
  subst hv
  go_enter Try.func154, Try.ntmps154
  go_wp2_with (go_at_call 163; refine HC2.out.mono ?_; rintro e w1 ⟨rfl, b1⟩)
  all_goals go_returns
  all_goals exact ⟨rfl, b1⟩
set_option maxRecDepth 20000 in
set_option maxHeartbeats 2000000 in
theorem allPart (ad : Option Addr) (len cap : Nat) (c : Nat → PA6) (pb qb : Nat) (o n : Int) (x : Bool) (w : World) (hb : OnB o n) (E : EP w pb qb o n) (h : (len : Int) ≤ 1048576) (hr : PAr w ad len c) (hx : decide (0 ≤ fstF (fun j => !paB o n (c j)) len 0) = x) :
    Calls Try.prog 147 #[.slice ad len cap, .func (.func 126) #[] #[.pointer (some ⟨pb, 0, none⟩), .pointer (some ⟨qb, 0, none⟩)]] w fun e w' => e = .returned (.bool (!x)) ∧ Below w.heap.size w w' := by
  have HR : Hid (PAr w ad len c) := hr
  have HE : Hid (EP w pb qb o n) := E
  have HBL : Hid (Below w.heap.size w (w.alloc (.cells #[.func (.func 126) #[] #[.pointer (some ⟨pb, 0, none⟩), .pointer (some ⟨qb, 0, none⟩)]] 125 (0, 0)))) := (Below.refl _ _).alloc (Nat.le_refl _) _
  have HCF : Hid ((w.alloc (.cells #[.func (.func 126) #[] #[.pointer (some ⟨pb, 0, none⟩), .pointer (some ⟨qb, 0, none⟩)]] 125 (0, 0))).cell? ⟨w.heap.size, 0, none⟩ = some (.func (.func 126) #[] #[.pointer (some ⟨pb, 0, none⟩), .pointer (some ⟨qb, 0, none⟩)])) := ((CB.new (w := w) #[.func (.func 126) #[] #[.pointer (some ⟨pb, 0, none⟩), .pointer (some ⟨qb, 0, none⟩)]] 125).cell 0).trans rfl
  have HX : Hid (decide (0 ≤ fstF (fun j => !paB o n (c j)) len 0) = x) := hx
  clear hr E hx
  go_enter Try.func147, Try.ntmps147
  go_wp2_with (go_at_call 154; refine (anyPart ad len cap c w.heap.size pb qb o n x _ hb HCF.out (HE.out.below HBL.out) h (HR.out.below HBL.out) HX.out).mono ?_; rintro e w1 ⟨rfl, b1⟩; have HB1 : Hid (Below w.heap.size w w1) := bel_on HBL.out b1; clear b1)
  go_returns
  exact ⟨rfl, HB1.out⟩
set_option maxRecDepth 20000 in
set_option maxHeartbeats 2000000 in
theorem arePart_eq (ad : Option Addr) (len cap : Nat) (c : Nat → PA6) (pb qb : Nat) (o n : Int) (v : Bool) (w : World) (hb : OnB o n) (E : EP w pb qb o n) (h : (len : Int) ≤ 1048576) (hr : PAr w ad len c) (hv : apB (paB o n) len c = v) :
    Calls Try.prog 129 #[.slice ad len cap, .func (.func 126) #[] #[.pointer (some ⟨pb, 0, none⟩), .pointer (some ⟨qb, 0, none⟩)]] w fun e w' => e = .returned (.bool v) ∧ Below w.heap.size w w' := by
  obtain ⟨x, hx⟩ : ∃ x, decide (0 ≤ fstF (fun j => !paB o n (c j)) len 0) = x := ⟨_, rfl⟩
  have HC : Hid (Calls Try.prog 147 #[.slice ad len cap, .func (.func 126) #[] #[.pointer (some ⟨pb, 0, none⟩), .pointer (some ⟨qb, 0, none⟩)]] w fun e w' => e = .returned (.bool (!x)) ∧ Below w.heap.size w w') := allPart ad len cap c pb qb o n x w hb E h hr hx
  obtain ⟨fv, hfv⟩ : ∃ f, (.func (.func 126) #[] #[.pointer (some ⟨pb, 0, none⟩), .pointer (some ⟨qb, 0, none⟩)] : Value) = f := ⟨_, rfl⟩
  rw [hfv] at HC ⊢
  clear hfv E hr
  subst hv
  by_cases h6 : (30 : Int) < (len : Int)
  · have HV : Hid (false = apB (paB o n) len c) := hid (apB_f fun H => by have := H.1; omega).symm
    have h7 : ¬ (len : Int) ≤ 30 := by omega
    clear HC hx
    go_enter Try.func129, Try.ntmps129
    go_wp2
    go_returns
    exact ⟨ret_bool HV.out, Below.refl _ _⟩
  have g6 : (len : Int) ≤ 30 := by omega
  have HV : Hid ((!x) = apB (paB o n) len c) := hid (by rw [fst_apB (by omega), hx])
  clear hx h6
  go_enter Try.func129, Try.ntmps129
  go_wp2_with (go_at_call 147; refine HC.out.mono ?_; rintro e w1 ⟨rfl, b1⟩; have HB1 : Hid (Below w.heap.size w w1) := b1; clear b1)
  go_returns
  exact ⟨ret_bool HV.out, HB1.out⟩


set_option maxRecDepth 20000 in
set_option maxHeartbeats 2000000 in
theorem notBes_eq (r : PA6) (fb vb pb qb : Nat) (o n : Int) (v : Bool) (w : World) (hb : OnB o n) (hf : w.cell? ⟨fb, 0, none⟩ = some (.func (.func 128) #[] #[.pointer (some ⟨vb, 0, none⟩)])) (E : EQ w vb pb qb o n) (h : beB o n r = v) : Calls Try.prog 155 #[r.val, .pointer (some ⟨fb, 0, none⟩)] w fun e w' => e = .returned (.bool (!v)) ∧ Below w.heap.size w w' := by
  have HV : Hid (beB o n r = v) := h
  have HBL : Hid (Below w.heap.size w (w.alloc (.cells #[.int .i64 r.item, .int .i64 r.qty, .int .i64 r.scr, .int .i64 r.fst, .int .i64 r.lst, .int .i64 r.grp] 28 (0, 0)))) := (Below.refl _ _).alloc (Nat.le_refl _) _
  have HE : Hid (EQ w vb pb qb o n) := E
  have l1 := cell_lt hf
  clear h E
  obtain ⟨it, qt, sc, fs, la, gr⟩ := r
  unfold PA6.val
  go_enter Try.func155, Try.ntmps155
  go_wp2_with (go_at_call 128; refine (isBeside_eq ⟨it, qt, sc, fs, la, gr⟩ vb pb qb o n _ _ hb (HE.out.below ((Below.refl _ _).alloc (Nat.le_refl _) _)) HV.out).mono ?_; rintro e w1 ⟨rfl, b1⟩; have HB1 : Hid (Below w.heap.size w w1) := bel_on HBL.out b1; clear b1)
  go_returns
  exact ⟨rfl, HB1.out⟩
set_option maxRecDepth 20000 in
set_option maxHeartbeats 2000000 in
theorem idxBes_any (ad : Option Addr) (len cap : Nat) (c : Nat → PA6) (fb vb pb qb : Nat) (o n : Int) (w : World) (hb : OnB o n) (hf : w.cell? ⟨fb, 0, none⟩ = some (.func (.func 128) #[] #[.pointer (some ⟨vb, 0, none⟩)])) (E : EQ w vb pb qb o n) (h : (len : Int) ≤ 1048576) (hr : PAr w ad len c) :
    Calls Try.prog 163 #[.slice ad len cap, .func (Fn.func 155) #[] #[.pointer (some ⟨fb, 0, none⟩)]] w fun e w' => e = .returned (.int .i64 (fstF (fun j => !beB o n (c j)) len 0)) ∧ Below w.heap.size w w' := by
  have HR : Hid (PAr w ad len c) := hr
  have HF0 : Hid (w.cell? ⟨fb, 0, none⟩ = some (.func (.func 128) #[] #[.pointer (some ⟨vb, 0, none⟩)]) ∧ EQ w vb pb qb o n) := ⟨hf, E⟩
  clear hr hf E
  go_enter Try.func163, Try.ntmps163
  go_wp2
  go_loopw [8] (fun i wr => ∃ k : Nat, k ≤ len ∧ i = .int .i64 (k : Int) ∧ Hid (fstF (fun j => !beB o n (c j)) (len - k) k = fstF (fun j => !beB o n (c j)) len 0) ∧ Hid (Below w.heap.size w wr)) (fun i _ => len - (intOf i).toNat)
  case atStart => exact ⟨0, Nat.zero_le _, rfl, rfl, Below.refl _ _⟩
  case round =>
    obtain ⟨k, hk, rfl, hP, HB⟩ := hrel
    by_cases hlt : k < len
    · have hlt2 : (k : Int) < (len : Int) := by omega
      obtain ⟨kb, off, rfl, _⟩ := HR.out.addr (by omega)
      obtain ⟨c0, c1, c2, c3, c4, c5⟩ := (HR.out.below HB.out).cell hlt
      cases g : beB o n (c k)
      · have HF : Hid (fstF (fun j => !beB o n (c j)) len 0 = (k : Int)) := hid (by rw [← hP.out]; exact fstF_hit hlt (by simp [g]))
        have HG : Hid (beB o n (c k) = false) := g
        clear g
        go_wp2_with (go_at_call 155; refine (notBes_eq (c k) fb vb pb qb o n _ _ hb (keep_cell HB.out HF0.out.1) (HF0.out.2.below HB.out) HG.out).mono ?_; rintro e w1 ⟨rfl, b1⟩; have HB1 : Hid (Below w.heap.size w w1) := bel_on HB.out b1; clear b1)
        go_returns
        exact ⟨ret_i HF.out.symm, HB1.out⟩
      · have HF : Hid (fstF (fun j => !beB o n (c j)) (len - (k + 1)) (k + 1) = fstF (fun j => !beB o n (c j)) len 0) := hid (by rw [← hP.out]; exact (fstF_miss hlt (by simp [g])).symm)
        have HG : Hid (beB o n (c k) = true) := g
        clear g
        go_wp2_with (go_at_call 155; refine (notBes_eq (c k) fb vb pb qb o n _ _ hb (keep_cell HB.out HF0.out.1) (HF0.out.2.below HB.out) HG.out).mono ?_; rintro e w1 ⟨rfl, b1⟩; have HB1 : Hid (Below w.heap.size w w1) := bel_on HB.out b1; clear b1)
        go_roundw
        case rel => exact ⟨k + 1, by omega, by go_num, HF, HB1⟩
        case measure => simp [intOf]; omega
    · obtain rfl : k = len := by omega
      have lkk : ¬ (k : Int) < (k : Int) := by omega
      have HF : Hid (fstF (fun j => !beB o n (c j)) k 0 = -1) := hid (by rw [← hP.out]; exact fstF_end)
      go_wp2
      go_returns
      exact ⟨ret_i HF.out.symm, HB.out⟩
theorem anyBes (ad : Option Addr) (len cap : Nat) (c : Nat → PA6) (fb vb pb qb : Nat) (o n : Int) (v : Bool) (w : World) (hb : OnB o n) (hf : w.cell? ⟨fb, 0, none⟩ = some (.func (.func 128) #[] #[.pointer (some ⟨vb, 0, none⟩)])) (E : EQ w vb pb qb o n) (h : (len : Int) ≤ 1048576) (hr : PAr w ad len c) (hv : decide (0 ≤ fstF (fun j => !beB o n (c j)) len 0) = v) :
    Calls Try.prog 154 #[.slice ad len cap, .func (Fn.func 155) #[] #[.pointer (some ⟨fb, 0, none⟩)]] w fun e w' => e = .returned (.bool v) ∧ Below w.heap.size w w' := by
  have HC := idxBes_any ad len cap c fb vb pb qb o n w hb hf E h hr
  obtain ⟨x, hx⟩ : ∃ x, fstF (fun j => !beB o n (c j)) len 0 = x := ⟨_, rfl⟩
  rw [hx] at HC hv
  have HC2 : Hid (Calls Try.prog 163 #[.slice ad len cap, .func (Fn.func 155) #[] #[.pointer (some ⟨fb, 0, none⟩)]] w fun e w' => e = .returned (.int .i64 x) ∧ Below w.heap.size w w') := HC
  obtain ⟨fv, hfv⟩ : ∃ f, Value.func (Fn.func 155) #[] #[.pointer (some ⟨fb, 0, none⟩)] = f := ⟨_, rfl⟩
  rw [hfv] at HC2 ⊢
  clear HC hr hx hf hfv E
  subst hv
  go_enter Try.func154, Try.ntmps154
  go_wp2_with (go_at_call 163; refine HC2.out.mono ?_; rintro e w1 ⟨rfl, b1⟩)
  all_goals go_returns
  all_goals exact ⟨rfl, b1⟩
set_option maxRecDepth 20000 in
set_option maxHeartbeats 2000000 in
theorem allBes (ad : Option Addr) (len cap : Nat) (c : Nat → PA6) (vb pb qb : Nat) (o n : Int) (x : Bool) (w : World) (hb : OnB o n) (E : EQ w vb pb qb o n) (h : (len : Int) ≤ 1048576) (hr : PAr w ad len c) (hx : decide (0 ≤ fstF (fun j => !beB o n (c j)) len 0) = x) :
    Calls Try.prog 147 #[.slice ad len cap, .func (.func 128) #[] #[.pointer (some ⟨vb, 0, none⟩)]] w fun e w' => e = .returned (.bool (!x)) ∧ Below w.heap.size w w' := by
  have HR : Hid (PAr w ad len c) := hr
  have HE : Hid (EQ w vb pb qb o n) := E
  have HBL : Hid (Below w.heap.size w (w.alloc (.cells #[.func (.func 128) #[] #[.pointer (some ⟨vb, 0, none⟩)]] 125 (0, 0)))) := (Below.refl _ _).alloc (Nat.le_refl _) _
  have HCF : Hid ((w.alloc (.cells #[.func (.func 128) #[] #[.pointer (some ⟨vb, 0, none⟩)]] 125 (0, 0))).cell? ⟨w.heap.size, 0, none⟩ = some (.func (.func 128) #[] #[.pointer (some ⟨vb, 0, none⟩)])) := ((CB.new (w := w) #[.func (.func 128) #[] #[.pointer (some ⟨vb, 0, none⟩)]] 125).cell 0).trans rfl
  have HX : Hid (decide (0 ≤ fstF (fun j => !beB o n (c j)) len 0) = x) := hx
  clear hr E hx
  go_enter Try.func147, Try.ntmps147
  go_wp2_with (go_at_call 154; refine (anyBes ad len cap c w.heap.size vb pb qb o n x _ hb HCF.out (HE.out.below HBL.out) h (HR.out.below HBL.out) HX.out).mono ?_; rintro e w1 ⟨rfl, b1⟩; have HB1 : Hid (Below w.heap.size w w1) := bel_on HBL.out b1; clear b1)
  go_returns
  exact ⟨rfl, HB1.out⟩
set_option maxRecDepth 20000 in
set_option maxHeartbeats 2000000 in
theorem areBes_eq (ad : Option Addr) (len cap : Nat) (c : Nat → PA6) (vb pb qb : Nat) (o n : Int) (v : Bool) (w : World) (hb : OnB o n) (E : EQ w vb pb qb o n) (h : (len : Int) ≤ 1048576) (hr : PAr w ad len c) (hv : apB (beB o n) len c = v) :
    Calls Try.prog 129 #[.slice ad len cap, .func (.func 128) #[] #[.pointer (some ⟨vb, 0, none⟩)]] w fun e w' => e = .returned (.bool v) ∧ Below w.heap.size w w' := by
  obtain ⟨x, hx⟩ : ∃ x, decide (0 ≤ fstF (fun j => !beB o n (c j)) len 0) = x := ⟨_, rfl⟩
  have HC : Hid (Calls Try.prog 147 #[.slice ad len cap, .func (.func 128) #[] #[.pointer (some ⟨vb, 0, none⟩)]] w fun e w' => e = .returned (.bool (!x)) ∧ Below w.heap.size w w') := allBes ad len cap c vb pb qb o n x w hb E h hr hx
  obtain ⟨fv, hfv⟩ : ∃ f, (.func (.func 128) #[] #[.pointer (some ⟨vb, 0, none⟩)] : Value) = f := ⟨_, rfl⟩
  rw [hfv] at HC ⊢
  clear hfv E hr
  subst hv
  by_cases h6 : (30 : Int) < (len : Int)
  · have HV : Hid (false = apB (beB o n) len c) := hid (apB_f fun H => by have := H.1; omega).symm
    have h7 : ¬ (len : Int) ≤ 30 := by omega
    clear HC hx
    go_enter Try.func129, Try.ntmps129
    go_wp2
    go_returns
    exact ⟨ret_bool HV.out, Below.refl _ _⟩
  have g6 : (len : Int) ≤ 30 := by omega
  have HV : Hid ((!x) = apB (beB o n) len c) := hid (by rw [fst_apB (by omega), hx])
  clear hx h6
  go_enter Try.func129, Try.ntmps129
  go_wp2_with (go_at_call 147; refine HC.out.mono ?_; rintro e w1 ⟨rfl, b1⟩; have HB1 : Hid (Below w.heap.size w w1) := b1; clear b1)
  go_returns
  exact ⟨ret_bool HV.out, HB1.out⟩

end Go.Proofs.Ytmbdeafpfdeigaa
