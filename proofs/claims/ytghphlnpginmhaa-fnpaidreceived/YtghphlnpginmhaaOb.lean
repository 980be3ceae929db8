/- Orders: a line that is right, an order that is right; the program's and the model's OrderOk answer 'orB'. -/
import Derived.Test.YtghphlnpginmhaaOa
import Derived.Test.YtghphlnpginmhaaSm
import Derived.Deep.QuietTactic
namespace Go.Proofs.Ytghphlnpginmhaa
open Go.ChangeShapes Go.WideShapes Go.ChangeAt Go.RowKit
set_option linter.unusedVariables false
set_option linter.unusedSimpArgs false

/-- The lowest place from s on, of f places, at which p holds; -1 if there is none. -/
def fstF (p : Nat → Bool) : Nat → Nat → Int
  | 0, _ => -1
  | f + 1, s => if p s = true then (s : Int) else fstF p f (s + 1)
theorem fstF_hit {p : Nat → Bool} {len k : Nat} (hk : k < len) (h : p k = true) : fstF p (len - k) k = (k : Int) := by
  obtain ⟨f, hf⟩ : ∃ f, len - k = f + 1 := ⟨len - k - 1, by omega⟩
  rw [hf]; exact if_pos h
theorem fstF_miss {p : Nat → Bool} {len k : Nat} (hk : k < len) (h : p k = false) : fstF p (len - k) k = fstF p (len - (k + 1)) (k + 1) := by
  obtain ⟨f, hf⟩ : ∃ f, len - k = f + 1 := ⟨len - k - 1, by omega⟩
  rw [hf, show len - (k + 1) = f by omega]; exact if_neg (by rw [h]; decide)
theorem fstF_end {p : Nat → Bool} {k : Nat} : fstF p (k - k) k = -1 := by rw [Nat.sub_self]; rfl
theorem fstF_spec (p : Nat → Bool) : ∀ f s, (fstF p f s = -1 ∧ ∀ j, s ≤ j → j < s + f → p j = false) ∨ ∃ k : Nat, fstF p f s = (k : Int) ∧ s ≤ k ∧ k < s + f ∧ p k = true ∧ ∀ j, s ≤ j → j < k → p j = false
  | 0, s => .inl ⟨rfl, fun j h1 h2 => by omega⟩
  | f + 1, s => by
    cases h : p s
    · have e : fstF p (f + 1) s = fstF p f (s + 1) := if_neg (by rw [h]; decide)
      rcases fstF_spec p f (s + 1) with ⟨h1, h2⟩ | ⟨k, h1, h2, h3, h4, h5⟩
      · refine .inl ⟨e.trans h1, fun j g1 g2 => ?_⟩
        by_cases q : j = s
        · subst q; exact h
        · exact h2 j (by omega) (by omega)
      · refine .inr ⟨k, e.trans h1, by omega, by omega, h4, fun j g1 g2 => ?_⟩
        by_cases q : j = s
        · subst q; exact h
        · exact h5 j (by omega) g2
    · exact .inr ⟨s, if_pos h, by omega, by omega, h, fun j g1 g2 => by omega⟩

def OL3.val (r : OL3) : Value := .agg #[.string r.item, .int .i64 r.qty, .int .i64 r.price]
def olB (r : OL3) : Bool := nameB r.item && (inB r.qty 1 1000000 && inB r.price 0 100000)
def OrP (n : Nat) (c : Nat → OL3) : Prop := 1 ≤ n ∧ n ≤ 60 ∧ ∀ j, j < n → olB (c j) = true
open Classical in
noncomputable def orB (n : Nat) (c : Nat → OL3) : Bool := decide (OrP n c)
open Classical in
theorem orB_t {n : Nat} {c : Nat → OL3} (h : OrP n c) : orB n c = true := by unfold orB; exact decide_eq_true h
open Classical in
theorem orB_f {n : Nat} {c : Nat → OL3} (h : ¬ OrP n c) : orB n c = false := by unfold orB; exact decide_eq_false h
open Classical in
theorem orB_p {n : Nat} {c : Nat → OL3} (h : orB n c = true) : OrP n c := by unfold orB at h; exact of_decide_eq_true h
theorem orB_bad {n j : Nat} {c : Nat → OL3} (hj : j < n) (h : olB (c j) = false) : orB n c = false := orB_f fun H => by have := H.2.2 j hj; rw [h] at this; cases this
theorem olB_p {r : OL3} (h : olB r = true) : nameB r.item = true ∧ (1 ≤ r.qty ∧ r.qty ≤ 1000000) ∧ (0 ≤ r.price ∧ r.price ≤ 100000) := by
  unfold olB at h
  simp only [Bool.and_eq_true] at h
  exact ⟨h.1, inB_t h.2.1, inB_t h.2.2⟩

set_option maxRecDepth 20000 in
set_option maxHeartbeats 4000000 in
theorem olRight_any (r : OL3) (w : World) (hs : r.item.size ≤ maxLen) : Calls Try.prog 102 #[r.val] w fun e w' => e = .returned (.bool (olB r)) ∧ Below w.heap.size w w' := by
  obtain ⟨s, q, p⟩ := r
  have HS : Hid (s.size ≤ maxLen) := hs
  clear hs
  unfold OL3.val
  cases hn : nameB s
  · have HV : Hid (false = olB ⟨s, q, p⟩) := hid (by simp [olB, hn])
    go_enter Try.func102, Try.ntmps102
    go_wp2_with (first | (go_at_call 91; refine (implName_any _ _ HS.out).mono ?_; rintro e w1 ⟨rfl, rfl⟩) | (go_at_call 93; refine (isQtyA_any _ _).mono ?_; rintro e w1 ⟨rfl, rfl⟩) | (go_at_call 136; refine (isPrice_any _ _).mono ?_; rintro e w1 ⟨rfl, rfl⟩))
    go_returns
    exact ⟨ret_bool HV.out, by go_grown⟩
  cases hq : inB q 1 1000000
  · have HV : Hid (false = olB ⟨s, q, p⟩) := hid (by simp [olB, hn, hq])
    go_enter Try.func102, Try.ntmps102
    go_wp2_with (first | (go_at_call 91; refine (implName_any _ _ HS.out).mono ?_; rintro e w1 ⟨rfl, rfl⟩) | (go_at_call 93; refine (isQtyA_any _ _).mono ?_; rintro e w1 ⟨rfl, rfl⟩) | (go_at_call 136; refine (isPrice_any _ _).mono ?_; rintro e w1 ⟨rfl, rfl⟩))
    go_returns
    exact ⟨ret_bool HV.out, by go_grown⟩
  cases hp : inB p 0 100000
  · have HV : Hid (false = olB ⟨s, q, p⟩) := hid (by simp [olB, hn, hq, hp])
    go_enter Try.func102, Try.ntmps102
    go_wp2_with (first | (go_at_call 91; refine (implName_any _ _ HS.out).mono ?_; rintro e w1 ⟨rfl, rfl⟩) | (go_at_call 93; refine (isQtyA_any _ _).mono ?_; rintro e w1 ⟨rfl, rfl⟩) | (go_at_call 136; refine (isPrice_any _ _).mono ?_; rintro e w1 ⟨rfl, rfl⟩))
    go_returns
    exact ⟨ret_bool HV.out, by go_grown⟩
  have HV : Hid (true = olB ⟨s, q, p⟩) := hid (by simp [olB, hn, hq, hp])
  go_enter Try.func102, Try.ntmps102
  go_wp2_with (first | (go_at_call 91; refine (implName_any _ _ HS.out).mono ?_; rintro e w1 ⟨rfl, rfl⟩) | (go_at_call 93; refine (isQtyA_any _ _).mono ?_; rintro e w1 ⟨rfl, rfl⟩) | (go_at_call 136; refine (isPrice_any _ _).mono ?_; rintro e w1 ⟨rfl, rfl⟩))
  go_returns
  exact ⟨ret_bool HV.out, by go_grown⟩
theorem olRight_eq (r : OL3) (v : Bool) (w : World) (hs : r.item.size ≤ maxLen) (h : olB r = v) : Calls Try.prog 102 #[r.val] w fun e w' => e = .returned (.bool v) ∧ Below w.heap.size w w' := by
  subst h; exact olRight_any r w hs
theorem olWrong_eq (r : OL3) (v : Bool) (w : World) (hs : r.item.size ≤ maxLen) (h : olB r = v) : Calls Try.prog 101 #[r.val] w fun e w' => e = .returned (.bool (!v)) ∧ Below w.heap.size w w' := by
  have HV : Hid (olB r = v) := h
  have HS : Hid (r.item.size ≤ maxLen) := hs
  clear h hs
  obtain ⟨s, q, p⟩ := r
  unfold OL3.val
  go_enter Try.func101, Try.ntmps101
  go_wp2_with (go_at_call 102; refine (olRight_eq ⟨s, q, p⟩ _ _ HS.out HV.out).mono ?_; rintro e w1 ⟨rfl, b1⟩; have HB : Hid (Below w.heap.size w w1) := bel_on ((Below.refl _ _).alloc (Nat.le_refl _) _) b1; clear b1)
  go_returns
  exact ⟨rfl, HB.out⟩

set_option maxRecDepth 20000 in
set_option maxHeartbeats 2000000 in
theorem idxLine_any (ad : Option Addr) (len cap : Nat) (c : Nat → OL3) (w : World) (h : (len : Int) ≤ 1048576) (hs : ∀ j, (c j).item.size ≤ maxLen) (hr : OLr w ad len c) :
    Calls Try.prog 138 #[.slice ad len cap, .func (Fn.func 101) #[] #[]] w fun e w' => e = .returned (.int .i64 (fstF (fun j => !olB (c j)) len 0)) ∧ Below w.heap.size w w' := by
  have HR : Hid (OLr w ad len c) := hr
  have HS : Hid (∀ j, (c j).item.size ≤ maxLen) := hs
  clear hr hs
  go_enter Try.func138, Try.ntmps138
  go_wp2
  go_loopw [8] (fun i wr => ∃ k : Nat, k ≤ len ∧ i = .int .i64 (k : Int) ∧ Hid (fstF (fun j => !olB (c j)) (len - k) k = fstF (fun j => !olB (c j)) len 0) ∧ Hid (Below w.heap.size w wr)) (fun i _ => len - (intOf i).toNat)
  case atStart => exact ⟨0, Nat.zero_le _, rfl, rfl, Below.refl _ _⟩
  case round =>
    obtain ⟨k, hk, rfl, hP, HB⟩ := hrel
    by_cases hlt : k < len
    · have hlt2 : (k : Int) < (len : Int) := by omega
      obtain ⟨kb, off, rfl, _⟩ := HR.out.addr (by omega)
      obtain ⟨c0, c1, c2⟩ := (HR.out.below HB.out).cell hlt
      have HZ : Hid ((c k).item.size ≤ maxLen) := HS.out k
      cases g : olB (c k)
      · have HF : Hid (fstF (fun j => !olB (c j)) len 0 = (k : Int)) := hid (by rw [← hP.out]; exact fstF_hit hlt (by simp [g]))
        have HG : Hid (olB (c k) = false) := g
        clear g
        go_wp2_with (go_at_call 101; refine (olWrong_eq (c k) _ _ HZ.out HG.out).mono ?_; rintro e w1 ⟨rfl, b1⟩; have HB1 : Hid (Below w.heap.size w w1) := bel_on HB.out b1; clear b1)
        go_returns
        exact ⟨ret_i HF.out.symm, HB1.out⟩
      · have HF : Hid (fstF (fun j => !olB (c j)) (len - (k + 1)) (k + 1) = fstF (fun j => !olB (c j)) len 0) := hid (by rw [← hP.out]; exact (fstF_miss hlt (by simp [g])).symm)
        have HG : Hid (olB (c k) = true) := g
        clear g
        go_wp2_with (go_at_call 101; refine (olWrong_eq (c k) _ _ HZ.out HG.out).mono ?_; rintro e w1 ⟨rfl, b1⟩; have HB1 : Hid (Below w.heap.size w w1) := bel_on HB.out b1; clear b1)
        go_roundw
        case rel => exact ⟨k + 1, by omega, by go_num, HF, HB1⟩
        case measure => simp [intOf]; omega
    · obtain rfl : k = len := by omega
      have lkk : ¬ (k : Int) < (k : Int) := by omega
      have HF : Hid (fstF (fun j => !olB (c j)) k 0 = -1) := hid (by rw [← hP.out]; exact fstF_end)
      go_wp2
      go_returns
      exact ⟨ret_i HF.out.symm, HB.out⟩

theorem anyLine (ad : Option Addr) (len cap : Nat) (c : Nat → OL3) (v : Bool) (w : World) (h : (len : Int) ≤ 1048576) (hs : ∀ j, (c j).item.size ≤ maxLen) (hr : OLr w ad len c) (hv : decide (0 ≤ fstF (fun j => !olB (c j)) len 0) = v) :
    Calls Try.prog 100 #[.slice ad len cap, .func (Fn.func 101) #[] #[]] w fun e w' => e = .returned (.bool v) ∧ Below w.heap.size w w' := by
  have HC := idxLine_any ad len cap c w h hs hr
  obtain ⟨x, hx⟩ : ∃ x, fstF (fun j => !olB (c j)) len 0 = x := ⟨_, rfl⟩
  rw [hx] at HC hv
  have HC2 : Hid (Calls Try.prog 138 #[.slice ad len cap, .func (Fn.func 101) #[] #[]] w fun e w' => e = .returned (.int .i64 x) ∧ Below w.heap.size w w') := HC
  obtain ⟨fv, hf⟩ : ∃ f, Value.func (Fn.func 101) #[] #[] = f := ⟨_, rfl⟩
  rw [hf] at HC2 ⊢
  clear HC hr hx hf
  subst hv
  go_enter Try.func100, Try.ntmps100
  go_wp2_with (go_at_call 138; refine HC2.out.mono ?_; rintro e w1 ⟨rfl, b1⟩)
  all_goals go_returns
  all_goals exact ⟨rfl, b1⟩
theorem fst_orB {len : Nat} {c : Nat → OL3} (h1 : 1 ≤ len) (h6 : len ≤ 60) : orB len c = !decide (0 ≤ fstF (fun j => !olB (c j)) len 0) := by
  rcases fstF_spec (fun j => !olB (c j)) len 0 with ⟨h, g⟩ | ⟨k, h, _, hk, hp, _⟩
  · rw [h, orB_t ⟨h1, h6, fun j hj => by have := g j (by omega) (by omega); simpa using this⟩]; rfl
  · rw [h, orB_bad (j := k) (by omega) (by simpa using hp)]; simp

set_option maxRecDepth 20000 in
set_option maxHeartbeats 2000000 in
theorem implOrder_any (ad : Option Addr) (len cap : Nat) (c : Nat → OL3) (w : World) (h : (len : Int) ≤ 1048576) (hs : ∀ j, (c j).item.size ≤ maxLen) (hr : OLr w ad len c) :
    Calls Try.prog 36 #[.slice ad len cap] w fun e w' => e = .returned (.bool (orB len c)) ∧ Below w.heap.size w w' := by
  have HR : Hid (OLr w ad len c) := hr
  have HS : Hid (∀ j, (c j).item.size ≤ maxLen) := hs
  clear hr hs
  by_cases h1 : (len : Int) < 1
  · have HV : Hid (orB len c = false) := orB_f fun H => by have := H.1; omega
    go_enter Try.func36, Try.ntmps36
    go_wp2
    go_returns
    exact ⟨ret_bool HV.out.symm, Below.refl _ _⟩
  have g1 : (1 : Int) ≤ (len : Int) := by omega
  clear h1
  by_cases h6 : (60 : Int) < (len : Int)
  · have HV : Hid (orB len c = false) := orB_f fun H => by have := H.2.1; omega
    go_enter Try.func36, Try.ntmps36
    go_wp2
    go_returns
    exact ⟨ret_bool HV.out.symm, Below.refl _ _⟩
  have g6 : (len : Int) ≤ 60 := by omega
  clear h6
  obtain ⟨v, hv⟩ : ∃ v, decide (0 ≤ fstF (fun j => !olB (c j)) len 0) = v := ⟨_, rfl⟩
  have HV : Hid (orB len c = !v) := hid (by rw [fst_orB (by omega) (by omega), hv])
  have HW : Hid (decide (0 ≤ fstF (fun j => !olB (c j)) len 0) = v) := hv
  clear hv
  go_enter Try.func36, Try.ntmps36
  go_wp2_with (go_at_call 100; refine (anyLine ad len cap c v w h HS.out HR.out HW.out).mono ?_; rintro e w1 ⟨rfl, b1⟩)
  go_returns
  exact ⟨ret_bool HV.out.symm, b1⟩

set_option maxRecDepth 20000 in
set_option maxHeartbeats 8000000 in
theorem specOrder_any (ad : Option Addr) (len cap : Nat) (c : Nat → OL3) (w : World) (h : (len : Int) ≤ 1048576) (hs : ∀ j, (c j).item.size ≤ maxLen) (hr : OLr w ad len c) :
    Calls Try.prog 34 #[.slice ad len cap] w fun e w' => e = .returned (.bool (orB len c)) ∧ Below w.heap.size w w' := by
  have HR : Hid (OLr w ad len c) := hr
  have HS : Hid (∀ j, (c j).item.size ≤ maxLen) := hs
  clear hr hs
  cases hl : inB (len : Int) 1 60
  · have HV : Hid (orB len c = false) := hid (orB_f fun H => inB_f hl ⟨by have := H.1; omega, by have := H.2.1; omega⟩)
    go_enter Try.func34, Try.ntmps34
    go_wp2_with (go_at_call 67; refine (l1In_eq _ _ _ _ _ hl).mono ?_; rintro e w1 ⟨rfl, ew⟩; replace ew := ew.symm; subst ew)
    go_returns
    exact ⟨ret_bool HV.out.symm, Below.refl _ _⟩
  have hl2 := inB_t hl
  go_enter Try.func34, Try.ntmps34
  go_wp2_with (go_at_call 67; refine (l1In_eq _ _ _ _ _ hl).mono ?_; rintro e w1 ⟨rfl, ew⟩; replace ew := ew.symm; subst ew)
  clear hl
  go_loopw [3] (fun i wr => ∃ (k : Nat), k ≤ len ∧ i = .int .i64 (k : Int) ∧ Hid ((∀ j, j < k → olB (c j) = true) ∧ Below w.heap.size w wr)) (fun i _ => len - (intOf i).toNat)
  case atStart => exact ⟨0, Nat.zero_le _, rfl, fun j hj => by omega, Below.refl _ _⟩
  case round =>
    obtain ⟨k, hk, rfl, HH⟩ := hrel
    by_cases hlt : k < len
    · have hlt2 : (k : Int) < (len : Int) := by omega
      obtain ⟨kb, off, rfl, hkb⟩ := HR.out.addr (by omega)
      obtain ⟨c0, c1, c2⟩ := (HR.out.below HH.out.2).cell hlt
      obtain ⟨r, hr⟩ : ∃ r, c k = r := ⟨_, rfl⟩
      have HX : Hid (c k = r) := hr
      have HZ : Hid (r.item.size ≤ maxLen) := by have := HS.out k; rw [hr] at this; exact this
      rw [hr] at c0 c1 c2
      obtain ⟨s, q, p⟩ := r
      simp only at c0 c1 c2
      clear hr
      cases hn : nameB s
      · have HV : Hid (orB len c = false) := hid (orB_bad hlt (by rw [HX.out]; simp [olB, hn]))
        go_wp2_with (first | (go_at_call 86; refine (specName_any _ _ HZ.out).mono ?_; rintro e w1 ⟨rfl, rfl⟩) | (go_at_call 80; refine (l12Price_any _ _).mono ?_; rintro e w1 ⟨rfl, rfl⟩) | (go_at_call 67; refine (l1In_any _ _ _ _).mono ?_; rintro e w1 ⟨rfl, rfl⟩))
        go_returns
        exact ⟨ret_bool HV.out.symm, HH.out.2⟩
      cases hq : inB q 1 1000000
      · have HV : Hid (orB len c = false) := hid (orB_bad hlt (by rw [HX.out]; simp [olB, hn, hq]))
        go_wp2_with (first | (go_at_call 86; refine (specName_any _ _ HZ.out).mono ?_; rintro e w1 ⟨rfl, rfl⟩) | (go_at_call 80; refine (l12Price_any _ _).mono ?_; rintro e w1 ⟨rfl, rfl⟩) | (go_at_call 67; refine (l1In_any _ _ _ _).mono ?_; rintro e w1 ⟨rfl, rfl⟩))
        go_returns
        exact ⟨ret_bool HV.out.symm, HH.out.2⟩
      cases hp : inB p 0 100000
      · have HV : Hid (orB len c = false) := hid (orB_bad hlt (by rw [HX.out]; simp [olB, hn, hq, hp]))
        go_wp2_with (first | (go_at_call 86; refine (specName_any _ _ HZ.out).mono ?_; rintro e w1 ⟨rfl, rfl⟩) | (go_at_call 80; refine (l12Price_any _ _).mono ?_; rintro e w1 ⟨rfl, rfl⟩) | (go_at_call 67; refine (l1In_any _ _ _ _).mono ?_; rintro e w1 ⟨rfl, rfl⟩))
        go_returns
        exact ⟨ret_bool HV.out.symm, HH.out.2⟩
      have HG : Hid (∀ j, j < k + 1 → olB (c j) = true) := hid (fun j hj => by by_cases e : j = k; (subst e; rw [HX.out]; simp [olB, hn, hq, hp]); (exact HH.out.1 j (by omega)))
      go_wp2_with (first | (go_at_call 86; refine (specName_any _ _ HZ.out).mono ?_; rintro e w1 ⟨rfl, rfl⟩) | (go_at_call 80; refine (l12Price_any _ _).mono ?_; rintro e w1 ⟨rfl, rfl⟩) | (go_at_call 67; refine (l1In_any _ _ _ _).mono ?_; rintro e w1 ⟨rfl, rfl⟩))
      go_roundw
      case rel => exact ⟨k + 1, by omega, by go_num, HG.out, HH.out.2⟩
      case measure => simp [intOf]; omega
    · obtain rfl : k = len := by omega
      have lkk : ¬ (k : Int) < (k : Int) := by omega
      have HV : Hid (orB k c = true) := hid (orB_t ⟨by omega, by omega, HH.out.1⟩)
      go_wp2
      go_returns
      exact ⟨ret_bool HV.out.symm, HH.out.2⟩

end Go.Proofs.Ytghphlnpginmhaa
