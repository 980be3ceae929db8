/- Rows of whole numbers: the program's areAll over them, for prices and for quantities. -/
import Derived.Test.YtmbdeafpfdeigaaJb
import Derived.Test.YtmbdeafpfdeigaaRx
namespace Go.Proofs.Ytmbdeafpfdeigaa
open Go Go.ChangeShapes Go.WideShapes Go.ChangeAt Go.RowKit
set_option linter.unusedVariables false
set_option linter.unusedSimpArgs false

/-- Whether the first m lie from 0 to hi. -/
def rgB (hi : Int) (z : Nat → Int) : Nat → Bool
  | 0 => true
  | k + 1 => rgB hi z k && inB (z k) 0 hi
theorem rgB_p {hi : Int} {z : Nat → Int} : ∀ m, rgB hi z m = true → ∀ j, j < m → 0 ≤ z j ∧ z j ≤ hi
  | 0, _, j, hj => by omega
  | m + 1, h, j, hj => by
    simp only [rgB, Bool.and_eq_true] at h
    by_cases e : j = m
    · subst e; exact inB_t h.2
    · exact rgB_p m h.1 j (by omega)
theorem rgB_t {hi : Int} {z : Nat → Int} : ∀ m, (∀ j, j < m → inB (z j) 0 hi = true) → rgB hi z m = true
  | 0, _ => rfl
  | m + 1, h => by simp only [rgB, Bool.and_eq_true]; exact ⟨rgB_t m (fun j hj => h j (by omega)), h m (by omega)⟩
theorem rgB_f {hi : Int} {z : Nat → Int} {k : Nat} : ∀ m, k < m → inB (z k) 0 hi = false → rgB hi z m = false
  | 0, h, _ => by omega
  | m + 1, h, h1 => by
    by_cases e : k = m
    · subst e; simp [rgB, h1]
    · show (rgB hi z m && _) = false
      rw [rgB_f m (by omega) h1]; rfl
theorem rgB_congr {hi : Int} {z y : Nat → Int} : ∀ m, (∀ j, j < m → z j = y j) → rgB hi z m = rgB hi y m
  | 0, _ => rfl
  | m + 1, h => by simp only [rgB]; rw [rgB_congr m (fun j hj => h j (by omega)), h m (by omega)]
theorem fst_rgB {hi : Int} {z : Nat → Int} {m : Nat} : rgB hi z m = !decide (0 ≤ fstF (fun j => !inB (z j) 0 hi) m 0) := by
  rcases fstF_spec (fun j => !inB (z j) 0 hi) m 0 with ⟨h, g⟩ | ⟨k, h, _, hk, hp, _⟩
  · rw [h, rgB_t m (fun j hj => by have := g j (by omega) (by omega); simpa using this)]; rfl
  · rw [h, rgB_f (k := k) m (by omega) (by simpa using hp)]; simp

set_option maxRecDepth 20000 in
set_option maxHeartbeats 2000000 in
theorem notPr_eq (x : Int) (fb : Nat) (v : Bool) (w : World) (hf : w.cell? ⟨fb, 0, none⟩ = some (.func (.func 63) #[] #[])) (h : inB x 0 100000 = v) : Calls Try.prog 112 #[.int .i64 x, .pointer (some ⟨fb, 0, none⟩)] w fun e w' => e = .returned (.bool (!v)) ∧ w' = w := by
  have l1 := cell_lt hf
  go_enter Try.func112, Try.ntmps112
  go_wp2_with (go_at_call 63; refine (isPrice_eq _ _ _ h).mono ?_; rintro e w1 ⟨rfl, ew⟩; replace ew := ew.symm; subst ew)
  go_returns
  exact ⟨rfl, rfl⟩
set_option maxRecDepth 20000 in
set_option maxHeartbeats 2000000 in
theorem idxPr_any (ad : Option Addr) (len cap : Nat) (c : Nat → Int) (fb : Nat) (w : World) (hf : w.cell? ⟨fb, 0, none⟩ = some (.func (.func 63) #[] #[])) (h : (len : Int) ≤ 1048576) (hr : IR w ad len c) :
    Calls Try.prog 137 #[.slice ad len cap, .func (Fn.func 112) #[] #[.pointer (some ⟨fb, 0, none⟩)]] w fun e w' => e = .returned (.int .i64 (fstF (fun j => !inB (c j) 0 100000) len 0)) ∧ Below w.heap.size w w' := by
  have HR : Hid (IR w ad len c) := hr
  have HF0 : Hid (w.cell? ⟨fb, 0, none⟩ = some (.func (.func 63) #[] #[])) := hf
  clear hr hf
  go_enter Try.func137, Try.ntmps137
  go_wp2
  go_loopw [8] (fun i wr => ∃ k : Nat, k ≤ len ∧ i = .int .i64 (k : Int) ∧ Hid (fstF (fun j => !inB (c j) 0 100000) (len - k) k = fstF (fun j => !inB (c j) 0 100000) len 0) ∧ Hid (Below w.heap.size w wr)) (fun i _ => len - (intOf i).toNat)
  case atStart => exact ⟨0, Nat.zero_le _, rfl, rfl, Below.refl _ _⟩
  case round =>
    obtain ⟨k, hk, rfl, hP, HB⟩ := hrel
    by_cases hlt : k < len
    · have hlt2 : (k : Int) < (len : Int) := by omega
      obtain ⟨kb, off, rfl, _⟩ := HR.out.addr (by omega)
      have c0 := (HR.out.below HB.out).cell hlt
      obtain ⟨x, hx⟩ : ∃ x, c k = x := ⟨_, rfl⟩
      have HXE : Hid (c k = x) := hx
      rw [hx] at c0
      clear hx
      cases g : inB x 0 100000
      · have HF : Hid (fstF (fun j => !inB (c j) 0 100000) len 0 = (k : Int)) := hid (by rw [← hP.out]; exact fstF_hit hlt (by simp [HXE.out, g]))
        have HG : Hid (inB x 0 100000 = false) := g
        clear g
        go_wp2_with (go_at_call 112; refine (notPr_eq x fb _ _ (keep_cell HB.out HF0.out) HG.out).mono ?_; rintro e w1 ⟨rfl, ew⟩; replace ew := ew.symm; subst ew)
        go_returns
        exact ⟨ret_i HF.out.symm, HB.out⟩
      · have HF : Hid (fstF (fun j => !inB (c j) 0 100000) (len - (k + 1)) (k + 1) = fstF (fun j => !inB (c j) 0 100000) len 0) := hid (by rw [← hP.out]; exact (fstF_miss hlt (by simp [HXE.out, g])).symm)
        have HG : Hid (inB x 0 100000 = true) := g
        clear g
        go_wp2_with (go_at_call 112; refine (notPr_eq x fb _ _ (keep_cell HB.out HF0.out) HG.out).mono ?_; rintro e w1 ⟨rfl, ew⟩; replace ew := ew.symm; subst ew)
        go_roundw
        case rel => exact ⟨k + 1, by omega, by go_num, HF, HB⟩
        case measure => simp [intOf]; omega
    · obtain rfl : k = len := by omega
      have lkk : ¬ (k : Int) < (k : Int) := by omega
      have HF : Hid (fstF (fun j => !inB (c j) 0 100000) k 0 = -1) := hid (by rw [← hP.out]; exact fstF_end)
      go_wp2
      go_returns
      exact ⟨ret_i HF.out.symm, HB.out⟩
theorem anyPr (ad : Option Addr) (len cap : Nat) (c : Nat → Int) (fb : Nat) (v : Bool) (w : World) (hf : w.cell? ⟨fb, 0, none⟩ = some (.func (.func 63) #[] #[])) (h : (len : Int) ≤ 1048576) (hr : IR w ad len c) (hv : decide (0 ≤ fstF (fun j => !inB (c j) 0 100000) len 0) = v) :
    Calls Try.prog 111 #[.slice ad len cap, .func (Fn.func 112) #[] #[.pointer (some ⟨fb, 0, none⟩)]] w fun e w' => e = .returned (.bool v) ∧ Below w.heap.size w w' := by
  have HC := idxPr_any ad len cap c fb w hf h hr
  obtain ⟨x, hx⟩ : ∃ x, fstF (fun j => !inB (c j) 0 100000) len 0 = x := ⟨_, rfl⟩
  rw [hx] at HC hv
  have HC2 : Hid (Calls Try.prog 137 #[.slice ad len cap, .func (Fn.func 112) #[] #[.pointer (some ⟨fb, 0, none⟩)]] w fun e w' => e = .returned (.int .i64 x) ∧ Below w.heap.size w w') := HC
  obtain ⟨fv, hfv⟩ : ∃ f, Value.func (Fn.func 112) #[] #[.pointer (some ⟨fb, 0, none⟩)] = f := ⟨_, rfl⟩
  rw [hfv] at HC2 ⊢
  clear HC hr hx hfv hf
  subst hv
  go_enter Try.func111, Try.ntmps111
  go_wp2_with (go_at_call 137; refine HC2.out.mono ?_; rintro e w1 ⟨rfl, b1⟩)
  all_goals go_returns
  all_goals exact ⟨rfl, b1⟩
set_option maxRecDepth 20000 in
set_option maxHeartbeats 2000000 in
theorem allPr_eq (ad : Option Addr) (len cap : Nat) (c : Nat → Int) (v : Bool) (w : World) (h : (len : Int) ≤ 1048576) (hr : IR w ad len c) (hv : rgB 100000 c len = v) :
    Calls Try.prog 62 #[.slice ad len cap, .func (.func 63) #[] #[]] w fun e w' => e = .returned (.bool v) ∧ Below w.heap.size w w' := by
  have HR : Hid (IR w ad len c) := hr
  obtain ⟨x, hx⟩ : ∃ x, decide (0 ≤ fstF (fun j => !inB (c j) 0 100000) len 0) = x := ⟨_, rfl⟩
  have HV : Hid ((!x) = v) := hid (by rw [← hv, fst_rgB, hx])
  have HX : Hid (decide (0 ≤ fstF (fun j => !inB (c j) 0 100000) len 0) = x) := hx
  have HBL : Hid (Below w.heap.size w (w.alloc (.cells #[.func (.func 63) #[] #[]] 82 (0, 0)))) := (Below.refl _ _).alloc (Nat.le_refl _) _
  have HCF : Hid ((w.alloc (.cells #[.func (.func 63) #[] #[]] 82 (0, 0))).cell? ⟨w.heap.size, 0, none⟩ = some (.func (.func 63) #[] #[])) := ((CB.new (w := w) #[.func (.func 63) #[] #[]] 82).cell 0).trans rfl
  clear hr hv hx
  go_enter Try.func62, Try.ntmps62
  go_wp2_with (go_at_call 111; refine (anyPr ad len cap c w.heap.size x _ HCF.out h (HR.out.below HBL.out) HX.out).mono ?_; rintro e w1 ⟨rfl, b1⟩; have HB1 : Hid (Below w.heap.size w w1) := bel_on HBL.out b1; clear b1)
  go_returns
  exact ⟨ret_bool HV.out, HB1.out⟩

set_option maxRecDepth 20000 in
set_option maxHeartbeats 2000000 in
theorem notQt_eq (x : Int) (fb : Nat) (v : Bool) (w : World) (hf : w.cell? ⟨fb, 0, none⟩ = some (.func (.func 76) #[] #[])) (h : inB x 0 1000000 = v) : Calls Try.prog 112 #[.int .i64 x, .pointer (some ⟨fb, 0, none⟩)] w fun e w' => e = .returned (.bool (!v)) ∧ w' = w := by
  have l1 := cell_lt hf
  go_enter Try.func112, Try.ntmps112
  go_wp2_with (go_at_call 76; refine (isQty_eq _ _ _ h).mono ?_; rintro e w1 ⟨rfl, ew⟩; replace ew := ew.symm; subst ew)
  go_returns
  exact ⟨rfl, rfl⟩
set_option maxRecDepth 20000 in
set_option maxHeartbeats 2000000 in
theorem idxQt_any (ad : Option Addr) (len cap : Nat) (c : Nat → Int) (fb : Nat) (w : World) (hf : w.cell? ⟨fb, 0, none⟩ = some (.func (.func 76) #[] #[])) (h : (len : Int) ≤ 1048576) (hr : IR w ad len c) :
    Calls Try.prog 137 #[.slice ad len cap, .func (Fn.func 112) #[] #[.pointer (some ⟨fb, 0, none⟩)]] w fun e w' => e = .returned (.int .i64 (fstF (fun j => !inB (c j) 0 1000000) len 0)) ∧ Below w.heap.size w w' := by
  have HR : Hid (IR w ad len c) := hr
  have HF0 : Hid (w.cell? ⟨fb, 0, none⟩ = some (.func (.func 76) #[] #[])) := hf
  clear hr hf
  go_enter Try.func137, Try.ntmps137
  go_wp2
  go_loopw [8] (fun i wr => ∃ k : Nat, k ≤ len ∧ i = .int .i64 (k : Int) ∧ Hid (fstF (fun j => !inB (c j) 0 1000000) (len - k) k = fstF (fun j => !inB (c j) 0 1000000) len 0) ∧ Hid (Below w.heap.size w wr)) (fun i _ => len - (intOf i).toNat)
  case atStart => exact ⟨0, Nat.zero_le _, rfl, rfl, Below.refl _ _⟩
  case round =>
    obtain ⟨k, hk, rfl, hP, HB⟩ := hrel
    by_cases hlt : k < len
    · have hlt2 : (k : Int) < (len : Int) := by omega
      obtain ⟨kb, off, rfl, _⟩ := HR.out.addr (by omega)
      have c0 := (HR.out.below HB.out).cell hlt
      obtain ⟨x, hx⟩ : ∃ x, c k = x := ⟨_, rfl⟩
      have HXE : Hid (c k = x) := hx
      rw [hx] at c0
      clear hx
      cases g : inB x 0 1000000
      · have HF : Hid (fstF (fun j => !inB (c j) 0 1000000) len 0 = (k : Int)) := hid (by rw [← hP.out]; exact fstF_hit hlt (by simp [HXE.out, g]))
        have HG : Hid (inB x 0 1000000 = false) := g
        clear g
        go_wp2_with (go_at_call 112; refine (notQt_eq x fb _ _ (keep_cell HB.out HF0.out) HG.out).mono ?_; rintro e w1 ⟨rfl, ew⟩; replace ew := ew.symm; subst ew)
        go_returns
        exact ⟨ret_i HF.out.symm, HB.out⟩
      · have HF : Hid (fstF (fun j => !inB (c j) 0 1000000) (len - (k + 1)) (k + 1) = fstF (fun j => !inB (c j) 0 1000000) len 0) := hid (by rw [← hP.out]; exact (fstF_miss hlt (by simp [HXE.out, g])).symm)
        have HG : Hid (inB x 0 1000000 = true) := g
        clear g
        go_wp2_with (go_at_call 112; refine (notQt_eq x fb _ _ (keep_cell HB.out HF0.out) HG.out).mono ?_; rintro e w1 ⟨rfl, ew⟩; replace ew := ew.symm; subst ew)
        go_roundw
        case rel => exact ⟨k + 1, by omega, by go_num, HF, HB⟩
        case measure => simp [intOf]; omega
    · obtain rfl : k = len := by omega
      have lkk : ¬ (k : Int) < (k : Int) := by omega
      have HF : Hid (fstF (fun j => !inB (c j) 0 1000000) k 0 = -1) := hid (by rw [← hP.out]; exact fstF_end)
      go_wp2
      go_returns
      exact ⟨ret_i HF.out.symm, HB.out⟩
theorem anyQt (ad : Option Addr) (len cap : Nat) (c : Nat → Int) (fb : Nat) (v : Bool) (w : World) (hf : w.cell? ⟨fb, 0, none⟩ = some (.func (.func 76) #[] #[])) (h : (len : Int) ≤ 1048576) (hr : IR w ad len c) (hv : decide (0 ≤ fstF (fun j => !inB (c j) 0 1000000) len 0) = v) :
    Calls Try.prog 111 #[.slice ad len cap, .func (Fn.func 112) #[] #[.pointer (some ⟨fb, 0, none⟩)]] w fun e w' => e = .returned (.bool v) ∧ Below w.heap.size w w' := by
  have HC := idxQt_any ad len cap c fb w hf h hr
  obtain ⟨x, hx⟩ : ∃ x, fstF (fun j => !inB (c j) 0 1000000) len 0 = x := ⟨_, rfl⟩
  rw [hx] at HC hv
  have HC2 : Hid (Calls Try.prog 137 #[.slice ad len cap, .func (Fn.func 112) #[] #[.pointer (some ⟨fb, 0, none⟩)]] w fun e w' => e = .returned (.int .i64 x) ∧ Below w.heap.size w w') := HC
  obtain ⟨fv, hfv⟩ : ∃ f, Value.func (Fn.func 112) #[] #[.pointer (some ⟨fb, 0, none⟩)] = f := ⟨_, rfl⟩
  rw [hfv] at HC2 ⊢
  clear HC hr hx hfv hf
  subst hv
  go_enter Try.func111, Try.ntmps111
  go_wp2_with (go_at_call 137; refine HC2.out.mono ?_; rintro e w1 ⟨rfl, b1⟩)
  all_goals go_returns
  all_goals exact ⟨rfl, b1⟩
set_option maxRecDepth 20000 in
set_option maxHeartbeats 2000000 in
theorem allQt_eq (ad : Option Addr) (len cap : Nat) (c : Nat → Int) (v : Bool) (w : World) (h : (len : Int) ≤ 1048576) (hr : IR w ad len c) (hv : rgB 1000000 c len = v) :
    Calls Try.prog 62 #[.slice ad len cap, .func (.func 76) #[] #[]] w fun e w' => e = .returned (.bool v) ∧ Below w.heap.size w w' := by
  have HR : Hid (IR w ad len c) := hr
  obtain ⟨x, hx⟩ : ∃ x, decide (0 ≤ fstF (fun j => !inB (c j) 0 1000000) len 0) = x := ⟨_, rfl⟩
  have HV : Hid ((!x) = v) := hid (by rw [← hv, fst_rgB, hx])
  have HX : Hid (decide (0 ≤ fstF (fun j => !inB (c j) 0 1000000) len 0) = x) := hx
  have HBL : Hid (Below w.heap.size w (w.alloc (.cells #[.func (.func 76) #[] #[]] 82 (0, 0)))) := (Below.refl _ _).alloc (Nat.le_refl _) _
  have HCF : Hid ((w.alloc (.cells #[.func (.func 76) #[] #[]] 82 (0, 0))).cell? ⟨w.heap.size, 0, none⟩ = some (.func (.func 76) #[] #[])) := ((CB.new (w := w) #[.func (.func 76) #[] #[]] 82).cell 0).trans rfl
  clear hr hv hx
  go_enter Try.func62, Try.ntmps62
  go_wp2_with (go_at_call 111; refine (anyQt ad len cap c w.heap.size x _ HCF.out h (HR.out.below HBL.out) HX.out).mono ?_; rintro e w1 ⟨rfl, b1⟩; have HB1 : Hid (Below w.heap.size w w1) := bel_on HBL.out b1; clear b1)
  go_returns
  exact ⟨ret_bool HV.out, HB1.out⟩
end Go.Proofs.Ytmbdeafpfdeigaa
