/- Rows of whole numbers: the program's areAll over them, for prices and for quantities. -/
import Derived.Test.YtmbdeafpfdeigaaJb
import Derived.Test.YtmbdeafpfdeigaaRx
import Derived.Test.YtmbdeafpfdeigaaKh
import Derived.Test.YtmbdeafpfdeigaaKl
import Derived.Test.YtmbdeafpfdeigaaLx
namespace Go.Proofs.Ytmbdeafpfdeigaa
open Go Go.ChangeShapes Go.WideShapes Go.ChangeAt Go.RowKit
set_option linter.unusedVariables false
set_option linter.unusedSimpArgs false

/-- Whether the first m lie from 0 to hi. -/
def rgB (hi : Int) (z : Nat → Int) : Nat → Bool
  | 0 => true
  | k + 1 => rgB hi z k && inB (z k) 0 hi
theorem rgB_p {hi : Int} {z : Nat → Int} : ∀ m, rgB hi z m = true → ∀ j, j < m → 0 ≤ z j ∧ z j ≤ hi
  | 0, _, j, hj => by omega
  | m + 1, h, j, hj => by
    simp only [rgB, Bool.and_eq_true] at h
    by_cases e : j = m
    · subst e; exact inB_t h.2
    · exact rgB_p m h.1 j (by omega)
theorem rgB_t {hi : Int} {z : Nat → Int} : ∀ m, (∀ j, j < m → inB (z j) 0 hi = true) → rgB hi z m = true
  | 0, _ => rfl
  | m + 1, h => by simp only [rgB, Bool.and_eq_true]; exact ⟨rgB_t m (fun j hj => h j (by omega)), h m (by omega)⟩
theorem rgB_f {hi : Int} {z : Nat → Int} {k : Nat} : ∀ m, k < m → inB (z k) 0 hi = false → rgB hi z m = false
  | 0, h, _ => by omega
  | m + 1, h, h1 => by
    by_cases e : k = m
    · subst e; simp [rgB, h1]
    · show (rgB hi z m && _) = false
      rw [rgB_f m (by omega) h1]; rfl
theorem rgB_congr {hi : Int} {z y : Nat → Int} : ∀ m, (∀ j, j < m → z j = y j) → rgB hi z m = rgB hi y m
  | 0, _ => rfl
  | m + 1, h => by simp only [rgB]; rw [rgB_congr m (fun j hj => h j (by omega)), h m (by omega)]
theorem fst_rgB {hi : Int} {z : Nat → Int} {m : Nat} : rgB hi z m = !decide (0 ≤ fstF (fun j => !inB (z j) 0 hi) m 0) := by
  rcases fstF_spec (fun j => !inB (z j) 0 hi) m 0 with ⟨h, g⟩ | ⟨k, h, _, hk, hp, _⟩
  · rw [h, rgB_t m (fun j hj => by have := g j (by omega) (by omega); simpa using this)]; rfl
  · rw [h, rgB_f (k := k) m (by omega) (by simpa using hp)]; simp

set_option maxRecDepth 20000 in
set_option maxHeartbeats 2000000 in
theorem notPr_eq (x : Int) (fb : Nat) (v : Bool) (w : World) (hf : w.cell? ⟨fb, 0, none⟩ = some (.func (.func 63) #[] #[])) (h : inB x 0 100000 = v) : Calls Try.prog 112 #[.int .i64 x, .pointer (some ⟨fb, 0, none⟩)] w fun e w' => e = .returned (.bool (!v)) ∧ w' = w := by
  have l1 := cell_lt hf
  go_enter Try.func112, Try.ntmps112
  go_wp2_with (go_at_call 63; refine (isPrice_eq _ _ _ h).mono ?_; rintro e w1 ⟨rfl, ew⟩; replace ew := ew.symm; subst ew)
  go_returns
  exact ⟨rfl, rfl⟩
set_option maxRecDepth 20000 in
set_option maxHeartbeats 2000000 in
theorem idxPr_any (ad : Option Addr) (len cap : Nat) (c : Nat → Int) (fb : Nat) (w : World) (hf : w.cell? ⟨fb, 0, none⟩ = some (.func (.func 63) #[] #[])) (h : (len : Int) ≤ 1048576) (hr : IR w ad len c) :
    Calls Try.prog 137 #[.slice ad len cap, .func (Fn.func 112) #[] #[.pointer (some ⟨fb, 0, none⟩)]] w fun e w' => e = .returned (.int .i64 (fstF (fun j => !inB (c j) 0 100000) len 0)) ∧ Below w.heap.size w w' := by
  have HR : Hid (IR w ad len c) := hr
  have HF0 : Hid (w.cell? ⟨fb, 0, none⟩ = some (.func (.func 63) #[] #[])) := hf
  clear hr hf
  go_enter Try.func137, Try.ntmps137
  go_wp2
  go_loopw [8] (fun i wr => ∃ k : Nat, k ≤ len ∧ i = .int .i64 (k : Int) ∧ Hid (fstF (fun j => !inB (c j) 0 100000) (len - k) k = fstF (fun j => !inB (c j) 0 100000) len 0) ∧ Hid (Below w.heap.size w wr)) (fun i _ => len - (intOf i).toNat)
  case atStart => exact ⟨0, Nat.zero_le _, rfl, rfl, Below.refl _ _⟩
  case round =>
    obtain ⟨k, hk, rfl, hP, HB⟩ := hrel
    by_cases hlt : k < len
    · have hlt2 : (k : Int) < (len : Int) := by omega
      obtain ⟨kb, off, rfl, _⟩ := HR.out.addr (by omega)
      have c0 := (HR.out.below HB.out).cell hlt
      obtain ⟨x, hx⟩ : ∃ x, c k = x := ⟨_, rfl⟩
      have HXE : Hid (c k = x) := hx
      rw [hx] at c0
      clear hx
      cases g : inB x 0 100000
      · have HF : Hid (fstF (fun j => !inB (c j) 0 100000) len 0 = (k : Int)) := hid (by rw [← hP.out]; exact fstF_hit hlt (by simp [HXE.out, g]))
        have HG : Hid (inB x 0 100000 = false) := g
        clear g
        go_wp2_with (go_at_call 112; refine (notPr_eq x fb _ _ (keep_cell HB.out HF0.out) HG.out).mono ?_; rintro e w1 ⟨rfl, ew⟩; replace ew := ew.symm; subst ew)
        go_returns
        exact ⟨ret_i HF.out.symm, HB.out⟩
      · have HF : Hid (fstF (fun j => !inB (c j) 0 100000) (len - (k + 1)) (k + 1) = fstF (fun j => !inB (c j) 0 100000) len 0) := hid (by rw [← hP.out]; exact (fstF_miss hlt (by simp [HXE.out, g])).symm)
        have HG : Hid (inB x 0 100000 = true) := g
        clear g
        go_wp2_with (go_at_call 112; refine (notPr_eq x fb _ _ (keep_cell HB.out HF0.out) HG.out).mono ?_; rintro e w1 ⟨rfl, ew⟩; replace ew := ew.symm; subst ew)
        go_roundw
        case rel => exact ⟨k + 1, by omega, by go_num, HF, HB⟩
        case measure => simp [intOf]; omega
    · obtain rfl : k = len := by omega
      have lkk : ¬ (k : Int) < (k : Int) := by omega
      have HF : Hid (fstF (fun j => !inB (c j) 0 100000) k 0 = -1) := hid (by rw [← hP.out]; exact fstF_end)
      go_wp2
      go_returns
      exact ⟨ret_i HF.out.symm, HB.out⟩
theorem anyPr (ad : Option Addr) (len cap : Nat) (c : Nat → Int) (fb : Nat) (v : Bool) (w : World) (hf : w.cell? ⟨fb, 0, none⟩ = some (.func (.func 63) #[] #[])) (h : (len : Int) ≤ 1048576) (hr : IR w ad len c) (hv : decide (0 ≤ fstF (fun j => !inB (c j) 0 100000) len 0) = v) :
    Calls Try.prog 111 #[.slice ad len cap, .func (Fn.func 112) #[] #[.pointer (some ⟨fb, 0, none⟩)]] w fun e w' => e = .returned (.bool v) ∧ Below w.heap.size w w' := by
  have HC := idxPr_any ad len cap c fb w hf h hr
  obtain ⟨x, hx⟩ : ∃ x, fstF (fun j => !inB (c j) 0 100000) len 0 = x := ⟨_, rfl⟩
  rw [hx] at HC hv
  have HC2 : Hid (Calls Try.prog 137 #[.slice ad len cap, .func (Fn.func 112) #[] #[.pointer (some ⟨fb, 0, none⟩)]] w fun e w' => e = .returned (.int .i64 x) ∧ Below w.heap.size w w') := HC
  obtain ⟨fv, hfv⟩ : ∃ f, Value.func (Fn.func 112) #[] #[.pointer (some ⟨fb, 0, none⟩)] = f := ⟨_, rfl⟩
  rw [hfv] at HC2 ⊢
  clear HC hr hx hfv hf
  subst hv
  go_enter Try.func111, Try.ntmps111
  go_wp2_with (go_at_call 137; refine HC2.out.mono ?_; rintro e w1 ⟨rfl, b1⟩)
  all_goals go_returns
  all_goals exact ⟨rfl, b1⟩
set_option maxRecDepth 20000 in
set_option maxHeartbeats 2000000 in
theorem allPr_eq (ad : Option Addr) (len cap : Nat) (c : Nat → Int) (v : Bool) (w : World) (h : (len : Int) ≤ 1048576) (hr : IR w ad len c) (hv : rgB 100000 c len = v) :
    Calls Try.prog 62 #[.slice ad len cap, .func (.func 63) #[] #[]] w fun e w' => e = .returned (.bool v) ∧ Below w.heap.size w w' := by
  have HR : Hid (IR w ad len c) := hr
  obtain ⟨x, hx⟩ : ∃ x, decide (0 ≤ fstF (fun j => !inB (c j) 0 100000) len 0) = x := ⟨_, rfl⟩
  have HV : Hid ((!x) = v) := hid (by rw [← hv, fst_rgB, hx])
  have HX : Hid (decide (0 ≤ fstF (fun j => !inB (c j) 0 100000) len 0) = x) := hx
  have HBL : Hid (Below w.heap.size w (w.alloc (.cells #[.func (.func 63) #[] #[]] 82 (0, 0)))) := (Below.refl _ _).alloc (Nat.le_refl _) _
  have HCF : Hid ((w.alloc (.cells #[.func (.func 63) #[] #[]] 82 (0, 0))).cell? ⟨w.heap.size, 0, none⟩ = some (.func (.func 63) #[] #[])) := ((CB.new (w := w) #[.func (.func 63) #[] #[]] 82).cell 0).trans rfl
  clear hr hv hx
  go_enter Try.func62, Try.ntmps62
  go_wp2_with (go_at_call 111; refine (anyPr ad len cap c w.heap.size x _ HCF.out h (HR.out.below HBL.out) HX.out).mono ?_; rintro e w1 ⟨rfl, b1⟩; have HB1 : Hid (Below w.heap.size w w1) := bel_on HBL.out b1; clear b1)
  go_returns
  exact ⟨ret_bool HV.out, HB1.out⟩

set_option maxRecDepth 20000 in
set_option maxHeartbeats 2000000 in
theorem notQt_eq (x : Int) (fb : Nat) (v : Bool) (w : World) (hf : w.cell? ⟨fb, 0, none⟩ = some (.func (.func 76) #[] #[])) (h : inB x 0 1000000 = v) : Calls Try.prog 112 #[.int .i64 x, .pointer (some ⟨fb, 0, none⟩)] w fun e w' => e = .returned (.bool (!v)) ∧ w' = w := by
  have l1 := cell_lt hf
  go_enter Try.func112, Try.ntmps112
  go_wp2_with (go_at_call 76; refine (isQty_eq _ _ _ h).mono ?_; rintro e w1 ⟨rfl, ew⟩; replace ew := ew.symm; subst ew)
  go_returns
  exact ⟨rfl, rfl⟩
set_option maxRecDepth 20000 in
set_option maxHeartbeats 2000000 in
theorem idxQt_any (ad : Option Addr) (len cap : Nat) (c : Nat → Int) (fb : Nat) (w : World) (hf : w.cell? ⟨fb, 0, none⟩ = some (.func (.func 76) #[] #[])) (h : (len : Int) ≤ 1048576) (hr : IR w ad len c) :
    Calls Try.prog 137 #[.slice ad len cap, .func (Fn.func 112) #[] #[.pointer (some ⟨fb, 0, none⟩)]] w fun e w' => e = .returned (.int .i64 (fstF (fun j => !inB (c j) 0 1000000) len 0)) ∧ Below w.heap.size w w' := by
  have HR : Hid (IR w ad len c) := hr
  have HF0 : Hid (w.cell? ⟨fb, 0, none⟩ = some (.func (.func 76) #[] #[])) := hf
  clear hr hf
  go_enter Try.func137, Try.ntmps137
  go_wp2
  go_loopw [8] (fun i wr => ∃ k : Nat, k ≤ len ∧ i = .int .i64 (k : Int) ∧ Hid (fstF (fun j => !inB (c j) 0 1000000) (len - k) k = fstF (fun j => !inB (c j) 0 1000000) len 0) ∧ Hid (Below w.heap.size w wr)) (fun i _ => len - (intOf i).toNat)
  case atStart => exact ⟨0, Nat.zero_le _, rfl, rfl, Below.refl _ _⟩
  case round =>
    obtain ⟨k, hk, rfl, hP, HB⟩ := hrel
    by_cases hlt : k < len
    · have hlt2 : (k : Int) < (len : Int) := by omega
      obtain ⟨kb, off, rfl, _⟩ := HR.out.addr (by omega)
      have c0 := (HR.out.below HB.out).cell hlt
      obtain ⟨x, hx⟩ : ∃ x, c k = x := ⟨_, rfl⟩
      have HXE : Hid (c k = x) := hx
      rw [hx] at c0
      clear hx
      cases g : inB x 0 1000000
      · have HF : Hid (fstF (fun j => !inB (c j) 0 1000000) len 0 = (k : Int)) := hid (by rw [← hP.out]; exact fstF_hit hlt (by simp [HXE.out, g]))
        have HG : Hid (inB x 0 1000000 = false) := g
        clear g
        go_wp2_with (go_at_call 112; refine (notQt_eq x fb _ _ (keep_cell HB.out HF0.out) HG.out).mono ?_; rintro e w1 ⟨rfl, ew⟩; replace ew := ew.symm; subst ew)
        go_returns
        exact ⟨ret_i HF.out.symm, HB.out⟩
      · have HF : Hid (fstF (fun j => !inB (c j) 0 1000000) (len - (k + 1)) (k + 1) = fstF (fun j => !inB (c j) 0 1000000) len 0) := hid (by rw [← hP.out]; exact (fstF_miss hlt (by simp [HXE.out, g])).symm)
        have HG : Hid (inB x 0 1000000 = true) := g
        clear g
        go_wp2_with (go_at_call 112; refine (notQt_eq x fb _ _ (keep_cell HB.out HF0.out) HG.out).mono ?_; rintro e w1 ⟨rfl, ew⟩; replace ew := ew.symm; subst ew)
        go_roundw
        case rel => exact ⟨k + 1, by omega, by go_num, HF, HB⟩
        case measure => simp [intOf]; omega
    · obtain rfl : k = len := by omega
      have lkk : ¬ (k : Int) < (k : Int) := by omega
      have HF : Hid (fstF (fun j => !inB (c j) 0 1000000) k 0 = -1) := hid (by rw [← hP.out]; exact fstF_end)
      go_wp2
      go_returns
      exact ⟨ret_i HF.out.symm, HB.out⟩
theorem anyQt (ad : Option Addr) (len cap : Nat) (c : Nat → Int) (fb : Nat) (v : Bool) (w : World) (hf : w.cell? ⟨fb, 0, none⟩ = some (.func (.func 76) #[] #[])) (h : (len : Int) ≤ 1048576) (hr : IR w ad len c) (hv : decide (0 ≤ fstF (fun j => !inB (c j) 0 1000000) len 0) = v) :
    Calls Try.prog 111 #[.slice ad len cap, .func (Fn.func 112) #[] #[.pointer (some ⟨fb, 0, none⟩)]] w fun e w' => e = .returned (.bool v) ∧ Below w.heap.size w w' := by
  have HC := idxQt_any ad len cap c fb w hf h hr
  obtain ⟨x, hx⟩ : ∃ x, fstF (fun j => !inB (c j) 0 1000000) len 0 = x := ⟨_, rfl⟩
  rw [hx] at HC hv
  have HC2 : Hid (Calls Try.prog 137 #[.slice ad len cap, .func (Fn.func 112) #[] #[.pointer (some ⟨fb, 0, none⟩)]] w fun e w' => e = .returned (.int .i64 x) ∧ Below w.heap.size w w') := HC
  obtain ⟨fv, hfv⟩ : ∃ f, Value.func (Fn.func 112) #[] #[.pointer (some ⟨fb, 0, none⟩)] = f := ⟨_, rfl⟩
  rw [hfv] at HC2 ⊢
  clear HC hr hx hfv hf
  subst hv
  go_enter Try.func111, Try.ntmps111
  go_wp2_with (go_at_call 137; refine HC2.out.mono ?_; rintro e w1 ⟨rfl, b1⟩)
  all_goals go_returns
  all_goals exact ⟨rfl, b1⟩
set_option maxRecDepth 20000 in
set_option maxHeartbeats 2000000 in
theorem allQt_eq (ad : Option Addr) (len cap : Nat) (c : Nat → Int) (v : Bool) (w : World) (h : (len : Int) ≤ 1048576) (hr : IR w ad len c) (hv : rgB 1000000 c len = v) :
    Calls Try.prog 62 #[.slice ad len cap, .func (.func 76) #[] #[]] w fun e w' => e = .returned (.bool v) ∧ Below w.heap.size w w' := by
  have HR : Hid (IR w ad len c) := hr
  obtain ⟨x, hx⟩ : ∃ x, decide (0 ≤ fstF (fun j => !inB (c j) 0 1000000) len 0) = x := ⟨_, rfl⟩
  have HV : Hid ((!x) = v) := hid (by rw [← hv, fst_rgB, hx])
  have HX : Hid (decide (0 ≤ fstF (fun j => !inB (c j) 0 1000000) len 0) = x) := hx
  have HBL : Hid (Below w.heap.size w (w.alloc (.cells #[.func (.func 76) #[] #[]] 82 (0, 0)))) := (Below.refl _ _).alloc (Nat.le_refl _) _
  have HCF : Hid ((w.alloc (.cells #[.func (.func 76) #[] #[]] 82 (0, 0))).cell? ⟨w.heap.size, 0, none⟩ = some (.func (.func 76) #[] #[])) := ((CB.new (w := w) #[.func (.func 76) #[] #[]] 82).cell 0).trans rfl
  clear hr hv hx
  go_enter Try.func62, Try.ntmps62
  go_wp2_with (go_at_call 111; refine (anyQt ad len cap c w.heap.size x _ HCF.out h (HR.out.below HBL.out) HX.out).mono ?_; rintro e w1 ⟨rfl, b1⟩; have HB1 : Hid (Below w.heap.size w w1) := bel_on HBL.out b1; clear b1)
  go_returns
  exact ⟨ret_bool HV.out, HB1.out⟩
end Go.Proofs.Ytmbdeafpfdeigaa

namespace Go.Proofs.Ytmbdeafpfdeigaa
open Go Go.ChangeShapes Go.WideShapes Go.ChangeAt Go.RowKit
set_option linter.unusedVariables false
set_option linter.unusedSimpArgs false

/-- Whether the first m are prices. -/
def prB (z : Nat → Int) : Nat → Bool
  | 0 => true
  | k + 1 => prB z k && inB (z k) 0 100000
theorem prB_p {z : Nat → Int} : ∀ m, prB z m = true → ∀ j, j < m → 0 ≤ z j ∧ z j ≤ 100000
  | 0, _, j, hj => by omega
  | m + 1, h, j, hj => by
    simp only [prB, Bool.and_eq_true] at h
    by_cases e : j = m
    · subst e; exact inB_t h.2
    · exact prB_p m h.1 j (by omega)
theorem prB_t {z : Nat → Int} : ∀ m, (∀ j, j < m → inB (z j) 0 100000 = true) → prB z m = true
  | 0, _ => rfl
  | m + 1, h => by simp only [prB, Bool.and_eq_true]; exact ⟨prB_t m (fun j hj => h j (by omega)), h m (by omega)⟩
theorem prB_f {z : Nat → Int} {k : Nat} : ∀ m, k < m → inB (z k) 0 100000 = false → prB z m = false
  | 0, h, _ => by omega
  | m + 1, h, h1 => by
    by_cases e : k = m
    · subst e; simp [prB, h1]
    · show (prB z m && _) = false
      rw [prB_f m (by omega) h1]; rfl
theorem pr_rg {z : Nat → Int} : ∀ m, rgB 100000 z m = prB z m
  | 0 => rfl
  | m + 1 => by simp only [rgB, prB]; rw [pr_rg m]
theorem arePr_eq (ad : Option Addr) (len cap : Nat) (c : Nat → Int) (v : Bool) (w : World) (h : (len : Int) ≤ 1048576) (hr : IR w ad len c) (hv : prB c len = v) :
    Calls Try.prog 62 #[.slice ad len cap, .func (.func 63) #[] #[]] w fun e w' => e = .returned (.bool v) ∧ Below w.heap.size w w' :=
  allPr_eq ad len cap c v w h hr ((pr_rg len).trans hv)

/-- What the first r come to at their prices, but the one at i. -/
def osF (O z : Nat → Int) (i : Nat) : Nat → Int
  | 0 => 0
  | r + 1 => if r = i then osF O z i r else osF O z i r + O r * z r
theorem osF_bd {O z : Nat → Int} {i n : Nat} (hO : FQ O) (hz : ∀ j, j < n → 0 ≤ z j ∧ z j ≤ 100000) : ∀ r, r ≤ n → 0 ≤ osF O z i r ∧ osF O z i r ≤ 100000000000 * (r : Int)
  | 0, _ => by simp [osF]
  | r + 1, h => by
    have ih := osF_bd (i := i) hO hz r (by omega)
    have h1 := hO r
    have h2 := hz r (by omega)
    have p0 : 0 ≤ O r * z r := Int.mul_nonneg h1.1 h2.1
    have p1 : O r * z r ≤ 1000000 * 100000 := Int.le_trans (Int.mul_le_mul_of_nonneg_right h1.2 h2.1) (Int.mul_le_mul_of_nonneg_left h2.2 (by omega))
    unfold osF
    split <;> omega
def ocB (n : Nat) (c : Nat → IT) (d : Int) (i : Nat) (x : Int) : Bool := if 0 < cnN (c i).parz d (c i).parn then ouB n c d i x else true
def ocV (n : Nat) (c : Nat → IT) (d : Int) (z : Nat → Int) (i : Nat) (x : Int) : Int := if 0 < cnN (c i).parz d (c i).parn then - osF (ouF n c d i x) z i n else x * z i
def csV (n : Nat) (c : Nat → IT) (d : Int) (z E : Nat → Int) : Nat → Int
  | 0 => 0
  | k + 1 => csV n c d z E k + ocV n c d z k (E k)
def csB (n : Nat) (c : Nat → IT) (d : Int) (E : Nat → Int) : Nat → Bool
  | 0 => true
  | k + 1 => csB n c d E k && ocB n c d k (E k)
theorem csB_mono {n : Nat} {c : Nat → IT} {d : Int} {E : Nat → Int} {k : Nat} : ∀ m, k ≤ m → csB n c d E k = false → csB n c d E m = false
  | 0, h, h1 => by obtain rfl : k = 0 := by omega
                   exact h1
  | m + 1, h, h1 => by
    by_cases e : k = m + 1
    · subst e; exact h1
    · show (csB n c d E m && _) = false
      rw [csB_mono m (by omega) h1]; rfl
theorem ouF_q {n : Nat} {c : Nat → IT} {d : Int} {i : Nat} {x : Int} (h : ouB n c d i x = true) : FQ (ouF n c d i x) := by
  unfold ouB brB at h
  unfold ouF brF
  simp only [Bool.and_eq_true] at h
  have := inB_t h.1
  exact exF_q (z0_q.up i this.1 this.2) _ h.2
theorem ocV_bd {n : Nat} {c : Nat → IT} {d : Int} {z : Nat → Int} {i : Nat} {x : Int} (hn : (n : Int) ≤ 60) (hi : i < n) (hx : 0 ≤ x ∧ x ≤ 1000000) (hz : ∀ j, j < n → 0 ≤ z j ∧ z j ≤ 100000) (h : ocB n c d i x = true) : -6000000000000 ≤ ocV n c d z i x ∧ ocV n c d z i x ≤ 100000000000 := by
  unfold ocB at h
  unfold ocV
  split
  · rename_i g
    rw [if_pos g] at h
    have := osF_bd (i := i) (ouF_q h) hz n (Nat.le_refl _)
    omega
  · have h2 := hz i hi
    have p0 : 0 ≤ x * z i := Int.mul_nonneg hx.1 h2.1
    have p1 : x * z i ≤ 1000000 * 100000 := Int.le_trans (Int.mul_le_mul_of_nonneg_right hx.2 h2.1) (Int.mul_le_mul_of_nonneg_left h2.2 (by omega))
    omega
theorem csV_bd {n : Nat} {c : Nat → IT} {d : Int} {z E : Nat → Int} (hn : (n : Int) ≤ 60) (hE : FQ E) (hz : ∀ j, j < n → 0 ≤ z j ∧ z j ≤ 100000) : ∀ k, k ≤ n → csB n c d E k = true → -6000000000000 * (k : Int) ≤ csV n c d z E k ∧ csV n c d z E k ≤ 100000000000 * (k : Int)
  | 0, _, _ => by simp [csV]
  | k + 1, h, hb => by
    simp only [csB, Bool.and_eq_true] at hb
    have ih := csV_bd hn hE hz k (by omega) hb.1
    have := ocV_bd hn (show k < n by omega) (hE k) hz hb.2
    unfold csV
    omega
theorem akB_i {n : Nat} {c : Nat → IT} {a q d : Int} (h : akB n c a q d = true) {i : Nat} (hi : i < n) {x : Int} (hx : 0 ≤ x ∧ x ≤ 1000000) : akB n c (i : Int) x d = true := by
  obtain ⟨h1, _, _, h4⟩ := akB_p h
  unfold akB
  simp only [Bool.and_eq_true]
  exact ⟨⟨⟨h1, decide_eq_true (by omega)⟩, decide_eq_true hx⟩, decide_eq_true h4⟩
theorem rk_ou {n : Nat} {c : Nat → IT} {a q d : Int} (h : akB n c a q d = true) {i : Nat} (hi : i < n) {x : Int} (hx : 0 ≤ x ∧ x ≤ 1000000) : rkB ouB n c (i : Int) x d = ouB n c d i x ∧ rkM ouB n c (i : Int) x d = if ouB n c d i x = true then n else 0 := by
  have e : rkB ouB n c (i : Int) x d = ouB n c d i x := by unfold rkB; rw [akB_i h hi hx, Int.toNat_natCast]; rfl
  exact ⟨e, by unfold rkM; rw [e]⟩

set_option maxRecDepth 20000 in
set_option maxHeartbeats 8000000 in
theorem ownCost_any (ad ap : Option Addr) (n cap pc : Nat) (c : Nat → IT) (z : Nat → Int) (a q d : Int) (i : Nat) (x : Int) (w : World) (hz : IZ n c) (hr : ITr w ad n c) (hp : IR w ap n z) (hak : akB n c a q d = true) (hi : i < n) (hx : 0 ≤ x ∧ x ≤ 1000000) (hzb : ∀ j, j < n → 0 ≤ z j ∧ z j ≤ 100000) :
    Calls Try.prog 64 #[.slice ad n cap, .slice ap n pc, .int .i64 (i : Int), .int .i64 x, .int .i64 d] w fun e w' => ∃ v, e = .returned (.tuple #[.int .i64 v, .bool (ocB n c d i x)]) ∧ (ocB n c d i x = true → v = ocV n c d z i x) ∧ Below w.heap.size w w' := by
  obtain ⟨hI, _, _, _⟩ := akB_p hak
  have hn60 : (n : Int) ≤ 60 := by have := (isB_p hI).1; omega
  have hi2 : (i : Int) < (n : Int) := by omega
  obtain ⟨g1, g2, g3, g4, g5⟩ := isB_it hI hi
  obtain ⟨kb, off, rfl, hkb⟩ := hr.addr (by omega)
  obtain ⟨pb, po, rfl, hpb⟩ := hp.addr (by omega)
  obtain ⟨ra, rc, sa, sc, _, _, c0, c1, c2, c3, c4, r5, r6⟩ := hr.cell hi
  have HMK : Hid (Calls Try.prog 108 #[.agg #[.string (c i).name, .int .i64 (c i).batch, .bool (c i).pha, .slice ra (c i).parn rc, .slice sa (c i).alsn sc], .int .i64 d] w fun e w' => e = .returned (.bool (decide (0 < cnN (c i).parz d (c i).parn))) ∧ Below w.heap.size w w') := hid (isMade_any _ _ _ ra _ rc (c i).parz sa _ sc d w (by omega) r5 (fun j hj => (g4 j hj).1.2.2.2))
  have HOU : Hid (∀ W, Below w.heap.size w W → Calls Try.prog 45 #[.slice (some ⟨kb, off, none⟩) n cap, .int .i64 (i : Int), .int .i64 x, .int .i64 d] W fun e w' => ∃ ad cap, e = .returned (.tuple #[.slice ad (if ouB n c d i x = true then n else 0) cap, .bool (ouB n c d i x)]) ∧ OwnI w' W.heap.size ad (if ouB n c d i x = true then n else 0) (ouF n c d i x) ∧ Below W.heap.size W w') := hid (fun W b => by
    have := implOutput_any (some ⟨kb, off, none⟩) n cap c (i : Int) x d W (by omega) hz (hr.below b)
    rw [(rk_ou hak hi hx).1, (rk_ou hak hi hx).2, Int.toNat_natCast] at this
    exact this)
  have HP : Hid (IR w (some ⟨pb, po, none⟩) n z) := hp
  have HZB : Hid (∀ j, j < n → 0 ≤ z j ∧ z j ≤ 100000) := hzb
  unfold ocB ocV
  have HOQ : Hid (ouB n c d i x = true → FQ (ouF n c d i x)) := hid ouF_q
  generalize cnN (c i).parz d (c i).parn = N at HMK ⊢
  generalize ouB n c d i x = OB at HOU HOQ ⊢
  generalize ouF n c d i x = O at HOU HOQ ⊢
  have hzi := hzb i hi
  have cp := HP.out.cell hi
  have HZI : Hid (∃ Z, z i = Z) := ⟨_, rfl⟩
  clear hp hr hz hzb g1 g2 g3 g4 g5 r5 r6 hI hak
  generalize (c i).name = nm at *
  generalize (c i).batch = ba at *
  generalize (c i).pha = ph at *
  generalize (c i).parn = rn at *
  generalize (c i).alsn = sn at *
  by_cases hm : 0 < N
  · have dm : decide (0 < N) = true := decide_eq_true hm
    rw [dm] at HMK
    rw [if_pos hm, if_pos hm]
    clear dm hzi cp HZI
    cases OB
    · have HO2 : Hid (∀ W, Below w.heap.size w W → Calls Try.prog 45 #[.slice (some ⟨kb, off, none⟩) n cap, .int .i64 (i : Int), .int .i64 x, .int .i64 d] W fun e w' => ∃ ad cap, e = .returned (.tuple #[.slice ad 0 cap, .bool false]) ∧ Below W.heap.size W w') := hid (fun W b => (HOU.out W b).mono (by rintro e w' ⟨x1, x2, x3, _, x4⟩; exact ⟨x1, x2, x3, x4⟩))
      clear HOU
      go_enter Try.func64, Try.ntmps64
      go_wp2_with (first
        | (go_at_call 108; refine HMK.out.mono ?_; rintro e w1 ⟨rfl, b1⟩; have HB1 : Hid (Below w.heap.size w w1) := b1; clear b1)
        | (go_at_call 45; refine (HO2.out _ HB1.out).mono ?_; rintro e w2 ⟨oa, ob, rfl, b2⟩; have HB2 : Hid (Below w.heap.size w w2) := hid (bel_on HB1.out b2); clear b2))
      go_loopw [14, 40] (fun u v wr => u = .int .i64 0 ∧ v = .int .i64 0 ∧ Hid (Below w.heap.size w wr)) (fun _ _ _ => 0)
      case atStart => exact ⟨rfl, rfl, HB2⟩
      case round =>
        obtain ⟨rfl, rfl, HB⟩ := hrel
        go_wp2
        go_returns
        first | exact ⟨_, rfl, (fun h => by cases h), HB.out⟩ | exact ⟨_, rfl, HB.out⟩
    · have HQ : Hid (FQ O) := hid (HOQ.out rfl)
      have HO2 : Hid (∀ W, Below w.heap.size w W → Calls Try.prog 45 #[.slice (some ⟨kb, off, none⟩) n cap, .int .i64 (i : Int), .int .i64 x, .int .i64 d] W fun e w' => ∃ ad cap, e = .returned (.tuple #[.slice ad n cap, .bool true]) ∧ OwnI w' W.heap.size ad n O ∧ Below W.heap.size W w') := HOU
      clear HOU HOQ
      go_enter Try.func64, Try.ntmps64
      go_wp2_with (first
        | (go_at_call 108; refine HMK.out.mono ?_; rintro e w1 ⟨rfl, b1⟩; have HB1 : Hid (Below w.heap.size w w1) := b1; clear b1)
        | (go_at_call 45; refine (HO2.out _ HB1.out).mono ?_; rintro e w2 ⟨oa, ob, rfl, o2, b2⟩; have HB2 : Hid (Below w.heap.size w w2 ∧ IR w2 oa n O) := hid ⟨bel_on HB1.out b2, o2.row⟩; clear o2 b2))
      clear HMK HO2
      go_loopw [14, 40] (fun u v wr => ∃ k : Nat, k ≤ n ∧ u = .int .i64 (- osF O z i k) ∧ v = .int .i64 (k : Int) ∧ Hid (Below w.heap.size w wr ∧ IR wr oa n O)) (fun _ v _ => n - (intOf v).toNat)
      case atStart => exact ⟨0, Nat.zero_le _, rfl, rfl, HB2⟩
      case round =>
        obtain ⟨k, hk, rfl, rfl, HB⟩ := hrel
        obtain ⟨wo, rfl⟩ : ∃ x, x = wr := ⟨wr, rfl⟩
        by_cases hlt : k < n
        · have hlt2 : (k : Int) < (n : Int) := by omega
          obtain ⟨kc, of2, rfl, _⟩ := HB.out.2.addr (by omega)
          have k0 := HB.out.2.cell hlt
          have k1 := (HP.out.below HB.out.1).cell hlt
          have s0 := osF_bd (i := i) HQ.out HZB.out k (by omega)
          have q0 := HQ.out k
          have q1 := HZB.out k hlt
          have p0 : 0 ≤ O k * z k := Int.mul_nonneg q0.1 q1.1
          have p1 : O k * z k ≤ 1000000 * 100000 := Int.le_trans (Int.mul_le_mul_of_nonneg_right q0.2 q1.1) (Int.mul_le_mul_of_nonneg_left q1.2 (by omega))
          have HSV : Hid (osF O z i (k + 1) = if k = i then osF O z i k else osF O z i k + O k * z k) := rfl
          generalize osF O z i k = SS at *
          generalize O k = OK at *
          generalize z k = ZK at *
          have hw1 : IntKind.i64.wrap (OK * ZK) = OK * ZK := IntWalk.i64_in _ ⟨by omega, by omega⟩
          have hw2 : IntKind.i64.wrap (-SS - OK * ZK) = -SS - OK * ZK := IntWalk.i64_in _ ⟨by omega, by omega⟩
          by_cases hki : k = i
          · rw [if_pos hki] at HSV
            subst hki
            have hki2 : ((k : Int) != (k : Int)) = false := by simp
            go_wp2
            go_roundw
            case rel => exact ⟨k + 1, by omega, by rw [HSV.out], by go_num, HB⟩
            case measure => simp [intOf]; omega
          · rw [if_neg hki] at HSV
            have hki2 : ((k : Int) != (i : Int)) = true := by simp; omega
            have hki3 : ¬ (k : Int) = (i : Int) := by omega
            go_wp2
            go_roundw
            case rel => exact ⟨k + 1, by omega, by rw [HSV.out]; congr 1; omega, by go_num, HB⟩
            case measure => simp [intOf]; omega
        · obtain rfl : k = n := by omega
          have lkk : ¬ (k : Int) < (k : Int) := by omega
          go_wp2
          go_returns
          first | exact ⟨_, rfl, (fun _ => rfl), HB.out.1⟩ | exact ⟨_, rfl, rfl, HB.out.1⟩
  · have dm : decide (0 < N) = false := decide_eq_false hm
    rw [dm] at HMK
    rw [if_neg hm, if_neg hm]
    clear dm HOU HOQ HZI
    have p0 : 0 ≤ x * z i := Int.mul_nonneg hx.1 hzi.1
    have p1 : x * z i ≤ 1000000 * 100000 := Int.le_trans (Int.mul_le_mul_of_nonneg_right hx.2 hzi.1) (Int.mul_le_mul_of_nonneg_left hzi.2 (by omega))
    have HPC : Hid (∀ W, Below w.heap.size w W → W.cell? ⟨pb, po + i, none⟩ = some (.int .i64 (z i))) := hid (fun W b => (HP.out.below b).cell hi)
    generalize z i = ZI at *
    have hw1 : IntKind.i64.wrap (x * ZI) = x * ZI := IntWalk.i64_in _ ⟨by omega, by omega⟩
    go_enter Try.func64, Try.ntmps64
    go_wp2_with (go_at_call 108; refine HMK.out.mono ?_; rintro e w1 ⟨rfl, b1⟩; have HB1 : Hid (Below w.heap.size w w1) := b1; have k9 := HPC.out w1 b1; clear b1)
    go_returns
    first | exact ⟨_, rfl, (fun _ => rfl), HB1.out⟩ | exact ⟨_, rfl, rfl, HB1.out⟩
end Go.Proofs.Ytmbdeafpfdeigaa

namespace Go.Proofs.Ytmbdeafpfdeigaa
open Go Go.ChangeShapes Go.WideShapes Go.ChangeAt Go.RowKit
set_option linter.unusedVariables false
set_option linter.unusedSimpArgs false

noncomputable def coB (n m : Nat) (c : Nat → IT) (z : Nat → Int) (a q d : Int) : Bool := rkB eoB n c a q d && (decide (m = n) && (prB z m && (csB n c d (eoF n c d a.toNat q) n && inB (csV n c d z (eoF n c d a.toNat q) n) 0 100000000000)))
noncomputable def coV (n m : Nat) (c : Nat → IT) (z : Nat → Int) (a q d : Int) : Int := if coB n m c z a q d = true then csV n c d z (eoF n c d a.toNat q) n else 0
theorem co_f {n m : Nat} {c : Nat → IT} {z : Nat → Int} {a q d : Int} (h : coB n m c z a q d = false) : coV n m c z a q d = 0 := by unfold coV; rw [h]; rfl
theorem eoF_q {n : Nat} {c : Nat → IT} {a q d : Int} (h : rkB eoB n c a q d = true) : akB n c a q d = true ∧ FQ (eoF n c d a.toNat q) := by
  unfold rkB at h
  simp only [Bool.and_eq_true] at h
  obtain ⟨_, _, h3, _⟩ := akB_p h.1
  exact ⟨h.1, epF_q (z0_q.up _ h3.1 h3.2) _ h.2⟩
set_option maxRecDepth 20000 in
set_option maxHeartbeats 8000000 in
theorem implCost_any (ad ap : Option Addr) (n cap m pc : Nat) (c : Nat → IT) (z : Nat → Int) (a q d : Int) (w : World) (h : (n : Int) ≤ 1048576) (h2 : (m : Int) ≤ 1048576) (hz : IZ n c) (hr : ITr w ad n c) (hp : IR w ap m z) :
    Calls Try.prog 26 #[.slice ad n cap, .slice ap m pc, .int .i64 a, .int .i64 q, .int .i64 d] w fun e w' => e = .returned (.tuple #[.int .i64 (coV n m c z a q d), .bool (coB n m c z a q d)]) ∧ Below w.heap.size w w' := by
  have HR : Hid (ITr w ad n c) := hr
  have HZ : Hid (IZ n c) := hz
  have HP : Hid (IR w ap m z) := hp
  have HEX := hid (implExplode_any ad n cap c a q d w h hz hr)
  have HF : Hid (coB n m c z a q d = false → coV n m c z a q d = 0) := hid co_f
  clear hr hz hp
  cases hE : rkB eoB n c a q d
  · have HV : Hid (coB n m c z a q d = false) := hid (by unfold coB; rw [hE]; rfl)
    have HE2 : Hid (Calls Try.prog 22 #[.slice ad n cap, .int .i64 a, .int .i64 q, .int .i64 d] w fun e w' => ∃ ad cap, e = .returned (.tuple #[.slice ad 0 cap, .bool false]) ∧ Below w.heap.size w w') := hid (HEX.out.mono (by
      rintro e w' ⟨x1, x2, x3, _, x4⟩
      refine ⟨x1, x2, ?_, x4⟩
      rw [x3]; unfold rkM; rw [hE]; rfl))
    clear HEX hE
    rw [HF.out HV.out, HV.out]
    go_enter Try.func26, Try.ntmps26
    go_wp2_with (go_at_call 22; refine HE2.out.mono ?_; rintro e w1 ⟨x1, x2, rfl, b1⟩; have HB1 : Hid (Below w.heap.size w w1) := b1; clear b1)
    go_returns
    exact ⟨rfl, HB1.out⟩
  obtain ⟨hak, hEQ⟩ := eoF_q hE
  have hn60 : (n : Int) ≤ 60 := by have := (isB_p (akB_p hak).1).1; omega
  have HK : Hid (coB n m c z a q d = (decide (m = n) && (prB z m && (csB n c d (eoF n c d a.toNat q) n && inB (csV n c d z (eoF n c d a.toNat q) n) 0 100000000000)))) := hid (by unfold coB; rw [hE]; rfl)
  have HKV : Hid (coB n m c z a q d = true → coV n m c z a q d = csV n c d z (eoF n c d a.toNat q) n) := hid (fun h => by unfold coV; rw [h]; rfl)
  have HE2 : Hid (Calls Try.prog 22 #[.slice ad n cap, .int .i64 a, .int .i64 q, .int .i64 d] w fun e w' => ∃ ad cap, e = .returned (.tuple #[.slice ad n cap, .bool true]) ∧ IR w' ad n (eoF n c d a.toNat q) ∧ Below w.heap.size w w') := hid (HEX.out.mono (by
      have e1 : rkM eoB n c a q d = n := by unfold rkM; rw [hE]; rfl
      rintro e w' ⟨x1, x2, x3, x5, x4⟩
      rw [e1] at x3 x5
      exact ⟨x1, x2, by rw [x3, hE], x5.row, x4⟩))
  have HAK : Hid (akB n c a q d = true) := hak
  have HEQ : Hid (FQ (eoF n c d a.toNat q)) := hEQ
  clear HEX hE hak hEQ
  generalize eoF n c d a.toNat q = E at *
  by_cases hmn : m = n
  · subst hmn
    rw [decide_eq_true rfl, Bool.true_and] at HK
    cases hP : prB z m
    · have HV : Hid (coB m m c z a q d = false) := hid (by rw [HK.out, hP]; rfl)
      have HPP : Hid (prB z m = false) := hP
      clear HK HKV hP
      rw [HF.out HV.out, HV.out]
      go_enter Try.func26, Try.ntmps26
      go_wp2_with (first
        | (go_at_call 22; refine HE2.out.mono ?_; rintro e w1 ⟨x1, x2, rfl, _, b1⟩; have HB1 : Hid (Below w.heap.size w w1) := b1; clear b1)
        | (go_at_call 62; refine (arePr_eq _ _ _ _ _ _ h2 (HP.out.below HB1.out) HPP.out).mono ?_; rintro e w2 ⟨rfl, b2⟩; have HB2 : Hid (Below w.heap.size w w2) := hid (bel_on HB1.out b2); clear b2))
      go_returns
      exact ⟨rfl, HB2.out⟩
    rw [hP, Bool.true_and] at HK
    have HZB : Hid (∀ j, j < m → 0 ≤ z j ∧ z j ≤ 100000) := hid (prB_p m hP)
    have HPP : Hid (prB z m = true) := hP
    clear hP
    obtain ⟨TV, hTV⟩ : ∃ b, coB m m c z a q d = b := ⟨_, rfl⟩
    obtain ⟨CV, hCV⟩ : ∃ x, coV m m c z a q d = x := ⟨_, rfl⟩
    rw [hTV] at HK HF HKV
    rw [hCV] at HF HKV
    rw [hTV, hCV]
    clear hTV hCV
    go_enter Try.func26, Try.ntmps26
    go_wp2_with (first
      | (go_at_call 22; refine HE2.out.mono ?_; rintro e w1 ⟨ea, ec, rfl, r1, b1⟩; have HB1 : Hid (Below w.heap.size w w1) := b1; have HE1 : Hid (IR w1 ea m E) := r1; clear b1 r1)
      | (go_at_call 62; refine (arePr_eq _ _ _ _ _ _ h2 (HP.out.below HB1.out) HPP.out).mono ?_; rintro e w2 ⟨rfl, b2⟩; have HB2 : Hid (Below w.heap.size w w2 ∧ IR w2 ea m E) := hid ⟨bel_on HB1.out b2, HE1.out.below b2⟩; clear b2))
    clear HE2 HE1 HB1
    go_loopw [14, 43] (fun u v wr => ∃ k : Nat, k ≤ m ∧ u = .int .i64 (csV m c d z E k) ∧ v = .int .i64 (k : Int) ∧ Hid (csB m c d E k = true ∧ Below w.heap.size w wr ∧ IR wr ea m E)) (fun _ v _ => m - (intOf v).toNat)
    case atStart => exact ⟨0, Nat.zero_le _, rfl, rfl, hid ⟨rfl, HB2.out.1, HB2.out.2⟩⟩
    case round =>
      clear HB2
      obtain ⟨k, hk, rfl, rfl, HH⟩ := hrel
      obtain ⟨wo, rfl⟩ : ∃ x, x = wr := ⟨wr, rfl⟩
      have cb := csV_bd hn60 HEQ.out HZB.out k hk HH.out.1
      by_cases hlt : k < m
      · have hlt2 : (k : Int) < (m : Int) := by omega
        obtain ⟨kc, of2, rfl, _⟩ := HH.out.2.2.addr (by omega)
        have k0 := HH.out.2.2.cell hlt
        have HOW := hid (ownCost_any ad ap m cap pc c z a q d k (E k) wo HZ.out (HR.out.below HH.out.2.1) (HP.out.below HH.out.2.1) HAK.out hlt (HEQ.out k) HZB.out)
        have HNB : Hid (csB m c d E (k + 1) = ocB m c d k (E k)) := hid (by show (csB m c d E k && _) = _; rw [HH.out.1]; rfl)
        have HNV : Hid (csV m c d z E (k + 1) = csV m c d z E k + ocV m c d z k (E k)) := rfl
        have HOB : Hid (ocB m c d k (E k) = true → -6000000000000 ≤ ocV m c d z k (E k) ∧ ocV m c d z k (E k) ≤ 100000000000) := hid (fun h => ocV_bd hn60 hlt (HEQ.out k) HZB.out h)
        have HMO : Hid (csB m c d E (k + 1) = false → csB m c d E m = false) := hid (fun h => csB_mono _ (by omega) h)
        generalize ocB m c d k (E k) = OB at HOW HNB HOB
        generalize ocV m c d z k (E k) = OV at HOW HNV HOB
        generalize E k = X at HOW k0
        generalize csV m c d z E k = SS at *
        cases OB
        · obtain rfl : TV = false := by rw [HK.out, HMO.out HNB.out]; rfl
          obtain rfl : CV = 0 := HF.out rfl
          go_wp2_with (go_at_call 64; refine HOW.out.mono ?_; rintro e w3 ⟨v, rfl, _, b3⟩; have HB3 : Hid (Below w.heap.size w w3) := hid (bel_on HH.out.2.1 b3); clear b3)
          go_returns
          exact ⟨rfl, HB3.out⟩
        · have hob := HOB.out rfl
          have hw1 : IntKind.i64.wrap (SS + OV) = SS + OV := IntWalk.i64_in _ ⟨by omega, by omega⟩
          go_wp2_with (go_at_call 64; refine HOW.out.mono ?_; rintro e w3 ⟨v, rfl, hv, b3⟩; obtain rfl := hv rfl; have HB3 : Hid (csB m c d E (k + 1) = true ∧ Below w.heap.size w w3 ∧ IR w3 (some ⟨kc, of2, none⟩) m E) := hid ⟨HNB.out, bel_on HH.out.2.1 b3, HH.out.2.2.below b3⟩; clear b3 hv)
          go_roundw
          case rel => exact ⟨k + 1, by omega, by rw [HNV.out], by go_num, HB3⟩
          case measure => simp [intOf]; omega
      · obtain rfl : k = m := by omega
        have lkk : ¬ (k : Int) < (k : Int) := by omega
        rw [HH.out.1, Bool.true_and] at HK
        generalize csV k c d z E k = SS at *
        have HAM : Hid (inB SS 0 100000000000 = TV) := hid HK.out.symm
        cases TV
        · obtain rfl : CV = 0 := HF.out rfl
          go_wp2_with (go_at_call 65; refine (isAmt0_eq _ _ _ HAM.out).mono ?_; rintro e w6 ⟨rfl, ew⟩; replace ew := ew.symm; subst ew)
          go_returns
          exact ⟨rfl, HH.out.2.1⟩
        · obtain rfl : CV = SS := HKV.out rfl
          go_wp2_with (go_at_call 65; refine (isAmt0_eq _ _ _ HAM.out).mono ?_; rintro e w6 ⟨rfl, ew⟩; replace ew := ew.symm; subst ew)
          go_returns
          exact ⟨rfl, HH.out.2.1⟩
  · have hmn1 : ((m : Int) != (n : Int)) = true := by simp; omega
    have hmn2 : ¬ (m : Int) = (n : Int) := by omega
    have HV : Hid (coB n m c z a q d = false) := hid (by rw [HK.out, decide_eq_false hmn]; rfl)
    clear HK HKV
    rw [HF.out HV.out, HV.out]
    go_enter Try.func26, Try.ntmps26
    go_wp2_with (go_at_call 22; refine HE2.out.mono ?_; rintro e w1 ⟨x1, x2, rfl, _, b1⟩; have HB1 : Hid (Below w.heap.size w w1) := b1; clear b1)
    go_returns
    exact ⟨rfl, HB1.out⟩
end Go.Proofs.Ytmbdeafpfdeigaa

namespace Go.Proofs.Ytmbdeafpfdeigaa
open Go Go.ChangeShapes Go.WideShapes Go.ChangeAt Go.RowKit
set_option linter.unusedVariables false
set_option linter.unusedSimpArgs false

set_option maxRecDepth 20000 in
set_option maxHeartbeats 8000000 in
theorem specExplode_any (ad : Option Addr) (n cap : Nat) (c : Nat → IT) (a q d : Int) (w : World) (h : (n : Int) ≤ 1048576) (hz : IZ n c) (hr : ITr w ad n c) :
    Calls Try.prog 23 #[.slice ad n cap, .int .i64 a, .int .i64 q, .int .i64 d] w fun e w' => ∃ ad cap, e = .returned (.tuple #[.slice ad (rkM eoB n c a q d) cap, .bool (rkB eoB n c a q d)]) ∧ OwnI w' w.heap.size ad (rkM eoB n c a q d) (eoF n c d a.toNat q) ∧ Below w.heap.size w w' := by
  have HR : Hid (ITr w ad n c) := hr
  have HZ : Hid (IZ n c) := hz
  have HFA : Hid (rkB eoB n c a q d = false → rkM eoB n c a q d = 0) := hid (fun q => by unfold rkM; rw [q]; rfl)
  clear hr hz
  cases hak : akB n c a q d
  · have HV : Hid (rkB eoB n c a q d = false ∧ rkM eoB n c a q d = 0) := hid (by
      have e : rkB eoB n c a q d = false := by simp [rkB, hak]
      exact ⟨e, HFA.out e⟩)
    have HAK : Hid (akB n c a q d = false) := hak
    rw [HV.out.1, HV.out.2]
    clear hak
    go_enter Try.func23, Try.ntmps23
    go_wp2_with (go_at_call 56; refine (l17Asked_eq ad n cap c a q d _ _ h HZ.out HR.out HAK.out).mono ?_; rintro e w1 ⟨rfl, b1⟩; have HB1 : Hid (Below w.heap.size w w1) := b1; clear b1)
    go_returns
    exact ⟨_, _, rfl, .inl rfl, bel_on HB1.out ((Below.refl _ _).alloc (Nat.le_refl _) _)⟩
  have HAK : Hid (akB n c a q d = true) := hak
  obtain ⟨hI, ⟨ha0, ha1⟩, ⟨hq0, hq1⟩, _⟩ := akB_p hak
  obtain ⟨i, rfl⟩ : ∃ i : Nat, a = (i : Int) := ⟨a.toNat, by omega⟩
  have hi : i < n := by omega
  have hi2 : (i : Int) < (n : Int) := by omega
  have hn60 : (n : Int) ≤ 60 := by have := (isB_p hI).1; omega
  have hmk := mkI n (by omega)
  simp only [Int.toNat_natCast]
  have HRB : Hid (rkB eoB n c (i : Int) q d = eoB n c d i q ∧ rkM eoB n c (i : Int) q d = if eoB n c d i q = true then n else 0) := hid (by
    have e : rkB eoB n c (i : Int) q d = eoB n c d i q := by unfold rkB; rw [hak, Int.toNat_natCast]; rfl
    exact ⟨e, by unfold rkM; rw [e]⟩)
  rw [HRB.out.1, HRB.out.2]
  have HMK : Hid (∀ w1 : World, Below w.heap.size w w1 → IB (w1.alloc (.cells (zeros n) 3)) w1.heap.size n z0 ∧ ItS w1.heap.size (w1.alloc (.cells (zeros n) 3)) ad n c) := hid (fun w1 b => ⟨⟨zeros n, CB.new _ _, fun j hj => zeros_get hj⟩, ⟨w, b.size, HR.out, bel_on b ((Below.refl _ _).alloc (Nat.le_refl _) _)⟩⟩)
  have HEND : Hid (∀ w1 W : World, Below w.heap.size w w1 → Bt w1.heap.size (w1.alloc (.cells (zeros n) 3)) W → Below w.heap.size w W) := hid (fun w1 W b k => (bel_on b ((Below.refl _ _).alloc (Nat.le_refl _) _)).trans (k.2.mono b.size))
  clear hak ha0 ha1 HRB HFA
  unfold eoB eoF
  have HFQ0 : Hid (FQ (upI z0 i q)) := hid (z0_q.up i hq0 hq1)
  have HST : Hid (∀ w1 : World, Below w.heap.size w w1 → IB ((w1.alloc (.cells (zeros n) 3)).setCell ⟨w1.heap.size, i, none⟩ (.int .i64 q)) w1.heap.size n (upI z0 i q)) := hid (fun w1 b => (HMK.out w1 b).1.set hi q)
  generalize upI z0 i q = G at HFQ0 HST ⊢
  have HII : Hid (isB n c = true) := hI
  clear hI hq0 hq1
  obtain ⟨TV, hTV⟩ : ∃ b, epB c d i G (n - i) = b := ⟨_, rfl⟩
  obtain ⟨FR, hFR⟩ : ∃ f, epF c d i G (n - i) = f := ⟨_, rfl⟩
  rw [hTV, hFR]
  obtain ⟨M, hM⟩ : ∃ m, (if TV = true then n else 0) = m := ⟨_, rfl⟩
  rw [hM]
  have HTV : Hid (epB c d i G (n - i) = TV) := hTV
  have HFR : Hid (epF c d i G (n - i) = FR) := hFR
  have HMM : Hid ((if TV = true then n else 0) = M) := hM
  clear hTV hFR hM
  go_enter Try.func23, Try.ntmps23
  go_wp2_with (go_at_call 56; refine (l17Asked_eq ad n cap c (i : Int) q d _ _ h HZ.out HR.out HAK.out).mono ?_; rintro e w1 ⟨rfl, b1⟩; have HB1 : Hid (Below w.heap.size w w1) := b1; clear b1; have x1 := (HMK.out w1 HB1.out).1.cell hi; have f1 := (HMK.out w1 HB1.out).1.fr i; generalize z0 i = A at x1)
  have HIT : Hid (∀ W, Bt w1.heap.size (w1.alloc (.cells (zeros n) 3)) W → ItS w1.heap.size W ad n c ∧ Below w.heap.size w W) := hid (fun W b => ⟨((HMK.out w1 HB1.out).2).on b, HEND.out w1 W HB1.out b⟩)
  have HLW : Hid (w.heap.size ≤ w1.heap.size) := HB1.out.size
  have H1 : Hid (epB c d i G 0 = true ∧ IB ((w1.alloc (.cells (zeros n) 3)).setCell ⟨w1.heap.size, i, none⟩ (.int .i64 q)) w1.heap.size n (epF c d i G 0) ∧ Bt w1.heap.size (w1.alloc (.cells (zeros n) 3)) ((w1.alloc (.cells (zeros n) 3)).setCell ⟨w1.heap.size, i, none⟩ (.int .i64 q))) := hid ⟨rfl, HST.out w1 HB1.out, (Bt.refl _ _).set _ _⟩
  clear HMK HEND HB1 HST x1 f1
  have eA : (w1.alloc (.cells (zeros n) 3)).setCell ⟨w1.heap.size, i, none⟩ (.int .i64 q) = w1.alloc (.cells ((zeros n).setIfInBounds i (.int .i64 q)) 3) := by go_simp
  rw [eA] at H1
  clear eA
  generalize w1.alloc (.cells ((zeros n).setIfInBounds i (.int .i64 q)) 3) = WB at H1 ⊢
  generalize w1.alloc (.cells (zeros n) 3) = WA at H1 HIT
  generalize w1.heap.size = LB at H1 HIT HLW ⊢
  go_loopw [11] (fun v wr => ∃ (k : Nat), i + k ≤ n ∧ v = .int .i64 ((i + k : Nat) : Int) ∧ Hid (epB c d i G k = true ∧ IB wr LB n (epF c d i G k) ∧ Bt LB WA wr)) (fun v _ => n - (intOf v).toNat)
  case atStart => exact ⟨0, by omega, rfl, H1⟩
  case round =>
    clear H1
    obtain ⟨k, hk, rfl, HH⟩ := hrel
    obtain ⟨wo, rfl⟩ : ∃ x, x = wr := ⟨wr, rfl⟩
    obtain ⟨p, hp⟩ : ∃ p, i + k = p := ⟨_, rfl⟩
    have HPP : Hid (i + k = p) := hp
    rw [hp] at hk ⊢
    clear hp
    by_cases hlt : p < n
    · have hlt2 : (p : Int) < (n : Int) := by omega
      have HITS := hid (HIT.out wo HH.out.2.2).1
      have HIX : Hid (∀ W, Bt LB WA W → Below w.heap.size w W) := hid (fun W b => (HIT.out W b).2)
      obtain ⟨w0, hw0, hI0, hBw0⟩ := HITS.out
      obtain ⟨kb, off, rfl, hkb⟩ := hI0.addr (by omega)
      obtain ⟨ra, rc, sa, sc, _, _, c0, c1, c2, c3, c4, r5, r6⟩ := hI0.cell hlt
      obtain ⟨g1, g2, g3, g4, g5⟩ := isB_it HII.out hlt
      have hLB : LB < wo.heap.size := HH.out.2.1.lt
      have d3 := keep_cell hBw0 c3
      have HFQ : Hid (FQ (epF c d i G k)) := hid (epF_q HFQ0.out k HH.out.1)
      have HNB : Hid (epB c d i G (k + 1) = epO c d (epF c d i G k) p) := hid (by show (epB c d i G k && epO c d (epF c d i G k) (i + k)) = _; rw [HH.out.1, HPP.out]; rfl)
      have HNF : Hid (epF c d i G (k + 1) = epS c d (epF c d i G k) p) := hid (by show epS _ _ _ (i + k) = _; rw [HPP.out])
      have HMO : Hid (epB c d i G (k + 1) = false → epB c d i G (n - i) = false) := hid (fun h => epB_mono _ (by have := HPP.out; omega) h)
      have HCO : Hid (Calls Try.prog 59 #[.slice ra (c p).parn rc, .int .i64 d] wo fun e w' => ∃ ad2 oc, e = .returned (.slice ad2 (cnN (c p).parz d (c p).parn) oc) ∧ Below wo.heap.size wo w') := hid ((l17Counting_any ra _ rc _ d wo (by omega) (r5.below hBw0) (fun j hj => (g4 j hj).1.2.2.2)).mono (by rintro e w' ⟨x1, x2, x3, _, x4⟩; exact ⟨x1, x2, x3, x4⟩))
      have HXP : Hid (∀ W, Below wo.heap.size wo W → Calls Try.prog 57 #[.slice (some ⟨LB, 0, none⟩) n n, .slice (some ⟨kb, off, none⟩) n cap, .int .i64 (p : Int), .int .i64 (epF c d i G k p), .int .i64 d] W (XpP n LB (xpF c d (epF c d i G k) p (epF c d i G k p)) (xpB c d (epF c d i G k) p (epF c d i G k p)) W)) := hid (fun W b => l17Expand_any _ n cap n c d LB _ p _ W HII.out (HH.out.2.1.below b) (HITS.out.on (Bt.of b (by omega))) HFQ.out hlt (HFQ.out p).1 (HFQ.out p).2)
      have HXZ : Hid (epF c d i G k p = 0 → epO c d (epF c d i G k) p = true ∧ epS c d (epF c d i G k) p = epF c d i G k) := hid (fun e => by
        obtain ⟨e1, e2⟩ := xp_zero (d := d) HII.out hlt HFQ.out
        unfold epO epS
        rw [e, e1, e2]
        exact ⟨ite_self _, ite_self _⟩)
      have HMW : Hid (∀ W, Below wo.heap.size wo W → IB W LB n (epF c d i G k) ∧ Bt LB WA W) := hid (fun W b => ⟨HH.out.2.1.below b, HH.out.2.2.on b (by omega)⟩)
      have HCE : Hid (∀ W, Below wo.heap.size wo W → W.cell? ⟨LB, p, none⟩ = some (.int .i64 (epF c d i G k p))) := hid (fun W b => (HH.out.2.1.below b).cell hlt)
      have fl := HH.out.2.1.fr p
      have hg := HFQ.out p
      have cl := HCE.out wo (Below.refl _ _)
      clear c0 c1 c2 c3 c4 r5 r6 hI0 g1 g2 g3 g4 g5 HH HFQ HIT hBw0 hw0 hkb
      unfold epO at HNB HXZ
      unfold epS at HNF HXZ
      generalize xpF c d (epF c d i G k) p (epF c d i G k p) = XF at HNF HXP HXZ
      generalize xpB c d (epF c d i G k) p (epF c d i G k p) = XB at HNB HXP HXZ
      generalize epF c d i G k p = Q at HXP HCE hg cl HXZ
      generalize epF c d i G k = g at HNF HMW HXZ
      have HCN : Hid (∃ N, cnN (c p).parz d (c p).parn = N) := ⟨_, rfl⟩
      obtain ⟨N, hN⟩ := HCN.out
      rw [hN] at HNB HNF HCO HXZ
      clear hN HCN
      generalize (c p).parn = rn at d3 HCO
      by_cases hq : 0 < Q
      · have d0 : decide (0 < Q) = true := decide_eq_true hq
        clear HXZ
        by_cases hm : 0 < N
        · have hm2 : (0 : Int) < (N : Int) := by omega
          rw [if_pos hm] at HNB HNF
          have HLL : Hid (∀ W, Below wo.heap.size wo W → W.cell? ⟨LB, p, none⟩ = some (.int .i64 Q)) := HCE
          go_wp2_with (first
            | (go_at_call 59; refine HCO.out.mono ?_; rintro e w1 ⟨ad2, oc, rfl, b1⟩; have HB1 : Hid (Below wo.heap.size wo w1) := b1; clear b1; have cl1 := HCE.out w1 HB1.out)
            | (go_at_call 57; refine (HXP.out _ HB1.out).mono ?_; rintro e w2 ⟨rfl, b2, g2⟩; have HB2 : Hid (Bt LB WA w2 ∧ (XB = true → IB w2 LB n XF)) := hid ⟨(HMW.out w1 HB1.out).2.trans b2, g2⟩; clear b2 g2))
          · obtain rfl : XB = false := by rename_i hh; simpa using hh
            obtain rfl : TV = false := HTV.out.symm.trans (HMO.out HNB.out)
            obtain rfl : M = 0 := HMM.out.symm
            have HBW := hid (HIX.out w2 HB2.out.1)
            go_returns
            first | exact ⟨_, ⟨_, rfl⟩, .inl rfl, bel_on HBW.out ((Below.refl _ _).alloc (Nat.le_refl _) _)⟩ | exact ⟨_, _, rfl, .inl rfl, bel_on HBW.out ((Below.refl _ _).alloc (Nat.le_refl _) _)⟩ | exact ⟨_, _, .inl rfl, bel_on HBW.out ((Below.refl _ _).alloc (Nat.le_refl _) _)⟩
          · obtain rfl : XB = true := by rename_i hh; simpa using hh
            have HN : Hid (epB c d i G (k + 1) = true ∧ IB w2 LB n (epF c d i G (k + 1)) ∧ Bt LB WA w2) := hid ⟨HNB.out, by rw [HNF.out]; exact HB2.out.2 rfl, HB2.out.1⟩
            go_roundw
            case rel => exact ⟨k + 1, by have := HPP.out; omega, by have := HPP.out; go_num, HN⟩
            case measure => simp [intOf]; omega
        · have hm2 : ¬ (0 : Int) < (N : Int) := by omega
          rw [if_neg hm] at HNB HNF
          clear HXP
          go_wp2_with (go_at_call 59; refine HCO.out.mono ?_; rintro e w1 ⟨ad2, oc, rfl, b1⟩; have HB1 : Hid (Below wo.heap.size wo w1) := b1; clear b1)
          have HN : Hid (epB c d i G (k + 1) = true ∧ IB w1 LB n (epF c d i G (k + 1)) ∧ Bt LB WA w1) := hid ⟨HNB.out, by rw [HNF.out]; exact (HMW.out w1 HB1.out).1, (HMW.out w1 HB1.out).2⟩
          go_roundw
          case rel => exact ⟨k + 1, by have := HPP.out; omega, by have := HPP.out; go_num, HN⟩
          case measure => simp [intOf]; omega
      · have d0 : decide (0 < Q) = false := decide_eq_false hq
        have hq0 : Q = 0 := by omega
        have HN : Hid (epB c d i G (k + 1) = true ∧ IB wo LB n (epF c d i G (k + 1)) ∧ Bt LB WA wo) := hid ⟨by rw [HNB.out]; exact (HXZ.out hq0).1, by rw [HNF.out, (HXZ.out hq0).2]; exact (HMW.out wo (Below.refl _ _)).1, (HMW.out wo (Below.refl _ _)).2⟩
        clear HXP HXZ HCO
        go_wp2
        go_roundw
        case rel => exact ⟨k + 1, by have := HPP.out; omega, by have := HPP.out; go_num, HN⟩
        case measure => simp [intOf]; omega
    · obtain rfl : p = n := by omega
      have hkn : p - i = k := by have := HPP.out; omega
      have lpp : ¬ (p : Int) < (p : Int) := by omega
      obtain rfl : TV = true := by rw [← HTV.out, hkn]; exact HH.out.1
      obtain rfl : p = M := HMM.out
      obtain rfl : epF c d i G k = FR := by rw [← HFR.out, hkn]
      have HFI := hid (HH.out.2.1.own HLW.out)
      have HBW := hid (HIT.out wo HH.out.2.2).2
      clear hkn
      go_wp2
      go_returns
      first | exact ⟨_, ⟨_, rfl⟩, HFI.out, HBW.out⟩ | exact ⟨_, _, rfl, HFI.out, HBW.out⟩
end Go.Proofs.Ytmbdeafpfdeigaa

namespace Go.Proofs.Ytmbdeafpfdeigaa
open Go Go.ChangeShapes Go.WideShapes Go.ChangeAt Go.RowKit
set_option linter.unusedVariables false
set_option linter.unusedSimpArgs false

theorem exF_q2 {f : Nat → Int} {nb : Int} {c : Nat → PA6} (hf : ∀ j, 0 ≤ f j ∧ f j ≤ 2000000) : ∀ k, exB f nb c k = true → ∀ j, 0 ≤ exF f nb c k j ∧ exF f nb c k j ≤ 2000000
  | 0, _ => hf
  | k + 1, h => fun j => by
    simp only [exB, Bool.and_eq_true] at h
    have ih := exF_q2 hf k h.1
    show 0 ≤ upI _ _ _ j ∧ upI _ _ _ j ≤ 2000000
    by_cases e : j = (c k).item.toNat
    · subst e
      rw [upI_eq]
      have := h.2
      simp only [stB, Bool.and_eq_true] at this
      have := inB_t this.2
      omega
    · rw [upI_ne e]; exact ih j
theorem exF_off {f : Nat → Int} {nb : Int} {c : Nat → PA6} {i : Nat} : ∀ k, (∀ j, j < k → (c j).item.toNat ≠ i) → exF f nb c k i = f i
  | 0, _ => rfl
  | k + 1, h => by
    show upI _ _ _ i = _
    rw [upI_ne (fun e => h k (by omega) e.symm)]
    exact exF_off k (fun j hj => h j (by omega))
theorem tk_scr {nb : Int} {p : PA6} (h0 : 0 ≤ nb * p.qty) (h1 : nb * p.qty ≤ 1000000) (hs : p.scr = 0) : tk nb p = nb * p.qty := by
  obtain ⟨m1, m2, m3, m4⟩ := md_tk h0 (by omega) (show 0 ≤ p.scr ∧ p.scr ≤ 100 by omega)
  have hc := dv_ceil (nb * p.qty * (100 + p.scr)) (by rw [hs]; omega)
  unfold tk mdV
  rw [if_pos (m1 h1), hc, hs]
  omega
set_option maxRecDepth 20000 in
set_option maxHeartbeats 8000000 in
theorem specOutput_any (ad : Option Addr) (n cap : Nat) (c : Nat → IT) (a q d : Int) (w : World) (h : (n : Int) ≤ 1048576) (hz : IZ n c) (hr : ITr w ad n c) :
    Calls Try.prog 44 #[.slice ad n cap, .int .i64 a, .int .i64 q, .int .i64 d] w fun e w' => ∃ ad cap, e = .returned (.tuple #[.slice ad (rkM ouB n c a q d) cap, .bool (rkB ouB n c a q d)]) ∧ OwnI w' w.heap.size ad (rkM ouB n c a q d) (ouF n c d a.toNat q) ∧ Below w.heap.size w w' := by
  have HR : Hid (ITr w ad n c) := hr
  have HZ : Hid (IZ n c) := hz
  have HFA : Hid (rkB ouB n c a q d = false → rkM ouB n c a q d = 0) := hid (fun q => by unfold rkM; rw [q]; rfl)
  clear hr hz
  cases hak : akB n c a q d
  · have HV : Hid (rkB ouB n c a q d = false ∧ rkM ouB n c a q d = 0) := hid (by
      have e : rkB ouB n c a q d = false := by simp [rkB, hak]
      exact ⟨e, HFA.out e⟩)
    have HAK : Hid (akB n c a q d = false) := hak
    rw [HV.out.1, HV.out.2]
    clear hak
    go_enter Try.func44, Try.ntmps44
    go_wp2_with (go_at_call 56; refine (l17Asked_eq ad n cap c a q d _ _ h HZ.out HR.out HAK.out).mono ?_; rintro e w1 ⟨rfl, b1⟩; have HB1 : Hid (Below w.heap.size w w1) := b1; clear b1)
    go_returns
    exact ⟨_, _, rfl, .inl rfl, bel_on HB1.out ((Below.refl _ _).alloc (Nat.le_refl _) _)⟩
  have HAK : Hid (akB n c a q d = true) := hak
  obtain ⟨hI, ⟨ha0, ha1⟩, ⟨hq0, hq1⟩, _⟩ := akB_p hak
  obtain ⟨i, rfl⟩ : ∃ i : Nat, a = (i : Int) := ⟨a.toNat, by omega⟩
  have hi : i < n := by omega
  have hi2 : (i : Int) < (n : Int) := by omega
  have hn60 : (n : Int) ≤ 60 := by have := (isB_p hI).1; omega
  have hmk := mkI n (by omega)
  simp only [Int.toNat_natCast]
  have HRB : Hid (rkB ouB n c (i : Int) q d = ouB n c d i q ∧ rkM ouB n c (i : Int) q d = if ouB n c d i q = true then n else 0) := hid (by
    have e : rkB ouB n c (i : Int) q d = ouB n c d i q := by unfold rkB; rw [hak, Int.toNat_natCast]; rfl
    exact ⟨e, by unfold rkM; rw [e]⟩)
  rw [HRB.out.1, HRB.out.2]
  have HMK : Hid (∀ w1 : World, Below w.heap.size w w1 → IB (w1.alloc (.cells (zeros n) 3)) w1.heap.size n z0 ∧ ItS w1.heap.size (w1.alloc (.cells (zeros n) 3)) ad n c) := hid (fun w1 b => ⟨⟨zeros n, CB.new _ _, fun j hj => zeros_get hj⟩, ⟨w, b.size, HR.out, bel_on b ((Below.refl _ _).alloc (Nat.le_refl _) _)⟩⟩)
  have HEND : Hid (∀ w1 W : World, Below w.heap.size w w1 → Bt w1.heap.size (w1.alloc (.cells (zeros n) 3)) W → Below w.heap.size w W) := hid (fun w1 W b k => (bel_on b ((Below.refl _ _).alloc (Nat.le_refl _) _)).trans (k.2.mono b.size))
  clear hak ha0 ha1 HRB HFA
  have HII : Hid (isB n c = true) := hI
  obtain ⟨g1, g2, g3, g4, g5⟩ := isB_it hI hi
  obtain ⟨kb, off, rfl, hkb⟩ := HR.out.addr (by omega)
  obtain ⟨ra, rc, sa, sc, _, _, c0, c1, c2, c3, c4, r5, r6⟩ := HR.out.cell hi
  have HPC : Hid (∀ j, j < cnN (c i).alsz d (c i).alsn → PG n (cnC (c i).alsz d (c i).alsn j) ∧ (i : Int) + 1 ≤ (cnC (c i).alsz d (c i).alsn j).item ∧ (cnC (c i).alsz d (c i).alsn j).scr = 0) := hid (cnC_all (P := fun p => PG n p ∧ (i : Int) + 1 ≤ p.item ∧ p.scr = 0) _ (fun j hj => ⟨(g5 j hj).1, (g5 j hj).2.1, (g5 j hj).2.2.1⟩))
  have HIC : Hid (∀ W, Below w.heap.size w W → W.cell? ⟨kb, off + i * 5, none⟩ = some (.string (c i).name) ∧ W.cell? ⟨kb, off + i * 5 + 1, none⟩ = some (.int .i64 (c i).batch) ∧ W.cell? ⟨kb, off + i * 5 + 2, none⟩ = some (.bool (c i).pha) ∧ W.cell? ⟨kb, off + i * 5 + 3, none⟩ = some (.slice ra (c i).parn rc) ∧ W.cell? ⟨kb, off + i * 5 + 4, none⟩ = some (.slice sa (c i).alsn sc)) := hid (fun W b => ⟨keep_cell b c0, keep_cell b c1, keep_cell b c2, keep_cell b c3, keep_cell b c4⟩)
  have HCO : Hid (∀ W, Below w.heap.size w W → Calls Try.prog 59 #[.slice sa (c i).alsn sc, .int .i64 d] W fun e w' => ∃ ad2 oc, e = .returned (.slice ad2 (cnN (c i).alsz d (c i).alsn) oc) ∧ OwnPA6 w' W.heap.size ad2 (cnN (c i).alsz d (c i).alsn) (cnC (c i).alsz d (c i).alsn) ∧ Below W.heap.size W w') := hid (fun W b => l17Counting_any sa _ sc _ d W (by omega) (r6.below b) (fun j hj => (g5 j hj).1.2.2.2))
  obtain ⟨b0, b1⟩ := bat_bd hq0 g1.1
  have hmd := bat_made hq0 g1.1
  have hmd0 : 0 ≤ bat q (c i).batch * (c i).batch := Int.mul_nonneg b0 (by omega)
  have HBF : Hid (∀ W, Calls Try.prog 95 #[.agg #[.string (c i).name, .int .i64 (c i).batch, .bool (c i).pha, .slice ra (c i).parn rc, .slice sa (c i).alsn sc], .int .i64 q] W fun e w' => e = .returned (.int .i64 (bat q (c i).batch)) ∧ Below W.heap.size W w') := hid (fun W => l17Batches_any _ _ _ _ _ _ _ _ _ q W hq0 hq1 g1.1 g1.2)
  have hN := cnN_le (c i).alsz d (c i).alsn
  have hN30 : (cnN (c i).alsz d (c i).alsn : Int) ≤ 30 := by omega
  unfold ouB ouF brB brF
  rw [show z0 i = 0 from rfl, Int.zero_add]
  have hkw : kb < w.heap.size := cell_lt c0
  clear c0 c1 c2 c3 c4 r5 r6 g2 g3 g4 g5 hN hI
  generalize cnN (c i).alsz d (c i).alsn = N at *
  generalize cnC (c i).alsz d (c i).alsn = C at *
  generalize bat q (c i).batch = NB at *
  generalize (c i).name = nm at HIC HBF
  generalize (c i).batch = ba at *
  generalize (c i).pha = ph at HIC HBF
  generalize (c i).parn = rn at HIC HBF
  generalize (c i).alsn = sn at *
  have hwb : IntKind.i64.wrap (NB * ba) = NB * ba := IntWalk.i64_in _ ⟨by omega, by omega⟩
  have hMD : NB * ba ≤ 2000000 := by omega
  have hb1 : NB ≤ 1000000 := by omega
  have HF2 : Hid (∀ j, 0 ≤ upI z0 i (NB * ba) j ∧ upI z0 i (NB * ba) j ≤ 2000000) := hid (fun j => by
    by_cases e : j = i
    · subst e; rw [upI_eq]; exact ⟨hmd0, hMD⟩
    · rw [upI_ne e]; exact ⟨Int.le_refl _, by show (0 : Int) ≤ _; omega⟩)
  have HOF : Hid (∀ k, k ≤ N → exF (upI z0 i (NB * ba)) NB C k i = NB * ba) := hid (fun k hk => by
    rw [exF_off k (fun j hj => by have := (HPC.out j (by omega)).2.1; omega), upI_eq])
  have HSET : Hid (∀ W : World, ∀ LB : Nat, IB W LB n z0 → IB (W.setCell ⟨LB, i, none⟩ (.int .i64 (NB * ba))) LB n (upI z0 i (NB * ba))) := hid (fun W LB h => h.set hi _)
  generalize upI z0 i (NB * ba) = F0 at HF2 HOF HSET ⊢
  obtain ⟨TV, hTV⟩ : ∃ b, (inB (NB * ba) 0 1000000 && exB F0 NB C N) = b := ⟨_, rfl⟩
  obtain ⟨FR, hFR⟩ : ∃ f, exF F0 NB C N = f := ⟨_, rfl⟩
  rw [hTV, hFR]
  obtain ⟨M, hM⟩ : ∃ m, (if TV = true then n else 0) = m := ⟨_, rfl⟩
  rw [hM]
  have HTV : Hid ((inB (NB * ba) 0 1000000 && exB F0 NB C N) = TV) := hTV
  have HFR : Hid (exF F0 NB C N = FR) := hFR
  have HMM : Hid ((if TV = true then n else 0) = M) := hM
  clear hTV hFR hM hmd
  go_enter Try.func44, Try.ntmps44
  go_wp2_with (first
    | (go_at_call 56; refine (l17Asked_eq _ n cap c (i : Int) q d _ _ h HZ.out HR.out HAK.out).mono ?_; rintro e w1 ⟨rfl, b1⟩; have HB1 : Hid (Below w.heap.size w w1) := b1; clear b1; have HA : Hid (IB (w1.alloc (.cells (zeros n) 3)) w1.heap.size n z0 ∧ ItS w1.heap.size (w1.alloc (.cells (zeros n) 3)) (some ⟨kb, off, none⟩) n c) := hid (HMK.out w1 HB1.out); obtain ⟨k0, k1, k2, k3, k4⟩ := HIC.out _ (HEND.out w1 _ HB1.out (Bt.refl _ _)))
    | (go_at_call 95; refine (HBF.out _).mono ?_; rintro e w2 ⟨rfl, b2⟩; have HB2 : Hid (Below (w1.alloc (.cells (zeros n) 3)).heap.size (w1.alloc (.cells (zeros n) 3)) w2) := b2; have HI2 := hid (HA.out.1.below b2); clear b2; have hLn : kb ≠ w1.heap.size := (by have := HB1.out.size; omega); have HB3 : Hid (Below w.heap.size w w2) := hid (HEND.out w1 w2 HB1.out (Bt.of HB2.out (by have := HA.out.1.lt; omega))); have HB4 : Hid (Bt w1.heap.size (w1.alloc (.cells (zeros n) 3)) (w2.setCell ⟨w1.heap.size, i, none⟩ (.int .i64 (NB * ba)))) := hid ((Bt.of HB2.out (by have := HA.out.1.lt; omega)).set _ _); have m1 := (HIC.out _ HB3.out).2.1; have m4 := (HIC.out _ HB3.out).2.2.2.2; have m5 := (HIC.out _ (HEND.out w1 _ HB1.out HB4.out)).2.2.2.2; have x1 := HI2.out.cell hi; have f1 := HI2.out.fr i; generalize z0 i = A at x1)
    | (go_at_call 59; refine (HCO.out _ (HEND.out w1 _ HB1.out HB4.out)).mono ?_; rintro e w4 ⟨ad2, oc, rfl, o4, b4⟩; have H1 : Hid (exB F0 NB C 0 = true ∧ IB w4 w1.heap.size n (exF F0 NB C 0) ∧ OwnPA6 w4 (w2.setCell ⟨w1.heap.size, i, none⟩ (.int .i64 (NB * ba))).heap.size ad2 N C ∧ Bt w1.heap.size (w1.alloc (.cells (zeros n) 3)) w4) := hid ⟨rfl, (HSET.out _ _ HI2.out).below b4, o4, HB4.out.on b4 (by have := (HSET.out _ _ HI2.out).lt; omega)⟩; have hLO : w1.heap.size < (w2.setCell ⟨w1.heap.size, i, none⟩ (.int .i64 (NB * ba))).heap.size := (HSET.out _ _ HI2.out).lt; clear o4 b4))
  have HIT : Hid (∀ W, Bt w1.heap.size (w1.alloc (.cells (zeros n) 3)) W → Below w.heap.size w W) := hid (fun W b => HEND.out w1 W HB1.out b)
  have HLW : Hid (w.heap.size ≤ w1.heap.size) := HB1.out.size
  clear HMK HEND HB1 HSET x1 f1 HB2 HB3 HB4 HI2 k0 k1 k2 k3 k4 m1 m4 m5 HA HIC HCO HBF
  generalize (w2.setCell ⟨w1.heap.size, i, none⟩ (.int .i64 (NB * ba))).heap.size = LO at H1 hLO
  generalize w1.alloc (.cells (zeros n) 3) = WA at H1 HIT
  generalize w1.heap.size = LB at H1 HIT HLW hLn hLO ⊢
  go_loopw [13] (fun v wr => ∃ (k : Nat), k ≤ N ∧ v = .int .i64 (k : Int) ∧ Hid (exB F0 NB C k = true ∧ IB wr LB n (exF F0 NB C k) ∧ OwnPA6 wr LO ad2 N C ∧ Bt LB WA wr)) (fun v _ => N - (intOf v).toNat)
  case atStart => exact ⟨0, Nat.zero_le _, rfl, H1⟩
  case round =>
    clear H1
    obtain ⟨p, hp, rfl, HH⟩ := hrel
    obtain ⟨wo, rfl⟩ : ∃ x, x = wr := ⟨wr, rfl⟩
    by_cases hlt : p < N
    · have hlt2 : (p : Int) < (N : Int) := by omega
      obtain ⟨kc, of2, e2, hkc⟩ := HH.out.2.2.1.row.addr (by omega)
      have hkw2 : LO ≤ kc := by
        rcases HH.out.2.2.1 with h0 | ⟨g, cs, e, h1, _⟩
        · omega
        · rw [e] at e2; cases e2; exact h1
      subst e2
      obtain ⟨c0, c1, c2, c3, c4, c5⟩ := HH.out.2.2.1.row.cell hlt
      obtain ⟨hpq, hpi, hps⟩ := HPC.out p hlt
      have hfq := exF_q2 HF2.out p HH.out.1
      have hST : Hid (exB F0 NB C (p + 1) = stB (exF F0 NB C p) NB (C p)) := hid (by show (exB F0 NB C p && _) = _; rw [HH.out.1]; rfl)
      have hEX : Hid (exF F0 NB C (p + 1) = upI (exF F0 NB C p) (C p).item.toNat (exF F0 NB C p (C p).item.toNat + tk NB (C p))) := rfl
      have HSP : Hid (∀ m, p + 1 ≤ m → exB F0 NB C (p + 1) = false → exB F0 NB C m = false) := hid (fun m h1 h2 => exB_mono m h1 h2)
      have HFQ : Hid (∀ j, 0 ≤ exF F0 NB C p j ∧ exF F0 NB C p j ≤ 2000000) := hfq
      have HMo : Hid (IB wo LB n (exF F0 NB C p)) := HH.out.2.1
      obtain ⟨hi0, hi1⟩ := hpq.1
      have hqt := hpq.2.1
      obtain ⟨P, hP⟩ : ∃ P : Nat, (C p).item = (P : Int) := ⟨(C p).item.toNat, by omega⟩
      have hq0 : 0 ≤ NB * (C p).qty := Int.mul_nonneg b0 (by omega)
      have hq1 : NB * (C p).qty ≤ 1000000 * 1000000 := by
        have e1 : NB * (C p).qty ≤ 1000000 * (C p).qty := Int.mul_le_mul_of_nonneg_right hb1 (by omega)
        have e2 : (1000000 : Int) * (C p).qty ≤ 1000000 * 1000000 := Int.mul_le_mul_of_nonneg_left hpq.2.1.2 (by omega)
        omega
      have HTK : Hid (inB (NB * (C p).qty) 0 1000000 = true → tk NB (C p) = NB * (C p).qty) := hid (fun h => tk_scr hq0 (inB_t h).2 hps)
      unfold stB at hST
      rw [hP] at c0 hi1 hEX hST
      simp only [Int.toNat_natCast] at hEX hST
      have hPn : P < n := by omega
      have hPn2 : (P : Int) < (n : Int) := by omega
      generalize exF F0 NB C p = g at hEX hST HFQ HMo
      clear hi0 hi1 hpq hfq hP hqt hpi hps
      generalize tk NB (C p) = T at hEX hST HTK
      generalize (C p).qty = qt at c1 hST HTK hq0 hq1
      have hwq : IntKind.i64.wrap (NB * qt) = NB * qt := IntWalk.i64_in _ ⟨by omega, by omega⟩
      have hA := HFQ.out P
      have ca := HMo.out.cell hPn
      obtain ⟨A, hAe⟩ : ∃ A, g P = A := ⟨_, rfl⟩
      rw [hAe] at hA ca hEX hST
      have hwT : IntKind.i64.wrap (A + NB * qt) = A + NB * qt := IntWalk.i64_in _ ⟨by omega, by omega⟩
      have HQ2 : Hid (OwnPA6 wo LO (some ⟨kc, of2, none⟩) N C ∧ Bt LB WA wo) := hid ⟨HH.out.2.2.1, HH.out.2.2.2⟩
      clear HH hAe hA c2 c3 c4 c5
      have nB : kc ≠ LB := by omega
      have fa := HMo.out.fr P
      have HX : Hid (wo.drew.cell? ⟨kc, of2 + p * 6, none⟩ = some (.int .i64 (P : Int)) ∧ wo.drew.cell? ⟨kc, of2 + p * 6 + 1, none⟩ = some (.int .i64 qt)) := ⟨c0, c1⟩
      have HY : Hid ((wo.setCell ⟨LB, P, none⟩ (.int .i64 (A + NB * qt))).drew.cell? ⟨kc, of2 + p * 6, none⟩ = some (.int .i64 (P : Int)) ∧ (wo.setCell ⟨LB, P, none⟩ (.int .i64 (A + NB * qt))).drew.cell? ⟨kc, of2 + p * 6 + 1, none⟩ = some (.int .i64 qt)) := hid ⟨cell_oth nB c0, cell_oth nB c1⟩
      have HCE : Hid (wo.drew.cell? ⟨LB, P, none⟩ = some (.int .i64 A)) := ca
      go_wp2
      clear c0 c1 ca
      have HY2 := HY
      refine wp_region_noPanic ?_
      refine wp_region_held_drew (S := fun w' => w'.cell? ⟨kc, of2 + p * 6, none⟩ = some (.int .i64 (P : Int)) ∧ w'.cell? ⟨kc, of2 + p * 6 + 1, none⟩ = some (.int .i64 qt)) (by kernel_rfl) (by exact HX.out) (fun hHeld => ?_)
      refine wpAnyH_take (i := 0) (oi := { dst := some 53, op := Go.Op.move (Go.Operand.tmp 10), type := 24, pos := "l17_make.go:142", after := #[], guard := none }) (v := ?_) rfl (by kernel_rfl) (by kernel_rfl) (by kernel_rfl) (fun _ _ _ h => h) (Or.inl ⟨by rfl, ?_⟩) (by assumption) ?_
      rotate_left
      · (intro w hSw; (try dsimp only at hSw); go_simp <;> try with_reducible rfl)
      try simp only [Act.put, List.setIfInBounds_toArray, List.set_cons_zero, List.set_cons_succ]
      refine wpAnyH_take (i := 1) (oi := { dst := some 54, op := Go.Op.move (Go.Operand.tmp 12), type := 29, pos := "l17_make.go:142", after := #[], guard := none }) (v := ?_) rfl (by kernel_rfl) (by kernel_rfl) (by kernel_rfl) (fun _ _ _ h => h) (Or.inl ⟨by rfl, ?_⟩) (by assumption) ?_
      rotate_left
      · (intro w hSw; (try dsimp only at hSw); go_simp <;> try with_reducible rfl)
      try simp only [Act.put, List.setIfInBounds_toArray, List.set_cons_zero, List.set_cons_succ]
      refine wpAnyH_take (i := 2) (oi := { dst := some 55, op := Go.Op.move (Go.Operand.tmp 13), type := 3, pos := "l17_make.go:142", after := #[], guard := none }) (v := ?_) rfl (by kernel_rfl) (by kernel_rfl) (by kernel_rfl) (fun _ _ _ h => h) (Or.inl ⟨by rfl, ?_⟩) (by assumption) ?_
      rotate_left
      · (intro w hSw; (try dsimp only at hSw); go_simp <;> try with_reducible rfl)
      try simp only [Act.put, List.setIfInBounds_toArray, List.set_cons_zero, List.set_cons_succ]
      refine wpAnyH_take (i := 3) (oi := { dst := some 56, op := Go.Op.indexAddr 29 (Go.Operand.tmp 54) (Go.Operand.tmp 55), type := 0, pos := "l17_make.go:142", after := #[{ on := 1, ground := Go.Ground.data }, { on := 2, ground := Go.Ground.data }], guard := none }) (v := ?_) rfl (by kernel_rfl) (by kernel_rfl) (by kernel_rfl) (fun _ _ _ h => h) (Or.inl ⟨by rfl, ?_⟩) (by assumption) ?_
      rotate_left
      · (intro w hSw; (try dsimp only at hSw); go_simp <;> try with_reducible rfl)
      try simp only [Act.put, List.setIfInBounds_toArray, List.set_cons_zero, List.set_cons_succ]
      refine wpAnyH_take (i := 4) (oi := { dst := some 57, op := Go.Op.fieldAddr 28 (Go.Operand.tmp 56) 0, type := 0, pos := "l17_make.go:142", after := #[{ on := 3, ground := Go.Ground.data }], guard := none }) (v := ?_) rfl (by kernel_rfl) (by kernel_rfl) (by kernel_rfl) (fun _ _ _ h => h) (Or.inl ⟨by rfl, ?_⟩) (by assumption) ?_
      rotate_left
      · (intro w hSw; (try dsimp only at hSw); go_simp <;> try with_reducible rfl)
      try simp only [Act.put, List.setIfInBounds_toArray, List.set_cons_zero, List.set_cons_succ]
      refine wpAnyH_take (i := 5) (oi := { dst := some 58, op := Go.Op.load 3 (Go.Operand.tmp 57), type := 3, pos := "l17_make.go:142", after := #[{ on := 4, ground := Go.Ground.data }], guard := none }) (v := ?_) rfl (by kernel_rfl) (by kernel_rfl) (by kernel_rfl) (fun _ _ _ h => h) (Or.inl ⟨by rfl, ?_⟩) (by assumption) ?_
      rotate_left
      · (intro w hSw; (try dsimp only at hSw); go_simp <;> try with_reducible rfl)
      try simp only [Act.put, List.setIfInBounds_toArray, List.set_cons_zero, List.set_cons_succ]
      refine wpAnyH_take (i := 6) (oi := { dst := some 59, op := Go.Op.move (Go.Operand.tmp 10), type := 24, pos := "l17_make.go:142", after := #[], guard := none }) (v := ?_) rfl (by kernel_rfl) (by kernel_rfl) (by kernel_rfl) (fun _ _ _ h => h) (Or.inl ⟨by rfl, ?_⟩) (by assumption) ?_
      rotate_left
      · (intro w hSw; (try dsimp only at hSw); go_simp <;> try with_reducible rfl)
      try simp only [Act.put, List.setIfInBounds_toArray, List.set_cons_zero, List.set_cons_succ]
      refine wpAnyH_take (i := 7) (oi := { dst := some 60, op := Go.Op.move (Go.Operand.tmp 12), type := 29, pos := "l17_make.go:142", after := #[], guard := none }) (v := ?_) rfl (by kernel_rfl) (by kernel_rfl) (by kernel_rfl) (fun _ _ _ h => h) (Or.inl ⟨by rfl, ?_⟩) (by assumption) ?_
      rotate_left
      · (intro w hSw; (try dsimp only at hSw); go_simp <;> try with_reducible rfl)
      try simp only [Act.put, List.setIfInBounds_toArray, List.set_cons_zero, List.set_cons_succ]
      refine wpAnyH_take (i := 8) (oi := { dst := some 61, op := Go.Op.move (Go.Operand.tmp 13), type := 3, pos := "l17_make.go:142", after := #[], guard := none }) (v := ?_) rfl (by kernel_rfl) (by kernel_rfl) (by kernel_rfl) (fun _ _ _ h => h) (Or.inl ⟨by rfl, ?_⟩) (by assumption) ?_
      rotate_left
      · (intro w hSw; (try dsimp only at hSw); go_simp <;> try with_reducible rfl)
      try simp only [Act.put, List.setIfInBounds_toArray, List.set_cons_zero, List.set_cons_succ]
      refine wpAnyH_take (i := 9) (oi := { dst := some 62, op := Go.Op.indexAddr 29 (Go.Operand.tmp 60) (Go.Operand.tmp 61), type := 0, pos := "l17_make.go:142", after := #[{ on := 7, ground := Go.Ground.data }, { on := 8, ground := Go.Ground.data }], guard := none }) (v := ?_) rfl (by kernel_rfl) (by kernel_rfl) (by kernel_rfl) (fun _ _ _ h => h) (Or.inl ⟨by rfl, ?_⟩) (by assumption) ?_
      rotate_left
      · (intro w hSw; (try dsimp only at hSw); go_simp <;> try with_reducible rfl)
      try simp only [Act.put, List.setIfInBounds_toArray, List.set_cons_zero, List.set_cons_succ]
      refine wpAnyH_take (i := 10) (oi := { dst := some 63, op := Go.Op.fieldAddr 28 (Go.Operand.tmp 62) 0, type := 0, pos := "l17_make.go:142", after := #[{ on := 9, ground := Go.Ground.data }], guard := none }) (v := ?_) rfl (by kernel_rfl) (by kernel_rfl) (by kernel_rfl) (fun _ _ _ h => h) (Or.inl ⟨by rfl, ?_⟩) (by assumption) ?_
      rotate_left
      · (intro w hSw; (try dsimp only at hSw); go_simp <;> try with_reducible rfl)
      try simp only [Act.put, List.setIfInBounds_toArray, List.set_cons_zero, List.set_cons_succ]
      refine wpAnyH_take (i := 11) (oi := { dst := some 64, op := Go.Op.load 3 (Go.Operand.tmp 63), type := 3, pos := "l17_make.go:142", after := #[{ on := 10, ground := Go.Ground.data }], guard := none }) (v := ?_) rfl (by kernel_rfl) (by kernel_rfl) (by kernel_rfl) (fun _ _ _ h => h) (Or.inl ⟨by rfl, ?_⟩) (by assumption) ?_
      rotate_left
      · (intro w hSw; (try dsimp only at hSw); go_simp <;> try with_reducible rfl)
      try simp only [Act.put, List.setIfInBounds_toArray, List.set_cons_zero, List.set_cons_succ]
      refine wpAnyH_take (i := 12) (oi := { dst := some 65, op := Go.Op.indexAddr 24 (Go.Operand.tmp 59) (Go.Operand.tmp 64), type := 0, pos := "l17_make.go:142", after := #[{ on := 6, ground := Go.Ground.data }, { on := 11, ground := Go.Ground.data }], guard := none }) (v := ?_) rfl (by kernel_rfl) (by kernel_rfl) (by kernel_rfl) (fun _ _ _ h => h) (Or.inl ⟨by rfl, ?_⟩) (by assumption) ?_
      rotate_left
      · (intro w hSw; (try dsimp only at hSw); go_simp <;> try with_reducible rfl)
      try simp only [Act.put, List.setIfInBounds_toArray, List.set_cons_zero, List.set_cons_succ]
      refine wpAnyH_take (i := 14) (oi := { dst := some 67, op := Go.Op.move (Go.Operand.tmp 11), type := 3, pos := "l17_make.go:142", after := #[], guard := none }) (v := ?_) rfl (by kernel_rfl) (by kernel_rfl) (by kernel_rfl) (fun _ _ _ h => h) (Or.inl ⟨by rfl, ?_⟩) (by assumption) ?_
      rotate_left
      · (intro w hSw; (try dsimp only at hSw); go_simp <;> try with_reducible rfl)
      try simp only [Act.put, List.setIfInBounds_toArray, List.set_cons_zero, List.set_cons_succ]
      refine wpAnyH_take (i := 15) (oi := { dst := some 68, op := Go.Op.move (Go.Operand.tmp 12), type := 29, pos := "l17_make.go:142", after := #[], guard := none }) (v := ?_) rfl (by kernel_rfl) (by kernel_rfl) (by kernel_rfl) (fun _ _ _ h => h) (Or.inl ⟨by rfl, ?_⟩) (by assumption) ?_
      rotate_left
      · (intro w hSw; (try dsimp only at hSw); go_simp <;> try with_reducible rfl)
      try simp only [Act.put, List.setIfInBounds_toArray, List.set_cons_zero, List.set_cons_succ]
      refine wpAnyH_take (i := 16) (oi := { dst := some 69, op := Go.Op.move (Go.Operand.tmp 13), type := 3, pos := "l17_make.go:142", after := #[], guard := none }) (v := ?_) rfl (by kernel_rfl) (by kernel_rfl) (by kernel_rfl) (fun _ _ _ h => h) (Or.inl ⟨by rfl, ?_⟩) (by assumption) ?_
      rotate_left
      · (intro w hSw; (try dsimp only at hSw); go_simp <;> try with_reducible rfl)
      try simp only [Act.put, List.setIfInBounds_toArray, List.set_cons_zero, List.set_cons_succ]
      refine wpAnyH_take (i := 17) (oi := { dst := some 70, op := Go.Op.indexAddr 29 (Go.Operand.tmp 68) (Go.Operand.tmp 69), type := 0, pos := "l17_make.go:142", after := #[{ on := 15, ground := Go.Ground.data }, { on := 16, ground := Go.Ground.data }], guard := none }) (v := ?_) rfl (by kernel_rfl) (by kernel_rfl) (by kernel_rfl) (fun _ _ _ h => h) (Or.inl ⟨by rfl, ?_⟩) (by assumption) ?_
      rotate_left
      · (intro w hSw; (try dsimp only at hSw); go_simp <;> try with_reducible rfl)
      try simp only [Act.put, List.setIfInBounds_toArray, List.set_cons_zero, List.set_cons_succ]
      refine wpAnyH_take (i := 18) (oi := { dst := some 71, op := Go.Op.fieldAddr 28 (Go.Operand.tmp 70) 1, type := 0, pos := "l17_make.go:142", after := #[{ on := 17, ground := Go.Ground.data }], guard := none }) (v := ?_) rfl (by kernel_rfl) (by kernel_rfl) (by kernel_rfl) (fun _ _ _ h => h) (Or.inl ⟨by rfl, ?_⟩) (by assumption) ?_
      rotate_left
      · (intro w hSw; (try dsimp only at hSw); go_simp <;> try with_reducible rfl)
      try simp only [Act.put, List.setIfInBounds_toArray, List.set_cons_zero, List.set_cons_succ]
      refine wpAnyH_take (i := 19) (oi := { dst := some 72, op := Go.Op.load 3 (Go.Operand.tmp 71), type := 3, pos := "l17_make.go:142", after := #[{ on := 18, ground := Go.Ground.data }], guard := none }) (v := ?_) rfl (by kernel_rfl) (by kernel_rfl) (by kernel_rfl) (fun _ _ _ h => h) (Or.inl ⟨by rfl, ?_⟩) (by assumption) ?_
      rotate_left
      · (intro w hSw; (try dsimp only at hSw); go_simp <;> try with_reducible rfl)
      try simp only [Act.put, List.setIfInBounds_toArray, List.set_cons_zero, List.set_cons_succ]
      refine wpAnyH_take (i := 20) (oi := { dst := some 73, op := Go.Op.binOp Go.BinOp.mul 3 (Go.Operand.tmp 67) (Go.Operand.tmp 72) 3, type := 3, pos := "l17_make.go:142", after := #[{ on := 14, ground := Go.Ground.data }, { on := 19, ground := Go.Ground.data }], guard := none }) (v := ?_) rfl (by kernel_rfl) (by kernel_rfl) (by kernel_rfl) (fun _ _ _ h => h) (Or.inl ⟨by rfl, ?_⟩) (by assumption) ?_
      rotate_left
      · (intro w hSw; (try dsimp only at hSw); go_simp <;> try with_reducible rfl)
      try simp only [Act.put, List.setIfInBounds_toArray, List.set_cons_zero, List.set_cons_succ]
      refine wpAnyH_ready (rs := [13]) (by kernel_rfl) (by simp) ?_
      refine AllReadyH.cons (o := { dst := some 66, op := Go.Op.load 3 (Go.Operand.tmp 65), type := 3, pos := "l17_make.go:142", after := #[{ on := 12, ground := Go.Ground.data }], guard := none }) rfl (fun K hK => ?_) (AllReadyH.nil)
      have hce := HCE.out
      go_simp
      refine hK.out _ _ (by exact HX.out) (fun hHeld => ?_)
      clear hK K hce
      try simp only [Act.put, List.setIfInBounds_toArray, List.set_cons_zero, List.set_cons_succ]
      refine wpAnyH_take (i := 21) (oi := { dst := some 74, op := Go.Op.binOp Go.BinOp.add 3 (Go.Operand.tmp 66) (Go.Operand.tmp 73) 3, type := 3, pos := "l17_make.go:142", after := #[{ on := 13, ground := Go.Ground.data }, { on := 20, ground := Go.Ground.data }], guard := none }) (v := ?_) rfl (by kernel_rfl) (by kernel_rfl) (by kernel_rfl) (fun _ _ _ h => h) (Or.inl ⟨by rfl, ?_⟩) (by assumption) ?_
      rotate_left
      · (intro w hSw; (try dsimp only at hSw); go_simp <;> try with_reducible rfl)
      try simp only [Act.put, List.setIfInBounds_toArray, List.set_cons_zero, List.set_cons_succ]
      refine wpAnyH_take (i := 22) (oi := { dst := some 75, op := Go.Op.indexAddr 24 (Go.Operand.tmp 53) (Go.Operand.tmp 58), type := 0, pos := "l17_make.go:142", after := #[{ on := 0, ground := Go.Ground.data }, { on := 5, ground := Go.Ground.data }, { on := 0, ground := Go.Ground.phase }, { on := 1, ground := Go.Ground.phase }, { on := 2, ground := Go.Ground.phase }, { on := 3, ground := Go.Ground.phase }, { on := 4, ground := Go.Ground.phase }, { on := 5, ground := Go.Ground.phase }, { on := 6, ground := Go.Ground.phase }, { on := 7, ground := Go.Ground.phase }, { on := 8, ground := Go.Ground.phase }, { on := 9, ground := Go.Ground.phase }, { on := 10, ground := Go.Ground.phase }, { on := 11, ground := Go.Ground.phase }, { on := 12, ground := Go.Ground.phase }, { on := 13, ground := Go.Ground.phase }, { on := 14, ground := Go.Ground.phase }, { on := 15, ground := Go.Ground.phase }, { on := 16, ground := Go.Ground.phase }, { on := 17, ground := Go.Ground.phase }, { on := 18, ground := Go.Ground.phase }, { on := 19, ground := Go.Ground.phase }, { on := 20, ground := Go.Ground.phase }, { on := 21, ground := Go.Ground.phase }], guard := none }) (v := ?_) rfl (by kernel_rfl) (by kernel_rfl) (by kernel_rfl) (fun _ _ _ h => h) (Or.inl ⟨by rfl, ?_⟩) (by assumption) ?_
      rotate_left
      · (intro w hSw; (try dsimp only at hSw); go_simp <;> try with_reducible rfl)
      try simp only [Act.put, List.setIfInBounds_toArray, List.set_cons_zero, List.set_cons_succ]
      refine wpAnyH_ready (rs := [23]) (by kernel_rfl) (by simp) ?_
      refine AllReadyH.cons (o := { dst := none, op := Go.Op.store 3 (Go.Operand.tmp 75) (Go.Operand.tmp 74), type := 0, pos := "l17_make.go:142", after := #[{ on := 22, ground := Go.Ground.data }, { on := 21, ground := Go.Ground.data }, { on := 0, ground := Go.Ground.phase }, { on := 1, ground := Go.Ground.phase }, { on := 2, ground := Go.Ground.phase }, { on := 3, ground := Go.Ground.phase }, { on := 4, ground := Go.Ground.phase }, { on := 5, ground := Go.Ground.phase }, { on := 6, ground := Go.Ground.phase }, { on := 7, ground := Go.Ground.phase }, { on := 8, ground := Go.Ground.phase }, { on := 9, ground := Go.Ground.phase }, { on := 10, ground := Go.Ground.phase }, { on := 11, ground := Go.Ground.phase }, { on := 12, ground := Go.Ground.phase }, { on := 13, ground := Go.Ground.phase }, { on := 14, ground := Go.Ground.phase }, { on := 15, ground := Go.Ground.phase }, { on := 16, ground := Go.Ground.phase }, { on := 17, ground := Go.Ground.phase }, { on := 18, ground := Go.Ground.phase }, { on := 19, ground := Go.Ground.phase }, { on := 20, ground := Go.Ground.phase }, { on := 21, ground := Go.Ground.phase }], guard := none }) rfl (fun K hK => ?_) (AllReadyH.nil)
      have hce := HCE.out
      go_simp
      refine hK.out _ _ (by exact HY.out) (fun hHeld => ?_)
      clear hK K hce
      try simp only [Act.put, List.setIfInBounds_toArray, List.set_cons_zero, List.set_cons_succ]
      refine wpAnyH_done (by kernel_rfl) ?_ _
      refine NoPanic.normal ?_
      clear hHeld HX HY HCE
      have HN : Hid (IB (wo.setCell ⟨LB, P, none⟩ (.int .i64 (A + NB * qt))).drew LB n (upI g P (A + NB * qt)) ∧ OwnPA6 (wo.setCell ⟨LB, P, none⟩ (.int .i64 (A + NB * qt))).drew LO (some ⟨kc, of2, none⟩) N C ∧ Bt LB WA (wo.setCell ⟨LB, P, none⟩ (.int .i64 (A + NB * qt))).drew ∧ ((wo.setCell ⟨LB, P, none⟩ (.int .i64 (A + NB * qt))).drew.cell? ⟨kc, of2 + p * 6, none⟩ = some (.int .i64 (P : Int)) ∧ (wo.setCell ⟨LB, P, none⟩ (.int .i64 (A + NB * qt))).drew.cell? ⟨kc, of2 + p * 6 + 1, none⟩ = some (.int .i64 qt)) ∧ (wo.setCell ⟨LB, P, none⟩ (.int .i64 (A + NB * qt))).drew.cell? ⟨LB, P, none⟩ = some (.int .i64 (A + NB * qt))) := hid (by
        have e1 : IB (wo.setCell ⟨LB, P, none⟩ (.int .i64 (A + NB * qt))).drew LB n (upI g P (A + NB * qt)) := IB.dr (HMo.out.set hPn _)
        refine ⟨e1, (HQ2.out.1.bt ((Bt.refl _ _).set _ _).drew (by omega)), (HQ2.out.2.set _ _).drew, HY2.out, ?_⟩
        have := e1.cell hPn
        rw [upI_eq] at this; exact this)
      clear fa HQ2 HMo HY2
      generalize (wo.setCell ⟨LB, P, none⟩ (.int .i64 (A + NB * qt))).drew = W9 at HN ⊢
      obtain ⟨y0, y3⟩ := HN.out.2.2.2.1
      have y1 := HN.out.2.2.2.2
      cases hx : inB (NB * qt) 0 1000000
      · obtain rfl : TV = false := by rw [← HTV.out, HSP.out N (by omega) (by rw [hST.out, hx]; rfl), Bool.and_false]
        obtain rfl : M = 0 := HMM.out.symm
        have HXX : Hid (inB (NB * qt) 0 1000000 = false) := hx
        have HBW := hid (HIT.out W9 HN.out.2.2.1)
        clear hx
        go_wp2_with (go_at_call 96; refine (l12Qty_eq _ _ _ HXX.out).mono ?_; rintro e w4 ⟨rfl, ew⟩; replace ew := ew.symm; subst ew)
        go_returns
        first | exact ⟨_, ⟨_, rfl⟩, .inl rfl, bel_on HBW.out ((Below.refl _ _).alloc (Nat.le_refl _) _)⟩ | exact ⟨_, _, rfl, .inl rfl, bel_on HBW.out ((Below.refl _ _).alloc (Nat.le_refl _) _)⟩ | exact ⟨_, _, .inl rfl, bel_on HBW.out ((Below.refl _ _).alloc (Nat.le_refl _) _)⟩
      have HXX : Hid (inB (NB * qt) 0 1000000 = true) := hx
      rw [hx, Bool.true_and, HTK.out hx] at hST
      rw [HTK.out hx] at hEX
      clear hx
      obtain ⟨v, hvv⟩ : ∃ v, inB (A + NB * qt) 0 1000000 = v := ⟨_, rfl⟩
      rw [hvv] at hST
      have HV3 : Hid (inB (A + NB * qt) 0 1000000 = v) := hvv
      clear hvv
      have tokq : True := trivial
      cases v
      · obtain rfl : TV = false := by rw [← HTV.out, HSP.out N (by omega) hST.out, Bool.and_false]
        obtain rfl : M = 0 := HMM.out.symm
        have HBW := hid (HIT.out W9 HN.out.2.2.1)
        go_wp2_with (first
          | (go_at_call 96; clear tokq; refine (l12Qty_eq _ _ _ HXX.out).mono ?_; rintro e w4 ⟨rfl, ew⟩; replace ew := ew.symm; subst ew)
          | (go_at_call 96; refine (l12Qty_eq _ _ _ HV3.out).mono ?_; rintro e w6 ⟨rfl, ew⟩; replace ew := ew.symm; subst ew))
        go_returns
        first | exact ⟨_, ⟨_, rfl⟩, .inl rfl, bel_on HBW.out ((Below.refl _ _).alloc (Nat.le_refl _) _)⟩ | exact ⟨_, _, rfl, .inl rfl, bel_on HBW.out ((Below.refl _ _).alloc (Nat.le_refl _) _)⟩ | exact ⟨_, _, .inl rfl, bel_on HBW.out ((Below.refl _ _).alloc (Nat.le_refl _) _)⟩
      · have HG : Hid (exB F0 NB C (p + 1) = true ∧ IB W9 LB n (exF F0 NB C (p + 1)) ∧ OwnPA6 W9 LO (some ⟨kc, of2, none⟩) N C ∧ Bt LB WA W9) := hid ⟨hST.out, by rw [hEX.out]; exact HN.out.1, HN.out.2.1, HN.out.2.2.1⟩
        go_wp2_with (first
          | (go_at_call 96; clear tokq; refine (l12Qty_eq _ _ _ HXX.out).mono ?_; rintro e w4 ⟨rfl, ew⟩; replace ew := ew.symm; subst ew)
          | (go_at_call 96; refine (l12Qty_eq _ _ _ HV3.out).mono ?_; rintro e w6 ⟨rfl, ew⟩; replace ew := ew.symm; subst ew))
        go_roundw
        case rel => exact ⟨p + 1, by omega, by go_num, HG⟩
        case measure => simp [intOf]; omega
    · obtain rfl : p = N := by omega
      have lpp : ¬ (p : Int) < (p : Int) := by omega
      have cz := HH.out.2.1.cell hi
      rw [HOF.out p (Nat.le_refl _)] at cz
      have HBW := hid (HIT.out wo HH.out.2.2.2)
      have hTT := HTV.out
      rw [HH.out.1, Bool.and_true] at hTT
      have HV4 : Hid (inB (NB * ba) 0 1000000 = TV) := hTT
      clear hTT
      cases TV
      · obtain rfl : M = 0 := HMM.out.symm
        go_wp2_with (go_at_call 96; refine (l12Qty_eq _ _ _ HV4.out).mono ?_; rintro e w6 ⟨rfl, ew⟩; replace ew := ew.symm; subst ew)
        go_returns
        first | exact ⟨_, ⟨_, rfl⟩, .inl rfl, bel_on HBW.out ((Below.refl _ _).alloc (Nat.le_refl _) _)⟩ | exact ⟨_, _, rfl, .inl rfl, bel_on HBW.out ((Below.refl _ _).alloc (Nat.le_refl _) _)⟩ | exact ⟨_, _, .inl rfl, bel_on HBW.out ((Below.refl _ _).alloc (Nat.le_refl _) _)⟩
      · obtain rfl : n = M := HMM.out
        obtain rfl : exF F0 NB C p = FR := HFR.out
        have HFI := hid (HH.out.2.1.own HLW.out)
        go_wp2_with (go_at_call 96; refine (l12Qty_eq _ _ _ HV4.out).mono ?_; rintro e w6 ⟨rfl, ew⟩; replace ew := ew.symm; subst ew)
        go_returns
        first | exact ⟨_, ⟨_, rfl⟩, HFI.out, HBW.out⟩ | exact ⟨_, _, rfl, HFI.out, HBW.out⟩
end Go.Proofs.Ytmbdeafpfdeigaa

namespace Go.Proofs.Ytmbdeafpfdeigaa
open Go Go.ChangeShapes Go.WideShapes Go.ChangeAt Go.RowKit
set_option linter.unusedVariables false
set_option linter.unusedSimpArgs false

set_option maxRecDepth 20000 in
set_option maxHeartbeats 8000000 in
theorem specCost_any (ad ap : Option Addr) (n cap m pc : Nat) (c : Nat → IT) (z : Nat → Int) (a q d : Int) (w : World) (h : (n : Int) ≤ 1048576) (h2 : (m : Int) ≤ 1048576) (hz : IZ n c) (hr : ITr w ad n c) (hp : IR w ap m z) :
    Calls Try.prog 27 #[.slice ad n cap, .slice ap m pc, .int .i64 a, .int .i64 q, .int .i64 d] w fun e w' => e = .returned (.tuple #[.int .i64 (coV n m c z a q d), .bool (coB n m c z a q d)]) ∧ Below w.heap.size w w' := by
  have HR : Hid (ITr w ad n c) := hr
  have HZ : Hid (IZ n c) := hz
  have HP : Hid (IR w ap m z) := hp
  have HEX := hid (specExplode_any ad n cap c a q d w h hz hr)
  have HF : Hid (coB n m c z a q d = false → coV n m c z a q d = 0) := hid co_f
  clear hr hz hp
  cases hE : rkB eoB n c a q d
  · have HV : Hid (coB n m c z a q d = false) := hid (by unfold coB; rw [hE]; rfl)
    have HE2 : Hid (Calls Try.prog 23 #[.slice ad n cap, .int .i64 a, .int .i64 q, .int .i64 d] w fun e w' => ∃ ad cap, e = .returned (.tuple #[.slice ad 0 cap, .bool false]) ∧ Below w.heap.size w w') := hid (HEX.out.mono (by
      rintro e w' ⟨x1, x2, x3, _, x4⟩
      refine ⟨x1, x2, ?_, x4⟩
      rw [x3]; unfold rkM; rw [hE]; rfl))
    clear HEX hE
    rw [HF.out HV.out, HV.out]
    go_enter Try.func27, Try.ntmps27
    go_wp2_with (go_at_call 23; refine HE2.out.mono ?_; rintro e w1 ⟨x1, x2, rfl, b1⟩; have HB1 : Hid (Below w.heap.size w w1) := b1; clear b1)
    go_returns
    exact ⟨rfl, HB1.out⟩
  obtain ⟨hak, hEQ⟩ := eoF_q hE
  have hn60 : (n : Int) ≤ 60 := by have := (isB_p (akB_p hak).1).1; omega
  have HK : Hid (coB n m c z a q d = (decide (m = n) && (prB z m && (csB n c d (eoF n c d a.toNat q) n && inB (csV n c d z (eoF n c d a.toNat q) n) 0 100000000000)))) := hid (by unfold coB; rw [hE]; rfl)
  have HKV : Hid (coB n m c z a q d = true → coV n m c z a q d = csV n c d z (eoF n c d a.toNat q) n) := hid (fun h => by unfold coV; rw [h]; rfl)
  have HE2 : Hid (Calls Try.prog 23 #[.slice ad n cap, .int .i64 a, .int .i64 q, .int .i64 d] w fun e w' => ∃ ad cap, e = .returned (.tuple #[.slice ad n cap, .bool true]) ∧ IR w' ad n (eoF n c d a.toNat q) ∧ Below w.heap.size w w') := hid (HEX.out.mono (by
      have e1 : rkM eoB n c a q d = n := by unfold rkM; rw [hE]; rfl
      rintro e w' ⟨x1, x2, x3, x5, x4⟩
      rw [e1] at x3 x5
      exact ⟨x1, x2, by rw [x3, hE], x5.row, x4⟩))
  have HAK : Hid (akB n c a q d = true) := hak
  have HEQ : Hid (FQ (eoF n c d a.toNat q)) := hEQ
  clear HEX hE hak hEQ
  generalize eoF n c d a.toNat q = E at *
  by_cases hmn : m = n
  · subst hmn
    rw [decide_eq_true rfl, Bool.true_and] at HK
    have hnn : ((m : Int) != (m : Int)) = false := by simp
    obtain ⟨TV, hTV⟩ : ∃ b, coB m m c z a q d = b := ⟨_, rfl⟩
    obtain ⟨CV, hCV⟩ : ∃ x, coV m m c z a q d = x := ⟨_, rfl⟩
    rw [hTV] at HK HF HKV
    rw [hCV] at HF HKV
    rw [hTV, hCV]
    clear hTV hCV
    go_enter Try.func27, Try.ntmps27
    go_wp2_with (go_at_call 23; refine HE2.out.mono ?_; rintro e w1 ⟨ea, ec, rfl, r1, b1⟩; have HB1 : Hid (Below w.heap.size w w1 ∧ IR w1 ea m E) := hid ⟨b1, r1⟩; clear b1 r1)
    clear HE2
    go_loopw [15] (fun v wr => ∃ k : Nat, k ≤ m ∧ v = .int .i64 (k : Int) ∧ Hid (prB z k = true ∧ Below w.heap.size w wr ∧ IR wr ea m E)) (fun v _ => m - (intOf v).toNat)
    case atStart => exact ⟨0, Nat.zero_le _, rfl, hid ⟨rfl, HB1.out⟩⟩
    case round =>
      clear HB1
      obtain ⟨k, hk, rfl, HH⟩ := hrel
      obtain ⟨wo, rfl⟩ : ∃ x, x = wr := ⟨wr, rfl⟩
      by_cases hlt : k < m
      · have hlt2 : (k : Int) < (m : Int) := by omega
        obtain ⟨pb, po, rfl, _⟩ := HP.out.addr (by omega)
        have k0 := (HP.out.below HH.out.2.1).cell hlt
        have HNB : Hid (prB z (k + 1) = inB (z k) 0 100000) := hid (by show (prB z k && _) = _; rw [HH.out.1]; rfl)
        have HMO : Hid (inB (z k) 0 100000 = false → prB z m = false) := hid (fun h => prB_f m hlt h)
        generalize z k = X at *
        obtain ⟨v, hv⟩ : ∃ b, inB X 0 100000 = b := ⟨_, rfl⟩
        rw [hv] at HNB HMO
        have HX : Hid (inB X 0 100000 = v) := hv
        clear hv
        cases v
        · obtain rfl : TV = false := by rw [HK.out, HMO.out rfl]; rfl
          obtain rfl : CV = 0 := HF.out rfl
          go_wp2_with (go_at_call 66; refine (l12Price_eq _ _ _ HX.out).mono ?_; rintro e w6 ⟨rfl, ew⟩; replace ew := ew.symm; subst ew)
          go_returns
          exact ⟨rfl, HH.out.2.1⟩
        · have HN : Hid (prB z (k + 1) = true ∧ Below w.heap.size w wo ∧ IR wo ea m E) := hid ⟨HNB.out, HH.out.2⟩
          go_wp2_with (go_at_call 66; refine (l12Price_eq _ _ _ HX.out).mono ?_; rintro e w6 ⟨rfl, ew⟩; replace ew := ew.symm; subst ew)
          go_roundw
          case rel => exact ⟨k + 1, by omega, by go_num, HN⟩
          case measure => simp [intOf]; omega
      · obtain rfl : k = m := by omega
        have lkk : ¬ (k : Int) < (k : Int) := by omega
        rw [HH.out.1, Bool.true_and] at HK
        have HZB : Hid (∀ j, j < k → 0 ≤ z j ∧ z j ≤ 100000) := hid (prB_p k HH.out.1)
        have HB2 : Hid (Below w.heap.size w wo ∧ IR wo ea k E) := hid HH.out.2
        clear HH
        go_wp2
        go_loopw [14, 16] (fun u v wr => ∃ p : Nat, p ≤ k ∧ u = .int .i64 (csV k c d z E p) ∧ v = .int .i64 (p : Int) ∧ Hid (csB k c d E p = true ∧ Below w.heap.size w wr ∧ IR wr ea k E)) (fun _ v _ => k - (intOf v).toNat)
        case atStart => exact ⟨0, Nat.zero_le _, rfl, rfl, hid ⟨rfl, HB2.out.1, HB2.out.2⟩⟩
        case round =>
          clear HB2 wo
          obtain ⟨p, hp, rfl, rfl, HH⟩ := hrel
          obtain ⟨wo, rfl⟩ : ∃ x, x = wr := ⟨wr, rfl⟩
          have cb := csV_bd hn60 HEQ.out HZB.out p hp HH.out.1
          by_cases hlt : p < k
          · have hlt2 : (p : Int) < (k : Int) := by omega
            obtain ⟨g1, g2, g3, g4, g5⟩ := isB_it (akB_p HAK.out).1 hlt
            obtain ⟨kb, off, rfl, hkb⟩ := HR.out.addr (by omega)
            obtain ⟨ra, rc, sa, sc, _, _, c0, c1, c2, c3, c4, r5, r6⟩ := (HR.out.below HH.out.2.1).cell hlt
            obtain ⟨kc, of2, rfl, _⟩ := HH.out.2.2.addr (by omega)
            obtain ⟨pb, po, rfl, _⟩ := HP.out.addr (by omega)
            have HEC : Hid (∀ W, Below wo.heap.size wo W → W.cell? ⟨kc, of2 + p, none⟩ = some (.int .i64 (E p)) ∧ W.cell? ⟨pb, po + p, none⟩ = some (.int .i64 (z p))) := hid (fun W b => ⟨(HH.out.2.2.below b).cell hlt, ((HP.out.below HH.out.2.1).below b).cell hlt⟩)
            have HCO : Hid (Calls Try.prog 59 #[.slice ra (c p).parn rc, .int .i64 d] wo fun e w' => ∃ ad2 oc, e = .returned (.slice ad2 (cnN (c p).parz d (c p).parn) oc) ∧ Below wo.heap.size wo w') := hid ((l17Counting_any ra _ rc _ d wo (by omega) r5 (fun j hj => (g4 j hj).1.2.2.2)).mono (by rintro e w' ⟨x1, x2, x3, _, x4⟩; exact ⟨x1, x2, x3, x4⟩))
            have HOU : Hid (∀ W, Below wo.heap.size wo W → Calls Try.prog 44 #[.slice (some ⟨kb, off, none⟩) k cap, .int .i64 (p : Int), .int .i64 (E p), .int .i64 d] W fun e w' => ∃ ad cap, e = .returned (.tuple #[.slice ad (if ouB k c d p (E p) = true then k else 0) cap, .bool (ouB k c d p (E p))]) ∧ OwnI w' W.heap.size ad (if ouB k c d p (E p) = true then k else 0) (ouF k c d p (E p)) ∧ Below W.heap.size W w') := hid (fun W b => by
              have := specOutput_any (some ⟨kb, off, none⟩) k cap c (p : Int) (E p) d W (by omega) HZ.out ((HR.out.below HH.out.2.1).below b)
              rw [(rk_ou HAK.out hlt (HEQ.out p)).1, (rk_ou HAK.out hlt (HEQ.out p)).2, Int.toNat_natCast] at this
              exact this)
            have HNB : Hid (csB k c d E (p + 1) = ocB k c d p (E p)) := hid (by show (csB k c d E p && _) = _; rw [HH.out.1]; rfl)
            have HNV : Hid (csV k c d z E (p + 1) = csV k c d z E p + ocV k c d z p (E p)) := rfl
            have HMO : Hid (csB k c d E (p + 1) = false → csB k c d E k = false) := hid (fun h => csB_mono _ (by omega) h)
            have HOQ : Hid (ouB k c d p (E p) = true → FQ (ouF k c d p (E p))) := hid ouF_q
            have hxe := HEQ.out p
            have hze := HZB.out p hlt
            clear g1 g2 g3 g4 g5 r5 r6 c0 c1 c2 c4
            unfold ocB at HNB
            unfold ocV at HNV
            generalize ouB k c d p (E p) = OB at HOU HNB HOQ
            generalize ouF k c d p (E p) = O at HOU HNV HOQ
            generalize cnN (c p).parz d (c p).parn = N at HCO HNB HNV
            generalize (c p).parn = rn at c3 HCO
            generalize csV k c d z E p = SS at *
            by_cases hm : 0 < N
            · have hm2 : ¬ (N : Int) = 0 := by omega
              have hm3 : ((N : Int) == 0) = false := by simp; omega
              rw [if_pos hm] at HNB HNV
              cases OB
              · obtain rfl : TV = false := by rw [HK.out, HMO.out HNB.out]; rfl
                obtain rfl : CV = 0 := HF.out rfl
                have HO2 : Hid (∀ W, Below wo.heap.size wo W → Calls Try.prog 44 #[.slice (some ⟨kb, off, none⟩) k cap, .int .i64 (p : Int), .int .i64 (E p), .int .i64 d] W fun e w' => ∃ ad cap, e = .returned (.tuple #[.slice ad 0 cap, .bool false]) ∧ Below W.heap.size W w') := hid (fun W b => (HOU.out W b).mono (by rintro e w' ⟨x1, x2, x3, _, x4⟩; exact ⟨x1, x2, x3, x4⟩))
                clear HOU
                generalize E p = X at *
                go_wp2_with (first
                  | (go_at_call 59; refine HCO.out.mono ?_; rintro e w1 ⟨ad2, oc, rfl, b1⟩; have HB1 : Hid (Below wo.heap.size wo w1) := b1; clear b1; have k0 := (HEC.out w1 HB1.out).1)
                  | (go_at_call 44; refine (HO2.out _ HB1.out).mono ?_; rintro e w2 ⟨oa, ob, rfl, b2⟩; have HB2 : Hid (Below w.heap.size w w2) := hid (bel_on HH.out.2.1 (bel_on HB1.out b2)); clear b2))
                go_returns
                exact ⟨rfl, HB2.out⟩
              · have HQ : Hid (FQ O) := hid (HOQ.out rfl)
                have HO2 : Hid (∀ W, Below wo.heap.size wo W → Calls Try.prog 44 #[.slice (some ⟨kb, off, none⟩) k cap, .int .i64 (p : Int), .int .i64 (E p), .int .i64 d] W fun e w' => ∃ ad cap, e = .returned (.tuple #[.slice ad k cap, .bool true]) ∧ OwnI w' W.heap.size ad k O ∧ Below W.heap.size W w') := HOU
                clear HOU HOQ
                obtain ⟨X, hX⟩ : ∃ x, E p = x := ⟨_, rfl⟩
                rw [hX] at HEC HO2
                clear hX
                go_wp2_with (first
                  | (go_at_call 59; refine HCO.out.mono ?_; rintro e w1 ⟨ad2, oc, rfl, b1⟩; have HB1 : Hid (Below wo.heap.size wo w1) := b1; clear b1; have k0 := (HEC.out w1 HB1.out).1)
                  | (go_at_call 44; refine (HO2.out _ HB1.out).mono ?_; rintro e w2 ⟨oa, ob, rfl, o2, b2⟩; have HB2 : Hid (Below w.heap.size w w2 ∧ IR w2 oa k O ∧ IR w2 (some ⟨kc, of2, none⟩) k E) := hid ⟨bel_on HH.out.2.1 (bel_on HB1.out b2), o2.row, HH.out.2.2.below (bel_on HB1.out b2)⟩; clear b2 o2))
                clear HCO HO2 HEC
                have HCS : Hid (csB k c d E (p + 1) = true) := HNB
                go_loopw [14, 19] (fun u v wr => ∃ r : Nat, r ≤ k ∧ u = .int .i64 (SS - osF O z p r) ∧ v = .int .i64 (r : Int) ∧ Hid (Below w.heap.size w wr ∧ IR wr oa k O ∧ IR wr (some ⟨kc, of2, none⟩) k E)) (fun _ v _ => k - (intOf v).toNat)
                case atStart => exact ⟨0, Nat.zero_le _, by first | rfl | simp [osF], rfl, HB2⟩
                case round =>
                  clear HB2 HB1 HH
                  obtain ⟨r, hr, rfl, rfl, HG⟩ := hrel
                  obtain ⟨wi, rfl⟩ : ∃ x, x = wr := ⟨wr, rfl⟩
                  have s0 := osF_bd (i := p) HQ.out HZB.out r (by omega)
                  by_cases hlr : r < k
                  · have hlr2 : (r : Int) < (k : Int) := by omega
                    obtain ⟨kd, of3, rfl, _⟩ := HG.out.2.1.addr (by omega)
                    have k0 := HG.out.2.1.cell hlr
                    have k1 := (HP.out.below HG.out.1).cell hlr
                    have q0 := HQ.out r
                    have q1 := HZB.out r hlr
                    have p0 : 0 ≤ O r * z r := Int.mul_nonneg q0.1 q1.1
                    have p1 : O r * z r ≤ 1000000 * 100000 := Int.le_trans (Int.mul_le_mul_of_nonneg_right q0.2 q1.1) (Int.mul_le_mul_of_nonneg_left q1.2 (by omega))
                    have HSV : Hid (osF O z p (r + 1) = if r = p then osF O z p r else osF O z p r + O r * z r) := rfl
                    generalize osF O z p r = ST at *
                    generalize O r = OK at *
                    generalize z r = ZK at *
                    have hw1 : IntKind.i64.wrap (OK * ZK) = OK * ZK := IntWalk.i64_in _ ⟨by omega, by omega⟩
                    have hw2 : IntKind.i64.wrap (SS - ST - OK * ZK) = SS - ST - OK * ZK := IntWalk.i64_in _ ⟨by omega, by omega⟩
                    by_cases hki : r = p
                    · rw [if_pos hki] at HSV
                      subst hki
                      have hki2 : ((r : Int) != (r : Int)) = false := by simp
                      go_wp2
                      go_roundw
                      case rel => exact ⟨r + 1, by omega, by rw [HSV.out], by go_num, HG⟩
                      case measure => simp [intOf]; omega
                    · rw [if_neg hki] at HSV
                      have hki2 : ((r : Int) != (p : Int)) = true := by simp; omega
                      have hki3 : ¬ (r : Int) = (p : Int) := by omega
                      have HGD : Hid (Below w.heap.size w wi.drew ∧ IR wi.drew (some ⟨kd, of3, none⟩) k O ∧ IR wi.drew (some ⟨kc, of2, none⟩) k E) := hid ⟨HG.out.1.drew, HG.out.2.1.below (Below.refl _ _).drew, HG.out.2.2.below (Below.refl _ _).drew⟩
                      go_wp2
                      go_region
                      go_wp2
                      go_roundw
                      case rel => exact ⟨r + 1, by omega, by rw [HSV.out]; congr 1; omega, by go_num, HGD⟩
                      case measure => simp [intOf]; omega
                  · obtain rfl : r = k := by omega
                    have lkk2 : ¬ (r : Int) < (r : Int) := by omega
                    have HN : Hid (csB r c d E (p + 1) = true ∧ Below w.heap.size w wi ∧ IR wi (some ⟨kc, of2, none⟩) r E) := hid ⟨HCS.out, HG.out.1, HG.out.2.2⟩
                    go_wp2
                    go_roundw
                    case rel => exact ⟨p + 1, by omega, by rw [HNV.out]; congr 1, by go_num, HN⟩
                    case measure => simp [intOf]; omega
            · obtain rfl : N = 0 := by omega
              rw [if_neg hm] at HNB HNV
              clear HOU HOQ
              have p0 : 0 ≤ E p * z p := Int.mul_nonneg hxe.1 hze.1
              have p1 : E p * z p ≤ 1000000 * 100000 := Int.le_trans (Int.mul_le_mul_of_nonneg_right hxe.2 hze.1) (Int.mul_le_mul_of_nonneg_left hze.2 (by omega))
              obtain ⟨X, hX⟩ : ∃ x, E p = x := ⟨_, rfl⟩
              obtain ⟨Z, hZ⟩ : ∃ x, z p = x := ⟨_, rfl⟩
              rw [hX] at HEC HNV p0 p1
              rw [hZ] at HEC HNV p0 p1
              clear hX hZ
              have hw1 : IntKind.i64.wrap (X * Z) = X * Z := IntWalk.i64_in _ ⟨by omega, by omega⟩
              have hw2 : IntKind.i64.wrap (SS + X * Z) = SS + X * Z := IntWalk.i64_in _ ⟨by omega, by omega⟩
              go_wp2_with (go_at_call 59; refine HCO.out.mono ?_; rintro e w1 ⟨ad2, oc, rfl, b1⟩; obtain ⟨k0, k1⟩ := HEC.out w1 b1; have HN : Hid (csB k c d E (p + 1) = true ∧ Below w.heap.size w w1 ∧ IR w1 (some ⟨kc, of2, none⟩) k E) := hid ⟨HNB.out, bel_on HH.out.2.1 b1, HH.out.2.2.below b1⟩; clear b1)
              have HND : Hid (csB k c d E (p + 1) = true ∧ Below w.heap.size w w1.drew ∧ IR w1.drew (some ⟨kc, of2, none⟩) k E) := hid ⟨HN.out.1, HN.out.2.1.drew, HN.out.2.2.below (Below.refl _ _).drew⟩
              go_region
              go_wp2
              go_roundw
              case rel => exact ⟨p + 1, by omega, by rw [HNV.out], by go_num, HND⟩
              case measure => simp [intOf]; omega
          · obtain rfl : p = k := by omega
            have lpp : ¬ (p : Int) < (p : Int) := by omega
            rw [HH.out.1, Bool.true_and] at HK
            generalize csV p c d z E p = SS at *
            have HAM : Hid (inB SS 0 100000000000 = TV) := hid HK.out.symm
            cases TV
            · obtain rfl : CV = 0 := HF.out rfl
              go_wp2_with (go_at_call 67; refine (l1In_eq _ _ _ _ _ HAM.out).mono ?_; rintro e w6 ⟨rfl, ew⟩; replace ew := ew.symm; subst ew)
              go_returns
              exact ⟨rfl, HH.out.2.1⟩
            · obtain rfl : CV = SS := HKV.out rfl
              go_wp2_with (go_at_call 67; refine (l1In_eq _ _ _ _ _ HAM.out).mono ?_; rintro e w6 ⟨rfl, ew⟩; replace ew := ew.symm; subst ew)
              go_returns
              exact ⟨rfl, HH.out.2.1⟩
  · have hmn1 : ((m : Int) != (n : Int)) = true := by simp; omega
    have hmn2 : ¬ (m : Int) = (n : Int) := by omega
    have HV : Hid (coB n m c z a q d = false) := hid (by rw [HK.out, decide_eq_false hmn]; rfl)
    clear HK HKV
    rw [HF.out HV.out, HV.out]
    go_enter Try.func27, Try.ntmps27
    go_wp2_with (go_at_call 23; refine HE2.out.mono ?_; rintro e w1 ⟨x1, x2, rfl, _, b1⟩; have HB1 : Hid (Below w.heap.size w w1) := b1; clear b1)
    go_returns
    exact ⟨rfl, HB1.out⟩
end Go.Proofs.Ytmbdeafpfdeigaa

namespace Go.Proofs.Ytmbdeafpfdeigaa
open Go.ChangeShapes Go.WideShapes Go.ChangeAt Go.RowKit
set_option linter.unusedVariables false
set_option linter.unusedSimpArgs false

theorem os_zero {O z : Nat → Int} {i : Nat} : ∀ r, (∀ j, j ≠ i → O j = 0) → osF O z i r = 0
  | 0, _ => rfl
  | r + 1, h => by
    have ih := os_zero (z := z) r h
    unfold osF
    by_cases e : r = i
    · rw [if_pos e]; exact ih
    · rw [if_neg e, ih, h r e]; simp
theorem ou_plain {n : Nat} {c : Nat → IT} {d : Int} {i : Nat} {x : Int} (h : (c i).alsn = 0) : ∀ j, j ≠ i → ouF n c d i x j = 0 := fun j hj => by
  unfold ouF brF
  rw [h]
  show upI z0 i _ j = 0
  rw [upI_ne hj]; rfl
/-- An item that is bought on day d: none of its parts counts. -/
def boB (c : Nat → IT) (d : Int) (i : Nat) : Bool := decide (cnN (c i).parz d (c i).parn = 0)
/-- What the first k come to that are bought. -/
def buV (c : Nat → IT) (d : Int) (z E : Nat → Int) : Nat → Int
  | 0 => 0
  | k + 1 => if boB c d k = true then buV c d z E k + E k * z k else buV c d z E k
theorem oc_plain {n : Nat} {c : Nat → IT} {d : Int} {z : Nat → Int} {i : Nat} {x : Int} (h : (c i).alsn = 0) : ocV n c d z i x = if boB c d i = true then x * z i else 0 := by
  unfold ocV boB
  by_cases g : 0 < cnN (c i).parz d (c i).parn
  · rw [if_pos g, if_neg (by rw [decide_eq_false (by omega)]; decide), os_zero n (ou_plain h)]; rfl
  · rw [if_neg g, if_pos (decide_eq_true (by omega))]
theorem cs_buy {n : Nat} {c : Nat → IT} {d : Int} {z E : Nat → Int} : ∀ k, (∀ j, j < k → (c j).alsn = 0) → csV n c d z E k = buV c d z E k
  | 0, _ => rfl
  | k + 1, h => by
    show csV n c d z E k + _ = (if boB c d k = true then buV c d z E k + E k * z k else buV c d z E k)
    rw [cs_buy k (fun j hj => h j (by omega)), oc_plain (h k (by omega))]
    split <;> omega
theorem bu_twice {c : Nat → IT} {d : Int} {z E : Nat → Int} : ∀ k, buV c d (fun j => 2 * z j) E k = 2 * buV c d z E k
  | 0 => rfl
  | k + 1 => by
    have ih := bu_twice (c := c) (d := d) (z := z) (E := E) k
    unfold buV
    split
    · rw [ih, Int.mul_left_comm]; omega
    · exact ih
theorem tk_pos {nb : Int} {p : PA6} (hb : 1 ≤ nb) (h1 : nb * p.qty ≤ 1000000) (hp : CP p) : 1 ≤ tk nb p := by
  have h0 : 1 * 1 ≤ nb * p.qty := Int.mul_le_mul hb hp.1 (by omega) (by omega)
  rw [tk_val (by omega) h1 hp.2]
  have : 1 * 100 ≤ nb * p.qty * (100 + p.scr) := Int.mul_le_mul (by omega) (by have := hp.2; omega) (by omega) (by omega)
  omega
/-- The sum of the first k. -/
def suF (f : Nat → Int) : Nat → Int
  | 0 => 0
  | k + 1 => suF f k + f k
theorem suF_up {i : Nat} {q : Int} : ∀ k, suF (upI z0 i q) k = if i < k then q else 0
  | 0 => rfl
  | k + 1 => by
    have ih := suF_up (i := i) (q := q) k
    show suF (upI z0 i q) k + upI z0 i q k = _
    rw [ih]
    by_cases e : k = i
    · subst e; rw [upI_eq, if_neg (by omega), if_pos (by omega)]; omega
    · rw [upI_ne e]
      show _ + (0 : Int) = _
      by_cases g : i < k
      · rw [if_pos g, if_pos (by omega)]; omega
      · rw [if_neg g, if_neg (by omega)]; rfl
theorem suF_ge {f : Nat → Int} (h : ∀ j, 0 ≤ f j) {j : Nat} : ∀ k, j < k → f j ≤ suF f k ∧ 0 ≤ suF f k
  | 0, hj => by omega
  | k + 1, hj => by
    have nn : ∀ k, 0 ≤ suF f k := by
      intro k
      induction k with
      | zero => exact Int.le_refl _
      | succ k ih => have := h k; show 0 ≤ suF f k + f k; omega
    have hk := h k
    refine ⟨?_, nn _⟩
    show f j ≤ suF f k + f k
    by_cases e : j = k
    · subst e; have := nn j; omega
    · have := (suF_ge h k (show j < k by omega)).1; omega
theorem suF_two {f : Nat → Int} (h : ∀ j, 0 ≤ f j) {i j : Nat} (hij : i < j) : ∀ k, j < k → f i + f j ≤ suF f k
  | 0, hj => by omega
  | k + 1, hj => by
    show f i + f j ≤ suF f k + f k
    have hk := h k
    by_cases e : j = k
    · subst e; have := (suF_ge h (j := i) j hij).1; omega
    · have := suF_two h hij k (by omega); omega
theorem suF_bd {f : Nat → Int} (h : FQ f) : ∀ k, 0 ≤ suF f k ∧ suF f k ≤ 1000000 * (k : Int)
  | 0 => by simp [suF]
  | k + 1 => by
    have ih := suF_bd h k
    have := h k
    show 0 ≤ suF f k + f k ∧ suF f k + f k ≤ _
    omega
/-- What is bought is needed alone. -/
theorem eo_bought {n : Nat} {c : Nat → IT} {d : Int} {i : Nat} {x : Int} (hI : isB n c = true) (hi : i < n) (hb : boB c d i = true) : eoF n c d i x = upI z0 i x := by
  have hc : ¬ 0 < cnN (c i).parz d (c i).parn := by have := of_decide_eq_true hb; omega
  have key : ∀ k, i + k ≤ n → epF c d i (upI z0 i x) k = upI z0 i x := by
    intro k
    induction k with
    | zero => intro _; rfl
    | succ k ih =>
      intro hk
      show epS c d (epF c d i (upI z0 i x) k) (i + k) = _
      rw [ih (by omega), ep_xp]
      by_cases e : k = 0
      · subst e; exact xp_none hc
      · funext j
        rw [xp_add, upI_ne (show i + k ≠ i by omega)]
        show _ + xpF c d z0 (i + k) 0 j = _
        rw [(xp_zero (d := d) hI (show i + k < n by omega) z0_q).1]
        show _ + (0 : Int) = _
        omega
  exact key (n - i) (by omega)
theorem ex_mono {nb : Int} {c : Nat → PA6} {f : Nat → Int} {j : Nat} : ∀ k m, k ≤ m → (∀ r, r < m → CP (c r)) → exB f nb c m = true → exF f nb c k j ≤ exF f nb c m j
  | k, 0, h, _, _ => by obtain rfl : k = 0 := by omega
                        exact Int.le_refl _
  | k, m + 1, h, hc, e => by
    by_cases q : k = m + 1
    · subst q; exact Int.le_refl _
    · simp only [exB, Bool.and_eq_true] at e
      have ih := ex_mono (j := j) k m (by omega) (fun r hr => hc r (by omega)) e.1
      refine Int.le_trans ih ?_
      show _ ≤ upI _ _ _ j
      by_cases g : j = (c m).item.toNat
      · subst g
        rw [upI_eq]
        have s1 := e.2
        simp only [stB, Bool.and_eq_true] at s1
        have i1 := inB_t s1.1
        obtain ⟨hq, hs0, hs1⟩ := hc m (by omega)
        have := tk_nn i1.1 i1.2 ⟨hs0, hs1⟩
        omega
      · rw [upI_ne g]; exact Int.le_refl _
theorem ep_mono {n : Nat} {c : Nat → IT} {d : Int} {a : Nat} {f : Nat → Int} {j : Nat} (hI : isB n c = true) {k : Nat} : ∀ m, k ≤ m → a + m ≤ n → epB c d a f m = true → epF c d a f k j ≤ epF c d a f m j
  | 0, h, _, _ => by obtain rfl : k = 0 := by omega
                     exact Int.le_refl _
  | m + 1, h, hn, e => by
    by_cases q : k = m + 1
    · subst q; exact Int.le_refl _
    · simp only [epB, Bool.and_eq_true] at e
      exact Int.le_trans (ep_mono hI m (by omega) (by omega) e.1) (le_up hI (show a + m < n by omega) e.2 j)
/-- Of what is made on day d more than one is needed. -/
theorem eo_made {n : Nat} {c : Nat → IT} {d : Int} {i : Nat} (hI : isB n c = true) (hi : i < n) (hb : boB c d i = false) (e : eoB n c d i 1 = true) : suF (eoF n c d i 1) n ≠ 1 := by
  have hc : 0 < cnN (c i).parz d (c i).parn := by have := of_decide_eq_false hb; omega
  have fq : FQ (upI z0 i 1) := z0_q.up i (by omega) (by omega)
  have eq : FQ (eoF n c d i 1) := epF_q fq _ e
  have e0 := e
  unfold eoB at e
  rw [show n - i = (n - (i + 1)) + 1 by omega, (ep_front c d i _ _).2, Bool.and_eq_true] at e
  have s := e.1
  unfold epO at s
  rw [if_pos hc, upI_eq] at s
  unfold xpB at s
  simp only [Bool.and_eq_true] at s
  obtain ⟨g1, _⟩ := isB_it hI hi
  have b1 : 1 ≤ bat 1 (c i).batch := by
    have := bat_ge (q := 1) g1.1
    have nn := (bat_bd (q := 1) (by omega) g1.1).1
    by_cases z : bat 1 (c i).batch = 0
    · rw [z] at this; omega
    · omega
  -- the first part that counts
  have p0 := cp_of (d := d) hI hi 0 hc
  have i0 := cp_item (d := d) hI hi 0 hc
  have hn0 : (cnC (c i).parz d (c i).parn 0).item.toNat < n := by
    obtain ⟨_, _, _, g4, _⟩ := isB_it hI hi
    exact cnC_all (P := fun p => p.item.toNat < n) _ (fun j hj => by have := (g4 j hj).1.1; show ((c i).parz j).item.toNat < n; omega) 0 hc
  have x1 : exB (upI z0 i 1) (bat 1 (c i).batch) (cnC (c i).parz d (c i).parn) 1 = true := by
    cases h : exB (upI z0 i 1) (bat 1 (c i).batch) (cnC (c i).parz d (c i).parn) 1
    · rw [exB_mono _ hc h] at s; exact absurd s.2 (by decide)
    · rfl
  simp only [exB, Bool.true_and, stB, Bool.and_eq_true] at x1
  have t1 := tk_pos b1 (inB_t x1.1).2 p0
  have m1 := ex_mono (f := upI z0 i 1) (j := (cnC (c i).parz d (c i).parn 0).item.toNat) 1 _ hc (cp_of hI hi) s.2
  have v1 : exF (upI z0 i 1) (bat 1 (c i).batch) (cnC (c i).parz d (c i).parn) 1 (cnC (c i).parz d (c i).parn 0).item.toNat = 0 + tk (bat 1 (c i).batch) (cnC (c i).parz d (c i).parn 0) := by
    show upI _ _ _ _ = _
    rw [upI_eq]
    show upI z0 i 1 _ + _ = _
    rw [upI_ne (show (cnC (c i).parz d (c i).parn 0).item.toNat ≠ i by omega)]; rfl
  have st : ∀ j, epS c d (upI z0 i 1) i j ≤ eoF n c d i 1 j := fun j => ep_mono (k := 1) (a := i) (f := upI z0 i 1) hI (n - i) (by omega) (by omega) e0
  have w1 := st (cnC (c i).parz d (c i).parn 0).item.toNat
  rw [ep_xp, upI_eq] at w1
  have w2 := st i
  rw [ep_xp, upI_eq, xp_low hI hi (Nat.le_refl _), upI_eq] at w2
  have two := suF_two (fun j => (eq j).1) i0 n hn0
  unfold xpF at w1
  omega
end Go.Proofs.Ytmbdeafpfdeigaa
