/- Cells found by their keys in the model; StockOk of both sides answers 'stB'. -/
import Derived.Test.YtpmnnfjabppahaaCp
import Derived.BigQuiet
namespace Go.Proofs.Ytpmnnfjabppahaa
open Go.ChangeShapes Go.WideShapes Go.ChangeAt Go.RowKit
set_option linter.unusedVariables false
set_option linter.unusedSimpArgs false

open Classical in
noncomputable def isK (c : Nat → CE6) (x : K3) (j : Nat) : Bool := decide ((c j).key = x)
theorem isK_t {c : Nat → CE6} {x : K3} {j : Nat} (h : (c j).key = x) : isK c x j = true := by simp [isK, h]
theorem isK_f {c : Nat → CE6} {x : K3} {j : Nat} (h : ¬ (c j).key = x) : isK c x j = false := by simp [isK, h]
open Classical in
theorem isK_p {c : Nat → CE6} {x : K3} {j : Nat} (h : isK c x j = true) : (c j).key = x := by unfold isK at h; exact of_decide_eq_true h
open Classical in
theorem isK_n {c : Nat → CE6} {x : K3} {j : Nat} (h : isK c x j = false) : ¬ (c j).key = x := by unfold isK at h; exact of_decide_eq_false h
noncomputable def fnd (n : Nat) (c : Nat → CE6) (x : K3) : Int := fstF (isK c x) n 0

set_option maxRecDepth 20000 in
set_option maxHeartbeats 4000000 in
theorem find_any (ad : Option Addr) (len cap : Nat) (c : Nat → CE6) (r : CE6) (w : World) (h : (len : Int) ≤ 1048576) (hr : CEr w ad len c) :
    Calls Try.prog 98 #[.slice ad len cap, r.val] w fun e w' => e = .returned (.int .i64 (fnd len c r.key)) ∧ Below w.heap.size w w' := by
  have HR : Hid (CEr w ad len c) := hr
  clear hr
  obtain ⟨a0, a1, a2, a3, a4, a5⟩ := r
  unfold CE6.val
  go_enter Try.func98, Try.ntmps98
  go_wp2
  go_loopw [5] (fun i wr => ∃ (k : Nat), k ≤ len ∧ i = .int .i64 (k : Int) ∧ Hid (fstF (isK c ⟨a0, a1, a2⟩) (len - k) k = fnd len c ⟨a0, a1, a2⟩) ∧ Hid (CB wr w.heap.size #[.string a0, .string a1, .string a2, .int .i64 a3, .int .i64 a4, .int .i64 a5] 28 ∧ Below w.heap.size w wr)) (fun i _ => len - (intOf i).toNat)
  case atStart => exact ⟨0, Nat.zero_le _, rfl, rfl, CB.new _ _, (Below.refl _ _).alloc (Nat.le_refl _) _⟩
  case round =>
    obtain ⟨k, hk, rfl, hP, HH⟩ := hrel
    by_cases hlt : k < len
    · have hlt2 : (k : Int) < (len : Int) := by omega
      obtain ⟨kb, off, rfl, hkb⟩ := HR.out.addr (by omega)
      have A1 := (HR.out.below HH.out.2).cell hlt
      obtain ⟨x, hx⟩ : ∃ x, c k = x := ⟨_, rfl⟩
      have HX : Hid (c k = x) := hx
      rw [hx] at A1
      clear hx
      obtain ⟨it, pl, lo, ex, qt, he⟩ := x
      obtain ⟨c0, c1, c2, c3, c4, c5⟩ := A1
      simp only at c0 c1 c2 c3 c4 c5
      have b0 : wr.cell? ⟨w.heap.size, 0, none⟩ = some (.string a0) := (HH.out.1.cell 0).trans rfl
      have b1 : wr.cell? ⟨w.heap.size, 1, none⟩ = some (.string a1) := (HH.out.1.cell 1).trans rfl
      have b2 : wr.cell? ⟨w.heap.size, 2, none⟩ = some (.string a2) := (HH.out.1.cell 2).trans rfl
      clear c3 c4 c5
      by_cases e0 : it = a0
      rotate_left
      · have HF : Hid (fstF (isK c ⟨a0, a1, a2⟩) (len - (k + 1)) (k + 1) = fnd len c ⟨a0, a1, a2⟩) := hid (by rw [← hP.out]; exact (fstF_miss hlt (isK_f (by rw [HX.out]; intro q; exact e0 (congrArg K3.it q)))).symm)
        have l0 := lists_f e0
        clear e0
        go_wp2
        go_quiet (fail)
        go_wp2
        go_roundw
        case rel => exact ⟨k + 1, by omega, by go_num, HF, HH.out.1, bd_N HH.out.2 _⟩
        case measure => simp [intOf]; omega
      by_cases e1 : pl = a1
      rotate_left
      · have HF : Hid (fstF (isK c ⟨a0, a1, a2⟩) (len - (k + 1)) (k + 1) = fnd len c ⟨a0, a1, a2⟩) := hid (by rw [← hP.out]; exact (fstF_miss hlt (isK_f (by rw [HX.out]; intro q; exact e1 (congrArg K3.pl q)))).symm)
        have l0 := lists_t e0
        have l1 := lists_f e1
        clear e0 e1
        go_wp2
        go_quiet (fail)
        go_wp2
        go_roundw
        case rel => exact ⟨k + 1, by omega, by go_num, HF, HH.out.1, bd_N HH.out.2 _⟩
        case measure => simp [intOf]; omega
      by_cases e2 : lo = a2
      rotate_left
      · have HF : Hid (fstF (isK c ⟨a0, a1, a2⟩) (len - (k + 1)) (k + 1) = fnd len c ⟨a0, a1, a2⟩) := hid (by rw [← hP.out]; exact (fstF_miss hlt (isK_f (by rw [HX.out]; intro q; exact e2 (congrArg K3.lo q)))).symm)
        have l0 := lists_t e0
        have l1 := lists_t e1
        have l2 := lists_f e2
        clear e0 e1 e2
        go_wp2
        go_quiet (fail)
        go_wp2
        go_roundw
        case rel => exact ⟨k + 1, by omega, by go_num, HF, HH.out.1, bd_N HH.out.2 _⟩
        case measure => simp [intOf]; omega
      have HF : Hid (fnd len c ⟨a0, a1, a2⟩ = (k : Int)) := hid (by rw [← hP.out]; exact fstF_hit hlt (isK_t (by rw [HX.out]; unfold CE6.key; rw [e0, e1, e2])))
      have l0 := lists_t e0
      have l1 := lists_t e1
      have l2 := lists_t e2
      clear e0 e1 e2
      go_wp2
      go_quiet (fail)
      go_wp2
      go_returns
      exact ⟨ret_i HF.out.symm, bd_N HH.out.2 _⟩
    · obtain rfl : k = len := by omega
      have lkk : ¬ (k : Int) < (k : Int) := by omega
      have HF : Hid (fnd k c ⟨a0, a1, a2⟩ = -1) := hid (by rw [← hP.out]; exact fstF_end)
      go_wp2
      go_returns
      exact ⟨ret_i HF.out.symm, HH.out.2⟩
theorem find_eq (ad : Option Addr) (len cap : Nat) (c : Nat → CE6) (r : CE6) (w : World) (v : Int) (h : (len : Int) ≤ 1048576) (hr : CEr w ad len c) (hv : fnd len c r.key = v) :
    Calls Try.prog 98 #[.slice ad len cap, r.val] w fun e w' => e = .returned (.int .i64 v) ∧ Below w.heap.size w w' := by
  subst hv; exact find_any ad len cap c r w h hr
end Go.Proofs.Ytpmnnfjabppahaa
