/- CalOk of the model. -/
import Derived.Test.YtadjdpoplaknkaaCl
namespace Go.Proofs.Ytadjdpoplaknkaa
open Go.ChangeShapes Go.WideShapes Go.ChangeAt Go.RowKit
set_option linter.unusedVariables false
set_option linter.unusedSimpArgs false

theorem l2Day_eq (d : Int) (b : Bool) (w : World) (h : dayB d = b) : Calls Try.prog 40 #[.int .i64 d] w fun e w' => e = .returned (.bool b) ∧ w' = w := by
  have := l2Day_any d w
  rwa [h] at this
theorem l1In_eq (x lo hi : Int) (b : Bool) (w : World) (h : inB x lo hi = b) : Calls Try.prog 41 #[.int .i64 x, .int .i64 lo, .int .i64 hi] w fun e w' => e = .returned (.bool b) ∧ w' = w := by
  have := l1In_any x lo hi w
  rwa [h] at this
theorem inB_t {x lo hi : Int} (h : lo ≤ x ∧ x ≤ hi) : inB x lo hi = true := decide_eq_true h
theorem inB_f {x lo hi : Int} (h : ¬ (lo ≤ x ∧ x ≤ hi)) : inB x lo hi = false := decide_eq_false h
theorem bel_n {w : World} {o : Obj} {q : Nat} : Below w.heap.size w ((w.alloc o).drewN q) :=
  below_drewN ((Below.refl _ _).alloc (Nat.le_refl _) _) q

set_option maxHeartbeats 2000000 in
theorem specCalOk_in (off : Int) (ad : Option Addr) (len cap : Nat) (z : Nat → Int) (w : World) (h1 : 0 ≤ off ∧ off ≤ 126) (h2 : len ≤ 400) (hr : IR w ad len z) :
    Calls Try.prog 19 #[.agg #[.int .i64 off, .slice ad len cap]] w fun e w' => e = .returned (.bool (ascB len z)) ∧ Below w.heap.size w w' := by
  have HR : Hid (IR w ad len z) := hr
  have b1 := inB_t h1
  have h3 : (len : Int) ≤ 400 := by omega
  clear hr h1
  go_enter Try.func19, Try.ntmps19
  go_wp2_with (go_at_call 41; refine (l1In_eq _ _ _ _ _ b1).mono ?_; rintro e w1 ⟨rfl, ew⟩; replace ew := ew.symm; subst ew)
  go_loopw [3] (fun i wr => ∃ (k : Nat), k ≤ len ∧ i = .int .i64 (k : Int) ∧ Asc k z ∧ CB wr w.heap.size #[.int .i64 off, .slice ad len cap] 26 ∧ Below w.heap.size w wr) (fun i _ => len - (intOf i).toNat)
  case atStart => exact ⟨0, Nat.zero_le _, rfl, fun j hj => by omega, CB.new _ _, (Below.refl _ _).alloc (Nat.le_refl _) _⟩
  case round =>
    obtain ⟨k, hk, rfl, hA, hC, hB⟩ := hrel
    have HC : Hid (CB wr w.heap.size #[.int .i64 off, .slice ad len cap] 26) := hC
    have HB : Hid (Below w.heap.size w wr) := hB
    have x0 := hC.cell 0
    have x1 := hC.cell 1
    simp at x0 x1
    clear hC hB
    by_cases hlt : k < len
    · obtain ⟨kb, of, rfl, hkb⟩ := HR.out.addr (by omega)
      have c1 := (HR.out.below HB.out).cell hlt
      by_cases hd : 0 ≤ z k ∧ z k ≤ 40000
      · have db := dayB_t hd
        cases k with
        | zero =>
          have HA : Hid (Asc 1 z) := fun j hj => by obtain rfl : j = 0 := by omega
                                                    exact ⟨hd, fun h => by omega⟩
          clear hA
          simp only [Nat.add_zero] at c1
          go_wp2
          go_quiet ((go_at_call 40; exact Calls.quiet_of_same (l2Day_eq _ _ _ (by assumption))))
          go_wp2
          go_roundw
          case rel => exact ⟨1, by omega, by go_num, HA.out, HC.out, below_drewN HB.out _⟩
          case measure => simp [intOf]; omega
        | succ k =>
          have c0 := (HR.out.below HB.out).cell (j := k) (by omega)
          by_cases hs : z k < z (k + 1)
          · have HA : Hid (Asc (k + 1 + 1) z) := fun j hj => by
              by_cases hj2 : j = k + 1
              · subst hj2; exact ⟨hd, fun _ => hs⟩
              · exact hA j (by omega)
            clear hA
            go_wp2
            go_quiet ((go_at_call 40; exact Calls.quiet_of_same (l2Day_eq _ _ _ (by assumption))))
            go_wp2
            go_roundw
            case rel => exact ⟨k + 1 + 1, by omega, by go_num, HA.out, HC.out, below_drewN HB.out _⟩
            case measure => simp [intOf]; omega
          · have hf := bad_step hlt hs
            have hs' : z (k + 1) ≤ z k := by omega
            clear hA hs
            go_wp2
            go_quiet ((go_at_call 40; exact Calls.quiet_of_same (l2Day_eq _ _ _ (by assumption))))
            go_wp2
            go_returns
            exact ⟨ret_bool hf.symm, below_drewN HB.out _⟩
      · have db := dayB_f hd
        have hf := bad_day hlt hd
        clear hA hd
        go_wp2
        go_quiet ((go_at_call 40; exact Calls.quiet_of_same (l2Day_eq _ _ _ (by assumption))))
        go_wp2
        go_returns
        exact ⟨ret_bool hf.symm, below_drewN HB.out _⟩
    · obtain rfl : k = len := by omega
      have HF : Hid (ascB k z = true) := ascB_t hA
      clear hA
      go_wp2
      go_returns
      exact ⟨ret_bool HF.out.symm, HB.out⟩

theorem specCalOk_any (off : Int) (ad : Option Addr) (len cap : Nat) (z : Nat → Int) (w : World) (h : (len : Int) ≤ 1048576) (hr : IR w ad len z) :
    Calls Try.prog 19 #[.agg #[.int .i64 off, .slice ad len cap]] w fun e w' => e = .returned (.bool (calB off len z)) ∧ Below w.heap.size w w' := by
  by_cases h1 : 0 ≤ off ∧ off ≤ 126
  · by_cases h2 : len ≤ 400
    · rw [calB_t h1 h2]; exact specCalOk_in off ad len cap z w h1 h2 hr
    · rw [calB_len h2]
      have h3 : (400 : Int) < (len : Int) := by omega
      have b1 := inB_t h1
      clear hr
      go_enter Try.func19, Try.ntmps19
      go_wp2_with (go_at_call 41; refine (l1In_eq _ _ _ _ _ b1).mono ?_; rintro e w1 ⟨rfl, ew⟩; replace ew := ew.symm; subst ew)
      go_returns
      exact ⟨rfl, by go_grown⟩
  · rw [calB_off h1]
    have b1 := inB_f h1
    clear hr
    go_enter Try.func19, Try.ntmps19
    go_wp2_with (go_at_call 41; refine (l1In_eq _ _ _ _ _ b1).mono ?_; rintro e w1 ⟨rfl, ew⟩; replace ew := ew.symm; subst ew)
    go_returns
    exact ⟨rfl, by go_grown⟩

end Go.Proofs.Ytadjdpoplaknkaa
