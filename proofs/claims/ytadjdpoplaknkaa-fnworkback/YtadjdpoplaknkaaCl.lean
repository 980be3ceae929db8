/- CalOk in the program and in the model: both answer what 'calB' says of the calendar. -/
import Derived.Test.YtadjdpoplaknkaaCk
namespace Go.Proofs.Ytadjdpoplaknkaa
open Go.ChangeShapes Go.WideShapes Go.ChangeAt Go.RowKit
set_option linter.unusedVariables false
set_option linter.unusedSimpArgs false

theorem eqCal_same (off : Int) (ad be : Option Addr) (len cap cap2 : Nat) (z : Nat → Int) (w : World) (h : (len : Int) ≤ 1048576) (h1 : IR w ad len z) (h2 : IR w be len z) :
    Calls Try.prog 22 #[.agg #[.int .i64 off, .slice ad len cap], .agg #[.int .i64 off, .slice be len cap2]] w fun e w' => e = .returned (.bool true) ∧ Below w.heap.size w w' := by
  have H1 : Hid (IR w ad len z) := h1
  have H2 : Hid (IR w be len z) := h2
  clear h1 h2
  go_enter Try.func22, Try.ntmps22
  go_wp2_with (go_at_call 47; refine (eqIntS_same _ _ _ _ _ z _ h ((H1.out.alloc _).alloc _) ((H2.out.alloc _).alloc _)).mono ?_; rintro e w1 ⟨rfl, q, rfl⟩)
  go_returns
  exact ⟨rfl, below_drewN (((Below.refl _ _).alloc (Nat.le_refl _) _).alloc (by simp) _) q⟩

/-- The days ascend. -/
def Asc (len : Nat) (z : Nat → Int) : Prop := ∀ j, j < len → (0 ≤ z j ∧ z j ≤ 40000) ∧ (0 < j → z (j - 1) < z j)
open Classical in
noncomputable def ascB (len : Nat) (z : Nat → Int) : Bool := decide (Asc len z)
open Classical in
theorem ascB_t {len : Nat} {z : Nat → Int} (h : Asc len z) : ascB len z = true := by unfold ascB; exact decide_eq_true h
open Classical in
theorem ascB_f {len : Nat} {z : Nat → Int} (h : ¬ Asc len z) : ascB len z = false := by unfold ascB; exact decide_eq_false h
open Classical in
theorem asc_of {len : Nat} {z : Nat → Int} (h : ascB len z = true) : Asc len z := by unfold ascB at h; exact of_decide_eq_true h

theorem bad_day {len k : Nat} {z : Nat → Int} (hk : k < len) (h : ¬ (0 ≤ z k ∧ z k ≤ 40000)) : ascB len z = false := ascB_f fun g => h (g k hk).1
theorem bad_step {len k : Nat} {z : Nat → Int} (hk : k + 1 < len) (h : ¬ z k < z (k + 1)) : ascB len z = false := ascB_f fun g => h ((g (k + 1) hk).2 (by omega))

noncomputable def calB (off : Int) (len : Nat) (z : Nat → Int) : Bool := decide (0 ≤ off ∧ off ≤ 126) && decide (len ≤ 400) && ascB len z

set_option maxHeartbeats 1000000 in
theorem daysAscend_any (ad : Option Addr) (len cap : Nat) (z : Nat → Int) (w : World) (h : (len : Int) ≤ 1048576) (hr : IR w ad len z) :
    Calls Try.prog 46 #[.slice ad len cap] w fun e w' => e = .returned (.bool (ascB len z)) ∧ w' = w := by
  have HR : Hid (IR w ad len z) := hr
  clear hr
  go_enter Try.func46, Try.ntmps46
  go_wp2
  go_loop [7] (fun i => ∃ k : Nat, k ≤ len ∧ i = .int .i64 (k : Int) ∧ Asc k z) (fun i => len - (intOf i).toNat)
  case atStart => exact ⟨0, Nat.zero_le _, rfl, fun j hj => by omega⟩
  case round =>
    obtain ⟨k, hk, rfl, hA⟩ := hrel
    by_cases hlt : k < len
    · obtain ⟨kb, off, rfl, _⟩ := HR.out.addr (by omega)
      have c1 : w.cell? ⟨kb, off + k, none⟩ = some (.int .i64 (z k)) := HR.out.cell hlt
      by_cases hd : 0 ≤ z k ∧ z k ≤ 40000
      · have db := dayB_t hd
        cases k with
        | zero =>
          have HA : Hid (Asc 1 z) := fun j hj => by obtain rfl : j = 0 := by omega
                                                    exact ⟨hd, fun h => by omega⟩
          clear hA
          simp only [Nat.add_zero] at c1
          go_wp2_with (go_at_call 36; refine (isDay_any _ _).mono ?_; rintro e w' ⟨rfl, rfl⟩; rw [db])
          go_round
          case rel => exact ⟨1, by omega, by go_num, HA.out⟩
          case measure => simp [intOf]; omega
        | succ k =>
          have c0 : w.cell? ⟨kb, off + k, none⟩ = some (.int .i64 (z k)) := HR.out.cell (by omega)
          by_cases hs : z k < z (k + 1)
          · have HA : Hid (Asc (k + 1 + 1) z) := fun j hj => by
              by_cases hj2 : j = k + 1
              · subst hj2; exact ⟨hd, fun _ => hs⟩
              · exact hA j (by omega)
            clear hA
            go_wp2_with (go_at_call 36; refine (isDay_any _ _).mono ?_; rintro e w' ⟨rfl, rfl⟩; rw [db])
            go_round
            case rel => exact ⟨k + 1 + 1, by omega, by go_num, HA.out⟩
            case measure => simp [intOf]; omega
          · have hf := bad_step hlt hs
            clear hA
            go_wp2_with (go_at_call 36; refine (isDay_any _ _).mono ?_; rintro e w' ⟨rfl, rfl⟩; rw [db])
            go_returns
            exact ⟨ret_bool hf.symm, rfl⟩
      · have db := dayB_f hd
        have hf := bad_day hlt hd
        clear hA hd
        go_wp2_with (go_at_call 36; refine (isDay_any _ _).mono ?_; rintro e w' ⟨rfl, rfl⟩; rw [db])
        go_returns
        exact ⟨ret_bool hf.symm, rfl⟩
    · obtain rfl : k = len := by omega
      have HF : Hid (ascB k z = true) := ascB_t hA
      clear hA
      go_wp2
      go_returns
      exact ⟨ret_bool HF.out.symm, rfl⟩

theorem calB_t {off : Int} {len : Nat} {z : Nat → Int} (h1 : 0 ≤ off ∧ off ≤ 126) (h2 : len ≤ 400) : calB off len z = ascB len z := by simp [calB, h1, h2]
theorem calB_off {off : Int} {len : Nat} {z : Nat → Int} (h1 : ¬ (0 ≤ off ∧ off ≤ 126)) : calB off len z = false := by unfold calB; rw [decide_eq_false h1]; simp
theorem calB_len {off : Int} {len : Nat} {z : Nat → Int} (h1 : ¬ len ≤ 400) : calB off len z = false := by unfold calB; rw [decide_eq_false h1]; simp

set_option maxHeartbeats 1000000 in
theorem implCalOk_any (off : Int) (ad : Option Addr) (len cap : Nat) (z : Nat → Int) (w : World) (h : (len : Int) ≤ 1048576) (hr : IR w ad len z) :
    Calls Try.prog 21 #[.agg #[.int .i64 off, .slice ad len cap]] w fun e w' => e = .returned (.bool (calB off len z)) ∧ Below w.heap.size w w' := by
  have HR : Hid (IR w ad len z) := hr
  clear hr
  by_cases h1 : 0 ≤ off ∧ off ≤ 126
  · by_cases h2 : len ≤ 400
    · rw [calB_t h1 h2]
      have h3 : (len : Int) ≤ 400 := by omega
      obtain ⟨o1, o2⟩ := h1
      have o3 : off < 127 := by omega
      go_enter Try.func21, Try.ntmps21
      go_wp2_with (go_at_call 46; refine (daysAscend_any _ _ _ z _ h (HR.out.alloc _)).mono ?_; rintro e w1 ⟨rfl, rfl⟩)
      go_returns
      exact ⟨ret_bool (by simp), by go_grown⟩
    · rw [calB_len h2]
      have h3 : ¬ (len : Int) ≤ 400 := by omega
      obtain ⟨o1, o2⟩ := h1
      have o3 : off < 127 := by omega
      go_enter Try.func21, Try.ntmps21
      go_wp2_with (go_at_call 46; refine (daysAscend_any _ _ _ z _ h (HR.out.alloc _)).mono ?_; rintro e w1 ⟨rfl, rfl⟩)
      go_returns
      exact ⟨ret_bool (by simp), by go_grown⟩
  · rw [calB_off h1]
    by_cases o1 : 0 ≤ off
    · have o3 : ¬ off < 127 := by omega
      clear h1
      go_enter Try.func21, Try.ntmps21
      go_wp2_with (go_at_call 46; refine (daysAscend_any _ _ _ z _ h (HR.out.alloc _)).mono ?_; rintro e w1 ⟨rfl, rfl⟩)
      go_returns
      exact ⟨ret_bool (by simp), by go_grown⟩
    · clear h1
      go_enter Try.func21, Try.ntmps21
      go_wp2_with (go_at_call 46; refine (daysAscend_any _ _ _ z _ h (HR.out.alloc _)).mono ?_; rintro e w1 ⟨rfl, rfl⟩)
      go_returns
      exact ⟨ret_bool (by simp), by go_grown⟩

end Go.Proofs.Ytadjdpoplaknkaa
