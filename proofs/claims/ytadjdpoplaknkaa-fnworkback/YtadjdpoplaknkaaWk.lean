/- Whether a day of a right calendar is worked: the program's isFree and the model's l2Work. -/
import Derived.Test.YtadjdpoplaknkaaBs
import Derived.Laws.BitsLemmas
namespace Go.Proofs.Ytadjdpoplaknkaa
open Go.ChangeShapes Go.WideShapes Go.ChangeAt Go.RowKit
set_option linter.unusedVariables false
set_option linter.unusedSimpArgs false

def bitB (off : Int) (p : Nat) : Bool := decide (off / 2 ^ p % 2 = 1)
noncomputable def workB (off : Int) (len : Nat) (z : Nat → Int) (day : Int) : Bool := !(bitB off (wkV day).toNat) && !(memB len z day)

theorem andp : ∀ n : Fin 127, ∀ p : Fin 7, bits .and .i64 (n.val : Int) ((2 : Int) ^ p.val) = if bitB (n.val : Int) p.val = true then (2 : Int) ^ p.val else 0 := by decide +kernel
theorem shrp : ∀ n : Fin 127, ∀ p : Fin 7, bits .and .i64 ((n.val : Int) / 2 ^ p.val) 1 = if bitB (n.val : Int) p.val = true then 1 else 0 := by decide +kernel

theorem and_t {off : Int} (h1 : 0 ≤ off) (h2 : off ≤ 126) (p : Nat) (hp : p < 7) (h : bitB off p = true) : bits .and .i64 off ((2 : Int) ^ p) = (2 : Int) ^ p := by
  have := andp ⟨off.toNat, by omega⟩ ⟨p, hp⟩
  simp only [Int.toNat_of_nonneg h1] at this
  rw [this, if_pos h]
theorem and_f {off : Int} (h1 : 0 ≤ off) (h2 : off ≤ 126) (p : Nat) (hp : p < 7) (h : bitB off p = false) : bits .and .i64 off ((2 : Int) ^ p) = 0 := by
  have := andp ⟨off.toNat, by omega⟩ ⟨p, hp⟩
  simp only [Int.toNat_of_nonneg h1] at this
  rw [this, if_neg (by simp [h])]
theorem shr_t {off : Int} (h1 : 0 ≤ off) (h2 : off ≤ 126) (p : Nat) (hp : p < 7) (h : bitB off p = true) : bits .and .i64 (off / 2 ^ p) 1 = 1 := by
  have := shrp ⟨off.toNat, by omega⟩ ⟨p, hp⟩
  simp only [Int.toNat_of_nonneg h1] at this
  rw [this, if_pos h]
theorem shr_f {off : Int} (h1 : 0 ≤ off) (h2 : off ≤ 126) (p : Nat) (hp : p < 7) (h : bitB off p = false) : bits .and .i64 (off / 2 ^ p) 1 = 0 := by
  have := shrp ⟨off.toNat, by omega⟩ ⟨p, hp⟩
  simp only [Int.toNat_of_nonneg h1] at this
  rw [this, if_neg (by simp [h])]

theorem wk_ways (day : Int) (h1 : 0 ≤ day) (h2 : day ≤ 40000) : wkV day = 0 ∨ wkV day = 1 ∨ wkV day = 2 ∨ wkV day = 3 ∨ wkV day = 4 ∨ wkV day = 5 ∨ wkV day = 6 := by
  rw [wkV_t ⟨h1, h2⟩]; omega

theorem implWk_eq (d v : Int) (w : World) (h : wkV d = v) : Calls Try.prog 17 #[.int .i64 d] w fun e w' => e = .returned (.int .i64 v) ∧ w' = w := by
  have := implWeekday_any d w
  rwa [h] at this
theorem specWk_eq (d v : Int) (w : World) (h : wkV d = v) : Calls Try.prog 16 #[.int .i64 d] w fun e w' => e = .returned (.int .i64 v) ∧ w' = w := by
  have := specWeekday_any d w
  rwa [h] at this

set_option maxHeartbeats 4000000 in
theorem isFree_any (off : Int) (ad : Option Addr) (len cap : Nat) (z : Nat → Int) (day : Int) (w : World) (o1 : 0 ≤ off) (o2 : off ≤ 126) (h : (len : Int) ≤ 1048576) (hr : IR w ad len z) (hA : Asc len z) (d1 : 0 ≤ day) (d2 : day ≤ 40000) :
    Calls Try.prog 37 #[.agg #[.int .i64 off, .slice ad len cap], .int .i64 day] w fun e w' => e = .returned (.bool (!workB off len z day)) ∧ Below w.heap.size w w' := by
  have HR : Hid (IR w ad len z) := hr
  have HA : Hid (Asc len z) := hA
  clear hr hA
  rcases wk_ways day d1 d2 with hw | hw | hw | hw | hw | hw | hw
  · rcases hbit : bitB off 0
    · have hb := and_f o1 o2 0 (by omega) hbit
      have HW : Hid ((!workB off len z day) = memB len z day) := by unfold Hid workB; rw [hw]; simp [hbit]
      simp only [Int.reducePow] at hb
      go_enter Try.func37, Try.ntmps37
      go_wp2
      go_quiet ((go_at_call 17; exact Calls.quiet_of_same (implWk_eq _ _ _ hw)))
      go_wp2_with (go_at_call 55; refine (bsearch_any _ _ _ z _ _ h ((HR.out.alloc _).drewN _) HA.out).mono ?_; rintro e w' ⟨⟨i, rfl⟩, rfl⟩)
      go_returns
      exact ⟨ret_bool HW.out.symm, bel_n⟩
    · have hb := and_t o1 o2 0 (by omega) hbit
      have HW : Hid ((!workB off len z day) = true) := by unfold Hid workB; rw [hw]; simp [hbit]
      simp only [Int.reducePow] at hb
      go_enter Try.func37, Try.ntmps37
      go_wp2
      go_quiet ((go_at_call 17; exact Calls.quiet_of_same (implWk_eq _ _ _ hw)))
      go_wp2
      go_returns
      exact ⟨ret_bool HW.out.symm, bel_n⟩
  · rcases hbit : bitB off 1
    · have hb := and_f o1 o2 1 (by omega) hbit
      have HW : Hid ((!workB off len z day) = memB len z day) := by unfold Hid workB; rw [hw]; simp [hbit]
      simp only [Int.reducePow] at hb
      go_enter Try.func37, Try.ntmps37
      go_wp2
      go_quiet ((go_at_call 17; exact Calls.quiet_of_same (implWk_eq _ _ _ hw)))
      go_wp2_with (go_at_call 55; refine (bsearch_any _ _ _ z _ _ h ((HR.out.alloc _).drewN _) HA.out).mono ?_; rintro e w' ⟨⟨i, rfl⟩, rfl⟩)
      go_returns
      exact ⟨ret_bool HW.out.symm, bel_n⟩
    · have hb := and_t o1 o2 1 (by omega) hbit
      have HW : Hid ((!workB off len z day) = true) := by unfold Hid workB; rw [hw]; simp [hbit]
      simp only [Int.reducePow] at hb
      go_enter Try.func37, Try.ntmps37
      go_wp2
      go_quiet ((go_at_call 17; exact Calls.quiet_of_same (implWk_eq _ _ _ hw)))
      go_wp2
      go_returns
      exact ⟨ret_bool HW.out.symm, bel_n⟩
  · rcases hbit : bitB off 2
    · have hb := and_f o1 o2 2 (by omega) hbit
      have HW : Hid ((!workB off len z day) = memB len z day) := by unfold Hid workB; rw [hw]; simp [hbit]
      simp only [Int.reducePow] at hb
      go_enter Try.func37, Try.ntmps37
      go_wp2
      go_quiet ((go_at_call 17; exact Calls.quiet_of_same (implWk_eq _ _ _ hw)))
      go_wp2_with (go_at_call 55; refine (bsearch_any _ _ _ z _ _ h ((HR.out.alloc _).drewN _) HA.out).mono ?_; rintro e w' ⟨⟨i, rfl⟩, rfl⟩)
      go_returns
      exact ⟨ret_bool HW.out.symm, bel_n⟩
    · have hb := and_t o1 o2 2 (by omega) hbit
      have HW : Hid ((!workB off len z day) = true) := by unfold Hid workB; rw [hw]; simp [hbit]
      simp only [Int.reducePow] at hb
      go_enter Try.func37, Try.ntmps37
      go_wp2
      go_quiet ((go_at_call 17; exact Calls.quiet_of_same (implWk_eq _ _ _ hw)))
      go_wp2
      go_returns
      exact ⟨ret_bool HW.out.symm, bel_n⟩
  · rcases hbit : bitB off 3
    · have hb := and_f o1 o2 3 (by omega) hbit
      have HW : Hid ((!workB off len z day) = memB len z day) := by unfold Hid workB; rw [hw]; simp [hbit]
      simp only [Int.reducePow] at hb
      go_enter Try.func37, Try.ntmps37
      go_wp2
      go_quiet ((go_at_call 17; exact Calls.quiet_of_same (implWk_eq _ _ _ hw)))
      go_wp2_with (go_at_call 55; refine (bsearch_any _ _ _ z _ _ h ((HR.out.alloc _).drewN _) HA.out).mono ?_; rintro e w' ⟨⟨i, rfl⟩, rfl⟩)
      go_returns
      exact ⟨ret_bool HW.out.symm, bel_n⟩
    · have hb := and_t o1 o2 3 (by omega) hbit
      have HW : Hid ((!workB off len z day) = true) := by unfold Hid workB; rw [hw]; simp [hbit]
      simp only [Int.reducePow] at hb
      go_enter Try.func37, Try.ntmps37
      go_wp2
      go_quiet ((go_at_call 17; exact Calls.quiet_of_same (implWk_eq _ _ _ hw)))
      go_wp2
      go_returns
      exact ⟨ret_bool HW.out.symm, bel_n⟩
  · rcases hbit : bitB off 4
    · have hb := and_f o1 o2 4 (by omega) hbit
      have HW : Hid ((!workB off len z day) = memB len z day) := by unfold Hid workB; rw [hw]; simp [hbit]
      simp only [Int.reducePow] at hb
      go_enter Try.func37, Try.ntmps37
      go_wp2
      go_quiet ((go_at_call 17; exact Calls.quiet_of_same (implWk_eq _ _ _ hw)))
      go_wp2_with (go_at_call 55; refine (bsearch_any _ _ _ z _ _ h ((HR.out.alloc _).drewN _) HA.out).mono ?_; rintro e w' ⟨⟨i, rfl⟩, rfl⟩)
      go_returns
      exact ⟨ret_bool HW.out.symm, bel_n⟩
    · have hb := and_t o1 o2 4 (by omega) hbit
      have HW : Hid ((!workB off len z day) = true) := by unfold Hid workB; rw [hw]; simp [hbit]
      simp only [Int.reducePow] at hb
      go_enter Try.func37, Try.ntmps37
      go_wp2
      go_quiet ((go_at_call 17; exact Calls.quiet_of_same (implWk_eq _ _ _ hw)))
      go_wp2
      go_returns
      exact ⟨ret_bool HW.out.symm, bel_n⟩
  · rcases hbit : bitB off 5
    · have hb := and_f o1 o2 5 (by omega) hbit
      have HW : Hid ((!workB off len z day) = memB len z day) := by unfold Hid workB; rw [hw]; simp [hbit]
      simp only [Int.reducePow] at hb
      go_enter Try.func37, Try.ntmps37
      go_wp2
      go_quiet ((go_at_call 17; exact Calls.quiet_of_same (implWk_eq _ _ _ hw)))
      go_wp2_with (go_at_call 55; refine (bsearch_any _ _ _ z _ _ h ((HR.out.alloc _).drewN _) HA.out).mono ?_; rintro e w' ⟨⟨i, rfl⟩, rfl⟩)
      go_returns
      exact ⟨ret_bool HW.out.symm, bel_n⟩
    · have hb := and_t o1 o2 5 (by omega) hbit
      have HW : Hid ((!workB off len z day) = true) := by unfold Hid workB; rw [hw]; simp [hbit]
      simp only [Int.reducePow] at hb
      go_enter Try.func37, Try.ntmps37
      go_wp2
      go_quiet ((go_at_call 17; exact Calls.quiet_of_same (implWk_eq _ _ _ hw)))
      go_wp2
      go_returns
      exact ⟨ret_bool HW.out.symm, bel_n⟩
  · rcases hbit : bitB off 6
    · have hb := and_f o1 o2 6 (by omega) hbit
      have HW : Hid ((!workB off len z day) = memB len z day) := by unfold Hid workB; rw [hw]; simp [hbit]
      simp only [Int.reducePow] at hb
      go_enter Try.func37, Try.ntmps37
      go_wp2
      go_quiet ((go_at_call 17; exact Calls.quiet_of_same (implWk_eq _ _ _ hw)))
      go_wp2_with (go_at_call 55; refine (bsearch_any _ _ _ z _ _ h ((HR.out.alloc _).drewN _) HA.out).mono ?_; rintro e w' ⟨⟨i, rfl⟩, rfl⟩)
      go_returns
      exact ⟨ret_bool HW.out.symm, bel_n⟩
    · have hb := and_t o1 o2 6 (by omega) hbit
      have HW : Hid ((!workB off len z day) = true) := by unfold Hid workB; rw [hw]; simp [hbit]
      simp only [Int.reducePow] at hb
      go_enter Try.func37, Try.ntmps37
      go_wp2
      go_quiet ((go_at_call 17; exact Calls.quiet_of_same (implWk_eq _ _ _ hw)))
      go_wp2
      go_returns
      exact ⟨ret_bool HW.out.symm, bel_n⟩

set_option maxHeartbeats 4000000 in
theorem l2Work_any (off : Int) (ad : Option Addr) (len cap : Nat) (z : Nat → Int) (day : Int) (w : World) (o1 : 0 ≤ off) (o2 : off ≤ 126) (h : (len : Int) ≤ 1048576) (hr : IR w ad len z) (d1 : 0 ≤ day) (d2 : day ≤ 40000) :
    Calls Try.prog 42 #[.agg #[.int .i64 off, .slice ad len cap], .int .i64 day] w fun e w' => e = .returned (.bool (workB off len z day)) ∧ Below w.heap.size w w' := by
  have HR : Hid (IR w ad len z) := hr
  clear hr
  rcases wk_ways day d1 d2 with hw | hw | hw | hw | hw | hw | hw
  · rcases hbit : bitB off 0
    · have hb := shr_f o1 o2 0 (by omega) hbit
      have HW : Hid (workB off len z day = !memB len z day) := by unfold Hid workB; rw [hw]; simp [hbit]
      simp only [Int.reducePow, Int.ediv_one] at hb
      go_enter Try.func42, Try.ntmps42
      go_wp2
      go_quiet ((go_at_call 16; exact Calls.quiet_of_same (specWk_eq _ _ _ hw)))
      go_wp2
      go_loop [5] (fun i => ∃ k : Nat, k ≤ len ∧ i = .int .i64 (k : Int) ∧ Hid (∀ j, j < k → z j ≠ day)) (fun i => len - (intOf i).toNat)
      case atStart => exact ⟨0, Nat.zero_le _, rfl, fun j hj => by omega⟩
      case round =>
        obtain ⟨k, hk, rfl, hP⟩ := hrel
        by_cases hlt : k < len
        · obtain ⟨kb, of, rfl, hkb⟩ := HR.out.addr (by omega)
          have c1 := ((HR.out.alloc (.cells #[.int .i64 off, .slice (some ⟨kb, of, none⟩) len cap] 26 (0, 0))).drewN nq).cell hlt
          have c2 := HR.out.cell hlt
          by_cases he : z k = day
          · have HF : Hid (workB off len z day = false) := by unfold Hid; rw [HW.out, memB_t ⟨k, hlt, he⟩]; rfl
            have ee : (z k == day) = true := by simpa using he
            clear he
            go_wp2
            go_returns
            exact ⟨ret_bool HF.out.symm, bel_n⟩
          · have ee : (z k == day) = false := by simpa using he
            have HP2 : Hid (∀ j, j < k + 1 → z j ≠ day) := fun j hj => by
              by_cases g : j = k
              · subst g; exact he
              · exact hP.out j (by omega)
            clear he
            go_wp2
            go_round
            case rel => exact ⟨k + 1, by omega, by go_num, HP2⟩
            case measure => simp [intOf]; omega
        · obtain rfl : k = len := by omega
          have HF : Hid (workB off k z day = true) := by unfold Hid; rw [HW.out, memB_f (fun ⟨j, h1, h2⟩ => hP.out j h1 h2)]; rfl
          go_wp2
          go_returns
          exact ⟨ret_bool HF.out.symm, bel_n⟩
    · have hb := shr_t o1 o2 0 (by omega) hbit
      have HW : Hid (workB off len z day = false) := by unfold Hid workB; rw [hw]; simp [hbit]
      simp only [Int.reducePow, Int.ediv_one] at hb
      go_enter Try.func42, Try.ntmps42
      go_wp2
      go_quiet ((go_at_call 16; exact Calls.quiet_of_same (specWk_eq _ _ _ hw)))
      go_wp2
      go_returns
      exact ⟨ret_bool HW.out.symm, bel_n⟩
  · rcases hbit : bitB off 1
    · have hb := shr_f o1 o2 1 (by omega) hbit
      have HW : Hid (workB off len z day = !memB len z day) := by unfold Hid workB; rw [hw]; simp [hbit]
      simp only [Int.reducePow, Int.ediv_one] at hb
      go_enter Try.func42, Try.ntmps42
      go_wp2
      go_quiet ((go_at_call 16; exact Calls.quiet_of_same (specWk_eq _ _ _ hw)))
      go_wp2
      go_loop [5] (fun i => ∃ k : Nat, k ≤ len ∧ i = .int .i64 (k : Int) ∧ Hid (∀ j, j < k → z j ≠ day)) (fun i => len - (intOf i).toNat)
      case atStart => exact ⟨0, Nat.zero_le _, rfl, fun j hj => by omega⟩
      case round =>
        obtain ⟨k, hk, rfl, hP⟩ := hrel
        by_cases hlt : k < len
        · obtain ⟨kb, of, rfl, hkb⟩ := HR.out.addr (by omega)
          have c1 := ((HR.out.alloc (.cells #[.int .i64 off, .slice (some ⟨kb, of, none⟩) len cap] 26 (0, 0))).drewN nq).cell hlt
          have c2 := HR.out.cell hlt
          by_cases he : z k = day
          · have HF : Hid (workB off len z day = false) := by unfold Hid; rw [HW.out, memB_t ⟨k, hlt, he⟩]; rfl
            have ee : (z k == day) = true := by simpa using he
            clear he
            go_wp2
            go_returns
            exact ⟨ret_bool HF.out.symm, bel_n⟩
          · have ee : (z k == day) = false := by simpa using he
            have HP2 : Hid (∀ j, j < k + 1 → z j ≠ day) := fun j hj => by
              by_cases g : j = k
              · subst g; exact he
              · exact hP.out j (by omega)
            clear he
            go_wp2
            go_round
            case rel => exact ⟨k + 1, by omega, by go_num, HP2⟩
            case measure => simp [intOf]; omega
        · obtain rfl : k = len := by omega
          have HF : Hid (workB off k z day = true) := by unfold Hid; rw [HW.out, memB_f (fun ⟨j, h1, h2⟩ => hP.out j h1 h2)]; rfl
          go_wp2
          go_returns
          exact ⟨ret_bool HF.out.symm, bel_n⟩
    · have hb := shr_t o1 o2 1 (by omega) hbit
      have HW : Hid (workB off len z day = false) := by unfold Hid workB; rw [hw]; simp [hbit]
      simp only [Int.reducePow, Int.ediv_one] at hb
      go_enter Try.func42, Try.ntmps42
      go_wp2
      go_quiet ((go_at_call 16; exact Calls.quiet_of_same (specWk_eq _ _ _ hw)))
      go_wp2
      go_returns
      exact ⟨ret_bool HW.out.symm, bel_n⟩
  · rcases hbit : bitB off 2
    · have hb := shr_f o1 o2 2 (by omega) hbit
      have HW : Hid (workB off len z day = !memB len z day) := by unfold Hid workB; rw [hw]; simp [hbit]
      simp only [Int.reducePow, Int.ediv_one] at hb
      go_enter Try.func42, Try.ntmps42
      go_wp2
      go_quiet ((go_at_call 16; exact Calls.quiet_of_same (specWk_eq _ _ _ hw)))
      go_wp2
      go_loop [5] (fun i => ∃ k : Nat, k ≤ len ∧ i = .int .i64 (k : Int) ∧ Hid (∀ j, j < k → z j ≠ day)) (fun i => len - (intOf i).toNat)
      case atStart => exact ⟨0, Nat.zero_le _, rfl, fun j hj => by omega⟩
      case round =>
        obtain ⟨k, hk, rfl, hP⟩ := hrel
        by_cases hlt : k < len
        · obtain ⟨kb, of, rfl, hkb⟩ := HR.out.addr (by omega)
          have c1 := ((HR.out.alloc (.cells #[.int .i64 off, .slice (some ⟨kb, of, none⟩) len cap] 26 (0, 0))).drewN nq).cell hlt
          have c2 := HR.out.cell hlt
          by_cases he : z k = day
          · have HF : Hid (workB off len z day = false) := by unfold Hid; rw [HW.out, memB_t ⟨k, hlt, he⟩]; rfl
            have ee : (z k == day) = true := by simpa using he
            clear he
            go_wp2
            go_returns
            exact ⟨ret_bool HF.out.symm, bel_n⟩
          · have ee : (z k == day) = false := by simpa using he
            have HP2 : Hid (∀ j, j < k + 1 → z j ≠ day) := fun j hj => by
              by_cases g : j = k
              · subst g; exact he
              · exact hP.out j (by omega)
            clear he
            go_wp2
            go_round
            case rel => exact ⟨k + 1, by omega, by go_num, HP2⟩
            case measure => simp [intOf]; omega
        · obtain rfl : k = len := by omega
          have HF : Hid (workB off k z day = true) := by unfold Hid; rw [HW.out, memB_f (fun ⟨j, h1, h2⟩ => hP.out j h1 h2)]; rfl
          go_wp2
          go_returns
          exact ⟨ret_bool HF.out.symm, bel_n⟩
    · have hb := shr_t o1 o2 2 (by omega) hbit
      have HW : Hid (workB off len z day = false) := by unfold Hid workB; rw [hw]; simp [hbit]
      simp only [Int.reducePow, Int.ediv_one] at hb
      go_enter Try.func42, Try.ntmps42
      go_wp2
      go_quiet ((go_at_call 16; exact Calls.quiet_of_same (specWk_eq _ _ _ hw)))
      go_wp2
      go_returns
      exact ⟨ret_bool HW.out.symm, bel_n⟩
  · rcases hbit : bitB off 3
    · have hb := shr_f o1 o2 3 (by omega) hbit
      have HW : Hid (workB off len z day = !memB len z day) := by unfold Hid workB; rw [hw]; simp [hbit]
      simp only [Int.reducePow, Int.ediv_one] at hb
      go_enter Try.func42, Try.ntmps42
      go_wp2
      go_quiet ((go_at_call 16; exact Calls.quiet_of_same (specWk_eq _ _ _ hw)))
      go_wp2
      go_loop [5] (fun i => ∃ k : Nat, k ≤ len ∧ i = .int .i64 (k : Int) ∧ Hid (∀ j, j < k → z j ≠ day)) (fun i => len - (intOf i).toNat)
      case atStart => exact ⟨0, Nat.zero_le _, rfl, fun j hj => by omega⟩
      case round =>
        obtain ⟨k, hk, rfl, hP⟩ := hrel
        by_cases hlt : k < len
        · obtain ⟨kb, of, rfl, hkb⟩ := HR.out.addr (by omega)
          have c1 := ((HR.out.alloc (.cells #[.int .i64 off, .slice (some ⟨kb, of, none⟩) len cap] 26 (0, 0))).drewN nq).cell hlt
          have c2 := HR.out.cell hlt
          by_cases he : z k = day
          · have HF : Hid (workB off len z day = false) := by unfold Hid; rw [HW.out, memB_t ⟨k, hlt, he⟩]; rfl
            have ee : (z k == day) = true := by simpa using he
            clear he
            go_wp2
            go_returns
            exact ⟨ret_bool HF.out.symm, bel_n⟩
          · have ee : (z k == day) = false := by simpa using he
            have HP2 : Hid (∀ j, j < k + 1 → z j ≠ day) := fun j hj => by
              by_cases g : j = k
              · subst g; exact he
              · exact hP.out j (by omega)
            clear he
            go_wp2
            go_round
            case rel => exact ⟨k + 1, by omega, by go_num, HP2⟩
            case measure => simp [intOf]; omega
        · obtain rfl : k = len := by omega
          have HF : Hid (workB off k z day = true) := by unfold Hid; rw [HW.out, memB_f (fun ⟨j, h1, h2⟩ => hP.out j h1 h2)]; rfl
          go_wp2
          go_returns
          exact ⟨ret_bool HF.out.symm, bel_n⟩
    · have hb := shr_t o1 o2 3 (by omega) hbit
      have HW : Hid (workB off len z day = false) := by unfold Hid workB; rw [hw]; simp [hbit]
      simp only [Int.reducePow, Int.ediv_one] at hb
      go_enter Try.func42, Try.ntmps42
      go_wp2
      go_quiet ((go_at_call 16; exact Calls.quiet_of_same (specWk_eq _ _ _ hw)))
      go_wp2
      go_returns
      exact ⟨ret_bool HW.out.symm, bel_n⟩
  · rcases hbit : bitB off 4
    · have hb := shr_f o1 o2 4 (by omega) hbit
      have HW : Hid (workB off len z day = !memB len z day) := by unfold Hid workB; rw [hw]; simp [hbit]
      simp only [Int.reducePow, Int.ediv_one] at hb
      go_enter Try.func42, Try.ntmps42
      go_wp2
      go_quiet ((go_at_call 16; exact Calls.quiet_of_same (specWk_eq _ _ _ hw)))
      go_wp2
      go_loop [5] (fun i => ∃ k : Nat, k ≤ len ∧ i = .int .i64 (k : Int) ∧ Hid (∀ j, j < k → z j ≠ day)) (fun i => len - (intOf i).toNat)
      case atStart => exact ⟨0, Nat.zero_le _, rfl, fun j hj => by omega⟩
      case round =>
        obtain ⟨k, hk, rfl, hP⟩ := hrel
        by_cases hlt : k < len
        · obtain ⟨kb, of, rfl, hkb⟩ := HR.out.addr (by omega)
          have c1 := ((HR.out.alloc (.cells #[.int .i64 off, .slice (some ⟨kb, of, none⟩) len cap] 26 (0, 0))).drewN nq).cell hlt
          have c2 := HR.out.cell hlt
          by_cases he : z k = day
          · have HF : Hid (workB off len z day = false) := by unfold Hid; rw [HW.out, memB_t ⟨k, hlt, he⟩]; rfl
            have ee : (z k == day) = true := by simpa using he
            clear he
            go_wp2
            go_returns
            exact ⟨ret_bool HF.out.symm, bel_n⟩
          · have ee : (z k == day) = false := by simpa using he
            have HP2 : Hid (∀ j, j < k + 1 → z j ≠ day) := fun j hj => by
              by_cases g : j = k
              · subst g; exact he
              · exact hP.out j (by omega)
            clear he
            go_wp2
            go_round
            case rel => exact ⟨k + 1, by omega, by go_num, HP2⟩
            case measure => simp [intOf]; omega
        · obtain rfl : k = len := by omega
          have HF : Hid (workB off k z day = true) := by unfold Hid; rw [HW.out, memB_f (fun ⟨j, h1, h2⟩ => hP.out j h1 h2)]; rfl
          go_wp2
          go_returns
          exact ⟨ret_bool HF.out.symm, bel_n⟩
    · have hb := shr_t o1 o2 4 (by omega) hbit
      have HW : Hid (workB off len z day = false) := by unfold Hid workB; rw [hw]; simp [hbit]
      simp only [Int.reducePow, Int.ediv_one] at hb
      go_enter Try.func42, Try.ntmps42
      go_wp2
      go_quiet ((go_at_call 16; exact Calls.quiet_of_same (specWk_eq _ _ _ hw)))
      go_wp2
      go_returns
      exact ⟨ret_bool HW.out.symm, bel_n⟩
  · rcases hbit : bitB off 5
    · have hb := shr_f o1 o2 5 (by omega) hbit
      have HW : Hid (workB off len z day = !memB len z day) := by unfold Hid workB; rw [hw]; simp [hbit]
      simp only [Int.reducePow, Int.ediv_one] at hb
      go_enter Try.func42, Try.ntmps42
      go_wp2
      go_quiet ((go_at_call 16; exact Calls.quiet_of_same (specWk_eq _ _ _ hw)))
      go_wp2
      go_loop [5] (fun i => ∃ k : Nat, k ≤ len ∧ i = .int .i64 (k : Int) ∧ Hid (∀ j, j < k → z j ≠ day)) (fun i => len - (intOf i).toNat)
      case atStart => exact ⟨0, Nat.zero_le _, rfl, fun j hj => by omega⟩
      case round =>
        obtain ⟨k, hk, rfl, hP⟩ := hrel
        by_cases hlt : k < len
        · obtain ⟨kb, of, rfl, hkb⟩ := HR.out.addr (by omega)
          have c1 := ((HR.out.alloc (.cells #[.int .i64 off, .slice (some ⟨kb, of, none⟩) len cap] 26 (0, 0))).drewN nq).cell hlt
          have c2 := HR.out.cell hlt
          by_cases he : z k = day
          · have HF : Hid (workB off len z day = false) := by unfold Hid; rw [HW.out, memB_t ⟨k, hlt, he⟩]; rfl
            have ee : (z k == day) = true := by simpa using he
            clear he
            go_wp2
            go_returns
            exact ⟨ret_bool HF.out.symm, bel_n⟩
          · have ee : (z k == day) = false := by simpa using he
            have HP2 : Hid (∀ j, j < k + 1 → z j ≠ day) := fun j hj => by
              by_cases g : j = k
              · subst g; exact he
              · exact hP.out j (by omega)
            clear he
            go_wp2
            go_round
            case rel => exact ⟨k + 1, by omega, by go_num, HP2⟩
            case measure => simp [intOf]; omega
        · obtain rfl : k = len := by omega
          have HF : Hid (workB off k z day = true) := by unfold Hid; rw [HW.out, memB_f (fun ⟨j, h1, h2⟩ => hP.out j h1 h2)]; rfl
          go_wp2
          go_returns
          exact ⟨ret_bool HF.out.symm, bel_n⟩
    · have hb := shr_t o1 o2 5 (by omega) hbit
      have HW : Hid (workB off len z day = false) := by unfold Hid workB; rw [hw]; simp [hbit]
      simp only [Int.reducePow, Int.ediv_one] at hb
      go_enter Try.func42, Try.ntmps42
      go_wp2
      go_quiet ((go_at_call 16; exact Calls.quiet_of_same (specWk_eq _ _ _ hw)))
      go_wp2
      go_returns
      exact ⟨ret_bool HW.out.symm, bel_n⟩
  · rcases hbit : bitB off 6
    · have hb := shr_f o1 o2 6 (by omega) hbit
      have HW : Hid (workB off len z day = !memB len z day) := by unfold Hid workB; rw [hw]; simp [hbit]
      simp only [Int.reducePow, Int.ediv_one] at hb
      go_enter Try.func42, Try.ntmps42
      go_wp2
      go_quiet ((go_at_call 16; exact Calls.quiet_of_same (specWk_eq _ _ _ hw)))
      go_wp2
      go_loop [5] (fun i => ∃ k : Nat, k ≤ len ∧ i = .int .i64 (k : Int) ∧ Hid (∀ j, j < k → z j ≠ day)) (fun i => len - (intOf i).toNat)
      case atStart => exact ⟨0, Nat.zero_le _, rfl, fun j hj => by omega⟩
      case round =>
        obtain ⟨k, hk, rfl, hP⟩ := hrel
        by_cases hlt : k < len
        · obtain ⟨kb, of, rfl, hkb⟩ := HR.out.addr (by omega)
          have c1 := ((HR.out.alloc (.cells #[.int .i64 off, .slice (some ⟨kb, of, none⟩) len cap] 26 (0, 0))).drewN nq).cell hlt
          have c2 := HR.out.cell hlt
          by_cases he : z k = day
          · have HF : Hid (workB off len z day = false) := by unfold Hid; rw [HW.out, memB_t ⟨k, hlt, he⟩]; rfl
            have ee : (z k == day) = true := by simpa using he
            clear he
            go_wp2
            go_returns
            exact ⟨ret_bool HF.out.symm, bel_n⟩
          · have ee : (z k == day) = false := by simpa using he
            have HP2 : Hid (∀ j, j < k + 1 → z j ≠ day) := fun j hj => by
              by_cases g : j = k
              · subst g; exact he
              · exact hP.out j (by omega)
            clear he
            go_wp2
            go_round
            case rel => exact ⟨k + 1, by omega, by go_num, HP2⟩
            case measure => simp [intOf]; omega
        · obtain rfl : k = len := by omega
          have HF : Hid (workB off k z day = true) := by unfold Hid; rw [HW.out, memB_f (fun ⟨j, h1, h2⟩ => hP.out j h1 h2)]; rfl
          go_wp2
          go_returns
          exact ⟨ret_bool HF.out.symm, bel_n⟩
    · have hb := shr_t o1 o2 6 (by omega) hbit
      have HW : Hid (workB off len z day = false) := by unfold Hid workB; rw [hw]; simp [hbit]
      simp only [Int.reducePow, Int.ediv_one] at hb
      go_enter Try.func42, Try.ntmps42
      go_wp2
      go_quiet ((go_at_call 16; exact Calls.quiet_of_same (specWk_eq _ _ _ hw)))
      go_wp2
      go_returns
      exact ⟨ret_bool HW.out.symm, bel_n⟩

end Go.Proofs.Ytadjdpoplaknkaa
