/- PeriodAt in the program and in the model: both answer what 'atV' says. -/
import Derived.Test.YtadjdpoplaknkaaPs
namespace Go.Proofs.Ytadjdpoplaknkaa
open Go.ChangeShapes Go.WideShapes Go.ChangeAt Go.RowKit
set_option linter.unusedVariables false
set_option linter.unusedSimpArgs false

/-- The lowest place from s on, of f places, whose period holds the day. -/
def atF (x y : Nat → Int) (day : Int) : Nat → Nat → Int
  | 0, _ => -1
  | f + 1, s => if x s ≤ day ∧ day ≤ y s then (s : Int) else atF x y day f (s + 1)

theorem atF_hit {x y : Nat → Int} {day : Int} {len k : Nat} (hk : k < len) (h : x k ≤ day ∧ day ≤ y k) : atF x y day (len - k) k = (k : Int) := by
  obtain ⟨f, hf⟩ : ∃ f, len - k = f + 1 := ⟨len - k - 1, by omega⟩
  rw [hf]; exact if_pos h
theorem atF_miss {x y : Nat → Int} {day : Int} {len k : Nat} (hk : k < len) (h : ¬ (x k ≤ day ∧ day ≤ y k)) : atF x y day (len - k) k = atF x y day (len - (k + 1)) (k + 1) := by
  obtain ⟨f, hf⟩ : ∃ f, len - k = f + 1 := ⟨len - k - 1, by omega⟩
  rw [hf, show len - (k + 1) = f by omega]; exact if_neg h
theorem atF_end {x y : Nat → Int} {day : Int} {k : Nat} : atF x y day (k - k) k = -1 := by rw [Nat.sub_self]; rfl

def atV (len : Nat) (x y : Nat → Int) (day : Int) : Int := if len ≤ 60 then atF x y day len 0 else -1

set_option maxHeartbeats 1000000 in
theorem specPeriodAt_any (ad : Option Addr) (len cap : Nat) (x y : Nat → Int) (day : Int) (w : World) (h : (len : Int) ≤ 1048576) (hr : PR w ad len x y) :
    Calls Try.prog 26 #[.slice ad len cap, .int .i64 day] w fun e w' => e = .returned (.int .i64 (atV len x y day)) ∧ w' = w := by
  have HR : Hid (PR w ad len x y) := hr
  clear hr
  by_cases h60 : len ≤ 60
  · have hv : atV len x y day = atF x y day len 0 := if_pos h60
    rw [hv]; clear hv
    have h6 : (len : Int) ≤ 60 := by omega
    go_enter Try.func26, Try.ntmps26
    go_wp2
    go_loop [5] (fun i => ∃ k : Nat, k ≤ len ∧ i = .int .i64 (k : Int) ∧ Hid (atF x y day (len - k) k = atF x y day len 0)) (fun i => len - (intOf i).toNat)
    case atStart => exact ⟨0, Nat.zero_le _, rfl, rfl⟩
    case round =>
      obtain ⟨k, hk, rfl, hP⟩ := hrel
      by_cases hlt : k < len
      · obtain ⟨kb, off, rfl, _⟩ := HR.out.addr (by omega)
        obtain ⟨c1, c2⟩ := HR.out.cell hlt
        by_cases g1 : x k ≤ day
        · by_cases g2 : day ≤ y k
          · have HF : Hid (atF x y day len 0 = (k : Int)) := by rw [← hP.out]; exact atF_hit hlt ⟨g1, g2⟩
            go_wp2
            go_returns
            exact ⟨ret_int HF.out.symm, rfl⟩
          · have HF : Hid (atF x y day (len - (k + 1)) (k + 1) = atF x y day len 0) := by rw [← hP.out]; exact (atF_miss hlt (by omega)).symm
            go_wp2
            go_round
            case rel => exact ⟨k + 1, by omega, by go_num, HF⟩
            case measure => simp [intOf]; omega
        · have HF : Hid (atF x y day (len - (k + 1)) (k + 1) = atF x y day len 0) := by rw [← hP.out]; exact (atF_miss hlt (by omega)).symm
          go_wp2
          go_round
          case rel => exact ⟨k + 1, by omega, by go_num, HF⟩
          case measure => simp [intOf]; omega
      · obtain rfl : k = len := by omega
        have HF : Hid (atF x y day k 0 = -1) := by rw [← hP.out]; exact atF_end
        go_wp2
        go_returns
        exact ⟨ret_int HF.out.symm, rfl⟩
  · have hv : atV len x y day = -1 := if_neg h60
    rw [hv]; clear hv
    have h6 : (60 : Int) < (len : Int) := by omega
    go_enter Try.func26, Try.ntmps26
    go_wp2
    go_returns
    exact ⟨rfl, rfl⟩

theorem holds_any (a c day : Int) (b : Nat) (w : World) (hd : CB w b #[.int .i64 day] 3) :
    Calls Try.prog 50 #[.agg #[.int .i64 a, .int .i64 c], .pointer (some ⟨b, 0, none⟩)] w fun e w' => e = .returned (.bool (decide (a ≤ day ∧ day ≤ c))) ∧ Below w.heap.size w w' := by
  have c0 := (hd.alloc (.cells #[.int .i64 a, .int .i64 c] 64 (0, 0))).cell 0
  simp at c0
  clear hd
  go_enter Try.func50, Try.ntmps50
  go_wp2
  all_goals go_returns
  all_goals exact ⟨ret_bool (by rw [Bool.eq_iff_iff]; simp; try omega), by go_grown⟩

theorem holds_eq (a c day : Int) (b : Nat) (v : Bool) (w : World) (hd : CB w b #[.int .i64 day] 3) (hv : decide (a ≤ day ∧ day ≤ c) = v) :
    Calls Try.prog 50 #[.agg #[.int .i64 a, .int .i64 c], .pointer (some ⟨b, 0, none⟩)] w fun e w' => e = .returned (.bool v) ∧ Below w.heap.size w w' := by
  have := holds_any a c day b w hd
  rwa [hv] at this

set_option maxHeartbeats 1000000 in
theorem indexFunc_any (ad : Option Addr) (len cap : Nat) (x y : Nat → Int) (day : Int) (b : Nat) (w : World) (h : (len : Int) ≤ 60) (hr : PR w ad len x y) (hd : CB w b #[.int .i64 day] 3) :
    Calls Try.prog 49 #[.slice ad len cap, .func (Fn.func 50) #[] #[.pointer (some ⟨b, 0, none⟩)]] w fun e w' => e = .returned (.int .i64 (atF x y day len 0)) ∧ Below w.heap.size w w' := by
  have HR : Hid (PR w ad len x y) := hr
  have HD : Hid (CB w b #[.int .i64 day] 3) := hd
  clear hr hd
  go_enter Try.func49, Try.ntmps49
  go_wp2
  go_loopw [8] (fun i wr => ∃ k : Nat, k ≤ len ∧ i = .int .i64 (k : Int) ∧ Hid (atF x y day (len - k) k = atF x y day len 0) ∧ Below w.heap.size w wr) (fun i _ => len - (intOf i).toNat)
  case atStart => exact ⟨0, Nat.zero_le _, rfl, rfl, Below.refl _ _⟩
  case round =>
    obtain ⟨k, hk, rfl, hP, hB⟩ := hrel
    by_cases hlt : k < len
    · obtain ⟨kb, off, rfl, _⟩ := HR.out.addr (by omega)
      obtain ⟨c1, c2⟩ := (HR.out.below hB).cell hlt
      have HB : Hid (Below w.heap.size w wr) := hB
      have HC : Hid (CB wr b #[.int .i64 day] 3) := HD.out.below hB HD.out.lt
      clear hB
      by_cases g : x k ≤ day ∧ day ≤ y k
      · have HF : Hid (atF x y day len 0 = (k : Int)) := by rw [← hP.out]; exact atF_hit hlt g
        have hv : Hid (decide (x k ≤ day ∧ day ≤ y k) = true) := decide_eq_true g
        clear g
        go_wp2_with (go_at_call 50; refine (holds_eq _ _ day b _ _ HC.out hv.out).mono ?_; rintro e w1 ⟨rfl, b1⟩)
        go_returns
        exact ⟨ret_int HF.out.symm, bel_on HB.out b1⟩
      · have HF : Hid (atF x y day (len - (k + 1)) (k + 1) = atF x y day len 0) := by rw [← hP.out]; exact (atF_miss hlt g).symm
        have hv : Hid (decide (x k ≤ day ∧ day ≤ y k) = false) := decide_eq_false g
        clear g
        go_wp2_with (go_at_call 50; refine (holds_eq _ _ day b _ _ HC.out hv.out).mono ?_; rintro e w1 ⟨rfl, b1⟩)
        go_roundw
        case rel => exact ⟨k + 1, by omega, by go_num, HF, bel_on HB.out b1⟩
        case measure => simp [intOf]; omega
    · obtain rfl : k = len := by omega
      have HF : Hid (atF x y day k 0 = -1) := by rw [← hP.out]; exact atF_end
      have HB : Hid (Below w.heap.size w wr) := hB
      clear hB
      go_wp2
      go_returns
      exact ⟨ret_int HF.out.symm, HB.out⟩

set_option maxHeartbeats 1000000 in
theorem implPeriodAt_any (ad : Option Addr) (len cap : Nat) (x y : Nat → Int) (day : Int) (w : World) (h : (len : Int) ≤ 1048576) (hr : PR w ad len x y) :
    Calls Try.prog 28 #[.slice ad len cap, .int .i64 day] w fun e w' => e = .returned (.int .i64 (atV len x y day)) ∧ Below w.heap.size w w' := by
  have HR : Hid (PR w ad len x y) := hr
  clear hr
  by_cases h60 : len ≤ 60
  · have hv : atV len x y day = atF x y day len 0 := if_pos h60
    rw [hv]; clear hv
    have h6 : (len : Int) ≤ 60 := by omega
    go_enter Try.func28, Try.ntmps28
    go_wp2_with (go_at_call 49; refine (indexFunc_any _ _ _ x y day _ _ h6 (HR.out.alloc _) (CB.new _ _)).mono ?_; rintro e w1 ⟨rfl, b1⟩)
    go_returns
    exact ⟨rfl, bel_on ((Below.refl _ _).alloc (Nat.le_refl _) _) b1⟩
  · have hv : atV len x y day = -1 := if_neg h60
    rw [hv]; clear hv
    have h6 : (60 : Int) < (len : Int) := by omega
    go_enter Try.func28, Try.ntmps28
    go_wp2
    go_returns
    exact ⟨rfl, by go_grown⟩

end Go.Proofs.Ytadjdpoplaknkaa
