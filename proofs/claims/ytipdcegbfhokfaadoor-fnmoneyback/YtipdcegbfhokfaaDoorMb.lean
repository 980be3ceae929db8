/- The walk of the law FnMoneyBack. -/
import Derived.Test.YtipdcegbfhokfaaDoorBk
import Derived.Test.YtipdcegbfhokfaaDoorAm
import Derived.Test.YtipdcegbfhokfaaDoorBg
import Derived.OpenShut
namespace Go.Proofs.YtipdcegbfhokfaaDoor
open Go.ChangeShapes Go.WideShapes Go.ChangeAt Go.RowKit
set_option linter.unusedVariables false
set_option linter.unusedSimpArgs false
open Go.Lib

/-- What the walk knows of the library's variables. -/
def Tabs (w : World) (m : Int) : Prop := Lib.TabIs Tryd.prog w "internal/strconv.uint64pow10" .u64 Lib.pow10Tab ∧ w.cell? ⟨0, 0, none⟩ = some (.int .i64 m) ∧ 1 < w.heap.size

theorem gTab : Tryd.prog.globalNamed "internal/strconv.uint64pow10" = some 1 := by kernel_rfl

theorem Tabs.below {w w' : World} {m : Int} (h : Tabs w m) (b : Below w.heap.size w w') : Tabs w' m := by
  obtain ⟨h1, h2, h3⟩ := h
  have hz := b.size
  exact ⟨var?_below b gTab h3 h1, by rw [b.cell (p := ⟨0, 0, none⟩) (by show 0 < w.heap.size; omega)]; exact h2, by omega⟩

theorem abs_p (x : Int) (w : World) (h : 0 ≤ x) : Calls Tryd.prog 9 #[.int .i64 x] w fun e w' => e = .returned (.int .i64 x) ∧ w' = w := by
  go_enter Tryd.func9, Tryd.ntmps9
  go_wp2
  go_returns
  exact ⟨rfl, rfl⟩

theorem abs_n (x : Int) (w : World) (h : x < 0) (h1 : -9223372036854775000 ≤ x) : Calls Tryd.prog 9 #[.int .i64 x] w fun e w' => e = .returned (.int .i64 (-x)) ∧ w' = w := by
  go_enter Tryd.func9, Tryd.ntmps9
  go_wp2
  go_returns
  exact ⟨rfl, rfl⟩

theorem abs_least (w : World) : Calls Tryd.prog 9 #[.int .i64 (-9223372036854775808)] w fun e w' => e = .returned (.int .i64 (-9223372036854775808)) ∧ w' = w := by
  go_enter Tryd.func9, Tryd.ntmps9
  go_wp2
  go_returns
  exact ⟨congrArg (fun z => Ending.returned (.int .i64 z)) (by first | rfl | (unfold wrap64; rfl) | (unfold wrap64; decide)), rfl⟩

theorem str_list (l : List UInt8) : (str l).data.toList = l := by simp [str]

theorem sm_small (a P : Int) : ((str (smL a P)).size : Int) ≤ 1048576 := by
  rw [str_size]; have := smL_len a P; omega

set_option maxRecDepth 20000 in
set_option maxHeartbeats 4000000 in
theorem moneyBack_walk (ad : Option Addr) (len cap : Nat) (m : Int) (w : World) (hl : (len : Int) ≤ 1048576) (hr : ByteRow w w.heap.size ad len) (ht : Tabs w m) :
    Calls Tryd.prog 3 #[.slice ad len cap] w fun e w' => e = .returned (.bool true) ∧ Below w.heap.size w w' := by
  have HR : Hid (ByteRow w w.heap.size ad len) := hr
  have HT : Hid (Tabs w m) := ht
  have HL : Hid ((len : Int) ≤ 1048576) := hl
  clear hr ht
  go_enter Tryd.func3, Tryd.ntmps3
  go_wp2_with (first
    | (go_at_call 5; go_in)
    | (go_at_call 6; refine (drawShow_any ad len cap _ (by have := HL.out; omega) HR.out).mono ?_; rintro e w0 ⟨a, m0, rfl, hd, b0⟩; have BR : Hid (Below w.heap.size w w0) := b0; replace HT : Hid (Tabs w0 m) := HT.out.below b0; have HD : Hid (Drawn a) := hd; clear b0 hd))
  go_loopw [5] (fun i wr => ∃ k : Int, 0 ≤ k ∧ k ≤ 7 ∧ i = .int .i64 k ∧ Below w.heap.size w wr ∧ Tabs wr m) (fun i _ => (7 - RowKit.intOf i).toNat)
  case atStart => exact ⟨0, by omega, by omega, rfl, BR.out, HT.out⟩
  case round =>
    obtain ⟨k, hk0, hk7, rfl, br, ht⟩ := hrel
    replace BR : Hid (Below w.heap.size w wr) := br
    replace HT : Hid (Tabs wr m) := ht
    clear br ht
    by_cases hk : k ≤ 6
    · rcases HD.out with hd | hd | hd | hd | hd
      · obtain ⟨rB, rN⟩ := back_ok a k hd hk0 hk
        obtain ⟨d1, d2⟩ := hd
        by_cases ha : 0 ≤ a
        all_goals
          go_wp2_with (first
        | (go_at_call 8; refine (implShow_any _ _ _ HT.out.1).mono ?_; rintro e w1 ⟨rfl, b1⟩; replace BR : Hid (Below w.heap.size w w1) := BR.out.trans (b1.mono BR.out.size); replace HT : Hid (Tabs w1 m) := HT.out.below b1; clear b1)
        | (go_at_call 7; refine (implRead_any _ _ m _ (sm_small _ _) HT.out.2.1).mono ?_; rintro e w2 ⟨rfl, b2⟩; replace BR : Hid (Below w.heap.size w w2) := BR.out.trans (b2.mono BR.out.size); replace HT : Hid (Tabs w2 m) := HT.out.below b2; clear b2; rw [str_list, rB, rN])
        | (go_at_call 9; refine (abs_p _ _ (by omega)).mono ?_; rintro e w' ⟨rfl, rfl⟩)
        | (go_at_call 9; refine (abs_n _ _ (by omega) (by omega)).mono ?_; rintro e w' ⟨rfl, rfl⟩)
        | (go_at_call 9; refine (abs_least _).mono ?_; rintro e w' ⟨rfl, rfl⟩))
          go_roundw
          case rel => exact ⟨k + 1, by omega, by omega, by go_num, BR.out, HT.out⟩
          case measure => simp [RowKit.intOf]; omega
      · obtain ⟨rB, rN⟩ := back_bad a k (by omega) hk0 hk
        subst hd
        go_wp2_with (first
        | (go_at_call 8; refine (implShow_any _ _ _ HT.out.1).mono ?_; rintro e w1 ⟨rfl, b1⟩; replace BR : Hid (Below w.heap.size w w1) := BR.out.trans (b1.mono BR.out.size); replace HT : Hid (Tabs w1 m) := HT.out.below b1; clear b1)
        | (go_at_call 7; refine (implRead_any _ _ m _ (sm_small _ _) HT.out.2.1).mono ?_; rintro e w2 ⟨rfl, b2⟩; replace BR : Hid (Below w.heap.size w w2) := BR.out.trans (b2.mono BR.out.size); replace HT : Hid (Tabs w2 m) := HT.out.below b2; clear b2; rw [str_list, rB, rN])
        | (go_at_call 9; refine (abs_p _ _ (by omega)).mono ?_; rintro e w' ⟨rfl, rfl⟩)
        | (go_at_call 9; refine (abs_n _ _ (by omega) (by omega)).mono ?_; rintro e w' ⟨rfl, rfl⟩)
        | (go_at_call 9; refine (abs_least _).mono ?_; rintro e w' ⟨rfl, rfl⟩))
        go_roundw
        case rel => exact ⟨k + 1, by omega, by omega, by go_num, BR.out, HT.out⟩
        case measure => simp [RowKit.intOf]; omega
      · obtain ⟨rB, rN⟩ := back_bad a k (by omega) hk0 hk
        subst hd
        go_wp2_with (first
        | (go_at_call 8; refine (implShow_any _ _ _ HT.out.1).mono ?_; rintro e w1 ⟨rfl, b1⟩; replace BR : Hid (Below w.heap.size w w1) := BR.out.trans (b1.mono BR.out.size); replace HT : Hid (Tabs w1 m) := HT.out.below b1; clear b1)
        | (go_at_call 7; refine (implRead_any _ _ m _ (sm_small _ _) HT.out.2.1).mono ?_; rintro e w2 ⟨rfl, b2⟩; replace BR : Hid (Below w.heap.size w w2) := BR.out.trans (b2.mono BR.out.size); replace HT : Hid (Tabs w2 m) := HT.out.below b2; clear b2; rw [str_list, rB, rN])
        | (go_at_call 9; refine (abs_p _ _ (by omega)).mono ?_; rintro e w' ⟨rfl, rfl⟩)
        | (go_at_call 9; refine (abs_n _ _ (by omega) (by omega)).mono ?_; rintro e w' ⟨rfl, rfl⟩)
        | (go_at_call 9; refine (abs_least _).mono ?_; rintro e w' ⟨rfl, rfl⟩))
        go_roundw
        case rel => exact ⟨k + 1, by omega, by omega, by go_num, BR.out, HT.out⟩
        case measure => simp [RowKit.intOf]; omega
      · obtain ⟨rB, rN⟩ := back_bad a k (by omega) hk0 hk
        subst hd
        go_wp2_with (first
        | (go_at_call 8; refine (implShow_any _ _ _ HT.out.1).mono ?_; rintro e w1 ⟨rfl, b1⟩; replace BR : Hid (Below w.heap.size w w1) := BR.out.trans (b1.mono BR.out.size); replace HT : Hid (Tabs w1 m) := HT.out.below b1; clear b1)
        | (go_at_call 7; refine (implRead_any _ _ m _ (sm_small _ _) HT.out.2.1).mono ?_; rintro e w2 ⟨rfl, b2⟩; replace BR : Hid (Below w.heap.size w w2) := BR.out.trans (b2.mono BR.out.size); replace HT : Hid (Tabs w2 m) := HT.out.below b2; clear b2; rw [str_list, rB, rN])
        | (go_at_call 9; refine (abs_p _ _ (by omega)).mono ?_; rintro e w' ⟨rfl, rfl⟩)
        | (go_at_call 9; refine (abs_n _ _ (by omega) (by omega)).mono ?_; rintro e w' ⟨rfl, rfl⟩)
        | (go_at_call 9; refine (abs_least _).mono ?_; rintro e w' ⟨rfl, rfl⟩))
        go_roundw
        case rel => exact ⟨k + 1, by omega, by omega, by go_num, BR.out, HT.out⟩
        case measure => simp [RowKit.intOf]; omega
      · obtain ⟨rB, rN⟩ := back_bad a k (by omega) hk0 hk
        subst hd
        go_wp2_with (first
        | (go_at_call 8; refine (implShow_any _ _ _ HT.out.1).mono ?_; rintro e w1 ⟨rfl, b1⟩; replace BR : Hid (Below w.heap.size w w1) := BR.out.trans (b1.mono BR.out.size); replace HT : Hid (Tabs w1 m) := HT.out.below b1; clear b1)
        | (go_at_call 7; refine (implRead_any _ _ m _ (sm_small _ _) HT.out.2.1).mono ?_; rintro e w2 ⟨rfl, b2⟩; replace BR : Hid (Below w.heap.size w w2) := BR.out.trans (b2.mono BR.out.size); replace HT : Hid (Tabs w2 m) := HT.out.below b2; clear b2; rw [str_list, rB, rN])
        | (go_at_call 9; refine (abs_p _ _ (by omega)).mono ?_; rintro e w' ⟨rfl, rfl⟩)
        | (go_at_call 9; refine (abs_n _ _ (by omega) (by omega)).mono ?_; rintro e w' ⟨rfl, rfl⟩)
        | (go_at_call 9; refine (abs_least _).mono ?_; rintro e w' ⟨rfl, rfl⟩))
        go_roundw
        case rel => exact ⟨k + 1, by omega, by omega, by go_num, BR.out, HT.out⟩
        case measure => simp [RowKit.intOf]; omega
    · have s5 := sm_five
      go_wp2_with (go_at_call 8; refine (implShow_any _ _ _ HT.out.1).mono ?_; rintro e w1 ⟨rfl, b1⟩; replace BR : Hid (Below w.heap.size w w1) := BR.out.trans (b1.mono BR.out.size); clear b1; rw [s5])
      go_returns
      exact ⟨by first | rfl | decide, BR.out⟩

end Go.Proofs.YtipdcegbfhokfaaDoor
