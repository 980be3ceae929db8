/- The draw of costs. -/
import Derived.Test.YtjlniinahfgakaaDw
namespace Go.Proofs.Ytjlniinahfgakaa
open Go.ChangeShapes Go.WideShapes Go.ChangeAt Go.RowKit
set_option linter.unusedVariables false
set_option linter.unusedSimpArgs false

set_option maxRecDepth 20000 in
set_option maxHeartbeats 2000000 in
theorem costs_any (b : Nat) (n : Nat) (w : World) (hc : Cursor w b) (hn : n ≤ 1000) :
    Calls Try.prog 54 #[.pointer (some ⟨b, 0, none⟩), .int .i64 (n : Int)] w fun e w' => ∃ (ad : Option Addr) (cap : Nat) (z : Nat → Int), e = .returned (.slice ad n cap) ∧ DR w b (.slice ad n cap) n z w' := by
  have HD : Hid (DR w b (.slice (some ⟨w.heap.size, 0, none⟩) 0 0) 0 (fun _ => 0) (w.alloc (.cells #[] 3 (0, 0)))) := ⟨hc.alloc _, (Turns.refl _ _).alloc _, none_own w, hc.lt⟩
  obtain ⟨i0, hi, hz0, hz1, hz2⟩ := info3
  clear hc
  go_enter Try.func54, Try.ntmps54
  go_wp2
  go_loopw [1, 5] (fun x u wr => ∃ (m k : Nat) (ad : Option Addr) (cap : Nat) (z : Nat → Int), x = .int .i64 (k : Int) ∧ u = .slice ad m cap ∧ m + k = n ∧ Hid (DR w b (.slice ad m cap) m z wr)) (fun x _ _ => (intOf x).toNat)
  case atStart => exact ⟨0, n, _, _, fun _ => 0, rfl, rfl, by omega, HD⟩
  case round =>
    clear HD
    obtain ⟨m, k, ad, cap, z, rfl, rfl, hmk, HW⟩ := hrel
    have Hmk : Hid (m + k = n) := hmk
    have hm : m ≤ 1000 := by omega
    have hk9 : (k : Int) ≤ 1000 := by omega
    clear hmk
    by_cases hk : 0 < k
    · have lk : (0 : Int) < (k : Int) := by omega
      go_wp2_with (first
        | (go_at_call 42; refine (amount_any b _ HW.out.cur).mono ?_; rintro e w1 ⟨x, rfl, m1⟩; have HW1 : Hid (DR w b (.slice ad m cap) m z w1) := HW.out.moved m1; clear m1)
        | (go_at_call 70; refine (spoil_any b _ _ [100000000000, 100000000001, -100000000000] 3 3 _ (HW1.out.alloc _).cur (IntRow.made HW1.out.cur.lt _ _ _ rfl) rfl (by decide) (by decide)).mono ?_; rintro e w4 ⟨y, rfl, hy, m4⟩; have HW4 : Hid (DR w b (.slice ad m cap) m z w4) := (HW1.out.alloc _).moved m4; have hs4 := HW4.out.trn.size; clear m4 hy)
        | (at_builtin; refine wpList_append_own_at _ rfl _ _ 24 rfl w.heap.size 3 i0 (.int .i64 0) 1 8 Try.underlying24 hi hz0 hz1 hz2 rfl (by decide) (.slice ad m cap) m (intL z m) rfl (HW4.out.alloc _).row ⟨w4.heap.size, 0, none⟩ 1 1 [.int .i64 y] rfl rfl (cell_one_at rfl) (fun u hu => by simp at hu; subst hu; rfl) (by unfold maxLen; omega) (by omega) (by simp; omega) ?_; intro v' w9 hown9 hgrow9 _ hloc9; obtain ⟨ad9, cap9, rfl⟩ := row_form hown9; have HN9 : Hid (DR w b (.slice ad9 (m + 1) cap9) (m + 1) (upd z m y) w9) := (HW4.out.alloc _).grown hgrow9 hown9; clear hown9 hgrow9 hloc9))
      go_roundw
      case rel => exact ⟨m + 1, k - 1, ad9, cap9, _, by congr 1; omega, rfl, by have := Hmk.out; omega, HN9⟩
      case measure => simp [intOf]; omega
    · obtain rfl : k = 0 := by omega
      have em : m = n := by have := Hmk.out; omega
      subst em
      go_wp2
      go_returns
      exact ⟨_, _, z, rfl, HW.out⟩
end Go.Proofs.Ytjlniinahfgakaa
