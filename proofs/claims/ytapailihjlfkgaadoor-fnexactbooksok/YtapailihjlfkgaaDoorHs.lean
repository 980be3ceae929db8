/- Contracts of the model's HeadOf: an entry's numbers as a row, and the head. -/
import Derived.Test.YtapailihjlfkgaaDoorHj
import Derived.Test.YtapailihjlfkgaaDoorAo
namespace Go.Proofs.YtapailihjlfkgaaDoor
open Go.ChangeShapes Go.WideShapes Go.ChangeAt Go.RowKit
set_option linter.unusedVariables false
set_option linter.unusedSimpArgs false

theorem in_yes (x lo hi : Int) (w : World) (h1 : lo ≤ x) (h2 : x ≤ hi) : Calls Tryd.prog 43 #[.int .i64 x, .int .i64 lo, .int .i64 hi] w fun e w' => e = .returned (.bool true) ∧ w' = w := by
  go_enter Tryd.func43, Tryd.ntmps43
  go_wp2
  go_returns
  exact ⟨rfl, rfl⟩
theorem in_low (x lo hi : Int) (w : World) (h1 : x < lo) : Calls Tryd.prog 43 #[.int .i64 x, .int .i64 lo, .int .i64 hi] w fun e w' => e = .returned (.bool false) ∧ w' = w := by
  go_enter Tryd.func43, Tryd.ntmps43
  go_wp2
  go_returns
  exact ⟨rfl, rfl⟩
theorem in_high (x lo hi : Int) (w : World) (h1 : lo ≤ x) (h2 : hi < x) : Calls Tryd.prog 43 #[.int .i64 x, .int .i64 lo, .int .i64 hi] w fun e w' => e = .returned (.bool false) ∧ w' = w := by
  have h3 : decide (x ≤ hi) = false := decide_eq_false (by omega)
  go_enter Tryd.func43, Tryd.ntmps43
  go_wp2
  go_returns
  exact ⟨rfl, rfl⟩
theorem in_no (x lo hi : Int) (w : World) (h : ¬ (lo ≤ x ∧ x ≤ hi)) : Calls Tryd.prog 43 #[.int .i64 x, .int .i64 lo, .int .i64 hi] w fun e w' => e = .returned (.bool false) ∧ w' = w := by
  by_cases g : lo ≤ x
  · exact in_high x lo hi w g (by omega)
  · exact in_low x lo hi w (by omega)

/-- A new row of whole numbers. -/
def NewN (l : List Int) (w : World) (e : Ending) (w' : World) : Prop :=
  ∃ ad cap, e = .returned (.slice ad l.length cap) ∧ w'.ownsRow w.heap.size 3 1 (.slice ad l.length cap) l.length (ivs l) ∧ Below w.heap.size w w'

theorem row_base {w : World} {b c : Nat} {e : TypeId} {size : Nat} {v : Value} {n : Nat} {xs : List Value} (h : w.ownsRow b e size v n xs) (hc : c ≤ b) : w.ownsRow c e size v n xs := by
  refine ⟨h.1, ?_⟩
  rcases h.2 with hn | ⟨g, cap, cur, rfl, hb', rest⟩
  · exact .inl hn
  · exact .inr ⟨g, cap, cur, rfl, by omega, rest⟩

set_option maxRecDepth 20000 in
set_option maxHeartbeats 4000000 in
theorem nums_any (d r : Int) (t : ByteArray) (ad : Option Addr) (n cap : Nat) (ls : Nat → L5) (w : World) (ht : (t.size : Int) ≤ 40) (hn : (n : Int) ≤ 60) (hl : LR w ad n ls) :
    Calls Tryd.prog 106 #[.agg #[.int .i64 d, .int .i64 r, .string t, .slice ad n cap]] w (NewN (E4.nums ⟨d, r, t, n, ls⟩) w) := by
  obtain ⟨i0, hi, hz0, hz1, hz2⟩ := ainfo3
  generalize hbx : (Obj.cells #[.int .i64 d, .int .i64 r, .string t, .slice ad n cap] 37 (0, 0)) = bx
  have X0 : CB (w.alloc bx) w.heap.size #[.int .i64 d, .int .i64 r, .string t, .slice ad n cap] 37 := by rw [← hbx]; exact CB.new _ _
  have HX0 : Hid (CB (w.alloc bx) w.heap.size #[.int .i64 d, .int .i64 r, .string t, .slice ad n cap] 37) := X0
  have HL0 : Hid (LR (w.alloc bx) ad n ls) := hl.alloc _
  have Hbx : Hid ((Obj.cells #[.int .i64 d, .int .i64 r, .string t, .slice ad n cap] 37 (0, 0)) = bx) := hbx
  have hs1 : (w.alloc bx).heap.size = w.heap.size + 1 := by simp
  have HS1 : Hid ((w.alloc bx).heap.size = w.heap.size + 1) := hs1
  have HV3 : Hid (((w.alloc bx).alloc (.cells #[.int .i64 d, .int .i64 r, .int .i64 (t.size : Int)] 3 (0, 0))).ownsRow (w.heap.size + 1) 3 1 (.slice (some ⟨w.heap.size + 1, 0, none⟩) 3 3) 3 (ivs (pre3 d r t))) :=
    ⟨rfl, .inr ⟨w.heap.size + 1, 3, _, rfl, Nat.le_refl _, by have := heap_alloc_new (w.alloc bx) (.cells #[.int .i64 d, .int .i64 r, .int .i64 (t.size : Int)] 3 (0, 0)); rw [hs1] at this; exact this, Nat.le_refl _, by unfold maxLen; omega, rfl, rfl⟩⟩
  clear X0 hl hs1 hbx
  go_enter Tryd.func106, Tryd.ntmps106
  go_wp2
  go_loopw [3, 4] (fun u i wr => ∃ (k : Nat) (adv : Option Addr) (capv : Nat), k ≤ t.size ∧ i = .int .i64 (k : Int) ∧ u = .slice adv (3 + k) capv ∧ wr.ownsRow (w.heap.size + 1) 3 1 (.slice adv (3 + k) capv) (3 + k) (ivs (pre3 d r t ++ txtN t k)) ∧ Below (w.heap.size + 1) (w.alloc bx) wr) (fun u i _ => t.size - (intOf i).toNat)
  case atStart => exact ⟨0, _, _, Nat.zero_le _, rfl, rfl, (by have := HV3.out; rw [← Hbx.out] at this; exact this), (by rw [← Hbx.out]; exact (Below.refl _ _).alloc (by simp) _)⟩
  case round =>
    obtain ⟨k, adv, capv, hk, rfl, rfl, hO, hB⟩ := hrel
    have hX := HX0.out.below hB (by omega)
    have k2 := hX.cell 2
    have k3 := hX.cell 3
    simp only [List.getElem?_toArray, List.getElem?_cons_zero, List.getElem?_cons_succ] at k2 k3
    have hsz := hB.size
    rw [HS1.out] at hsz
    have HO : Hid (wr.ownsRow (w.heap.size + 1) 3 1 (.slice adv (3 + k) capv) (3 + k) (ivs (pre3 d r t ++ txtN t k))) := hO
    have HB : Hid (Below (w.heap.size + 1) (w.alloc bx) wr) := hB
    clear hO hB hX
    have hk40 : k ≤ 40 := by omega
    by_cases hlt : k < t.size
    · have HBY : Hid (byN t k = (t[k].toNat : Int)) := byN_at t k hlt
      have hby := t[k].toNat_lt
      go_wp2_with (at_builtin; refine wpList_append_own_at _ rfl _ _ 47 rfl (w.heap.size + 1) 3 i0 (.int .i64 0) 1 8 Tryd.underlying47 hi hz0 hz1 hz2 rfl (by decide) (.slice adv (3 + k) capv) (3 + k) (ivs (pre3 d r t ++ txtN t k)) rfl (HO.out.alloc _) ⟨wr.heap.size, 0, none⟩ 1 1 [.int .i64 (t[k].toNat : Int)] rfl rfl (acells_at rfl) (fun u hu => by simp at hu; subst hu; rfl) (by unfold maxLen; omega) (by omega) (by simp; omega) ?_; intro v' w4 hown4 hgrow4 _ hloc4; obtain ⟨ad4, cap4, rfl⟩ := arow_form hown4; have HO4 : Hid (w4.ownsRow (w.heap.size + 1) 3 1 (.slice ad4 (3 + k + 1) cap4) (3 + k + 1) (ivs (pre3 d r t ++ txtN t k) ++ [.int .i64 (byN t k)])) := (by rw [HBY.out]; exact hown4); have HB4 : Hid (Below (w.heap.size + 1) (w.alloc bx) w4) := (HB.out.alloc hsz _).grown hgrow4 (by simp; omega) (fun g hg => (HO.out.lt g hg).1); clear hown4 hgrow4 hloc4)
      go_roundw
      case rel => exact ⟨k + 1, ad4, cap4, by omega, by go_num, rfl, (by have := HO4.out; rw [show ivs (pre3 d r t ++ txtN t (k + 1)) = ivs (pre3 d r t ++ txtN t k) ++ [.int .i64 (byN t k)] by rw [txtN, ← List.append_assoc, ivs_append]; rfl]; exact this), HB4.out⟩
      case measure => simp [intOf]; omega
    · obtain rfl : k = t.size := by omega
      go_wp2_with (at_builtin; refine wpList_append_own_at _ rfl _ _ 47 rfl (w.heap.size + 1) 3 i0 (.int .i64 0) 1 8 Tryd.underlying47 hi hz0 hz1 hz2 rfl (by decide) (.slice adv (3 + t.size) capv) (3 + t.size) (ivs (pre3 d r t ++ txtN t t.size)) rfl (HO.out.alloc _) ⟨wr.heap.size, 0, none⟩ 1 1 [.int .i64 (n : Int)] rfl rfl (acells_at rfl) (fun u hu => by simp at hu; subst hu; rfl) (by unfold maxLen; omega) (by omega) (by simp; omega) ?_; intro v' w4 hown4 hgrow4 _ hloc4; obtain ⟨ad4, cap4, rfl⟩ := arow_form hown4; have HO4 : Hid (w4.ownsRow (w.heap.size + 1) 3 1 (.slice ad4 (3 + t.size + 1) cap4) (3 + t.size + 1) (ivs (pre3 d r t ++ txtN t t.size) ++ [.int .i64 (n : Int)])) := hown4; have HB4 : Hid (Below (w.heap.size + 1) (w.alloc bx) w4) := (HB.out.alloc hsz _).grown hgrow4 (by simp; omega) (fun g hg => (HO.out.lt g hg).1); clear hown4 hgrow4 hloc4)
      go_loopw [3, 5] (fun u i wr => ∃ (k : Nat) (adv : Option Addr) (capv : Nat), k ≤ n ∧ i = .int .i64 (k : Int) ∧ u = .slice adv (4 + t.size + k * 5) capv ∧ wr.ownsRow (w.heap.size + 1) 3 1 (.slice adv (4 + t.size + k * 5) capv) (4 + t.size + k * 5) (ivs (pre3 d r t ++ (txtN t t.size ++ ((n : Int) :: lnsN ls k)))) ∧ Below (w.heap.size + 1) (w.alloc bx) wr) (fun u i _ => n - (intOf i).toNat)
      case atStart =>
        refine ⟨0, ad4, cap4, Nat.zero_le _, rfl, ?_, ?_, HB4.out⟩
        · rw [show 4 + t.size + 0 * 5 = 3 + t.size + 1 by omega]
        · have := HO4.out
          rw [show 4 + t.size + 0 * 5 = 3 + t.size + 1 by omega, show ivs (pre3 d r t ++ (txtN t t.size ++ ((n : Int) :: lnsN ls 0))) = ivs (pre3 d r t ++ txtN t t.size) ++ [.int .i64 (n : Int)] by rw [← List.append_assoc, ivs_append]; rfl]
          exact this
      case round =>
        obtain ⟨k, adv, capv, hk, rfl, rfl, hO, hB⟩ := hrel
        have hX := HX0.out.below hB (by omega)
        have k3 := hX.cell 3
        simp only [List.getElem?_toArray, List.getElem?_cons_zero, List.getElem?_cons_succ] at k3
        have hsz := hB.size
        rw [HS1.out] at hsz
        have HO : Hid (wr.ownsRow (w.heap.size + 1) 3 1 (.slice adv (4 + t.size + k * 5) capv) (4 + t.size + k * 5) (ivs (pre3 d r t ++ (txtN t t.size ++ ((n : Int) :: lnsN ls k))))) := hO
        have HB : Hid (Below (w.heap.size + 1) (w.alloc bx) wr) := hB
        have hL2 := HL0.out.below (by rw [HS1.out]; exact hB)
        clear hO hB hX
        have hk60 : k ≤ 60 := by omega
        by_cases hlt : k < n
        · obtain ⟨kb, off, rfl, hkb⟩ := hL2.addr (by omega)
          obtain ⟨c1, c2, c3, c4, c5⟩ := hL2.cell hlt
          clear hL2
          go_wp2_with (at_builtin; refine wpList_append_own_at _ rfl _ _ 47 rfl (w.heap.size + 1) 3 i0 (.int .i64 0) 1 8 Tryd.underlying47 hi hz0 hz1 hz2 rfl (by decide) (.slice adv (4 + t.size + k * 5) capv) (4 + t.size + k * 5) (ivs (pre3 d r t ++ (txtN t t.size ++ ((n : Int) :: lnsN ls k)))) rfl ((HO.out.alloc _).alloc _) ⟨wr.heap.size + 1, 0, none⟩ 5 5 (ivs (ls k).nums) rfl rfl (acells_at (by simp)) (ivs_one _) (by unfold maxLen; omega) (by omega) (by simp; omega) ?_; intro v' w4 hown4 hgrow4 _ hloc4; obtain ⟨ad4, cap4, rfl⟩ := arow_form hown4; have HO4 : Hid (w4.ownsRow (w.heap.size + 1) 3 1 (.slice ad4 (4 + t.size + k * 5 + 5) cap4) (4 + t.size + k * 5 + 5) (ivs (pre3 d r t ++ (txtN t t.size ++ ((n : Int) :: lnsN ls k))) ++ ivs (ls k).nums)) := hown4; have HB4 : Hid (Below (w.heap.size + 1) (w.alloc bx) w4) := ((HB.out.alloc hsz _).alloc (by simp; omega) _).grown hgrow4 (by simp; omega) (fun g hg => (HO.out.lt g hg).1); clear hown4 hgrow4 hloc4)
          go_roundw
          case rel =>
            refine ⟨k + 1, ad4, cap4, by omega, by go_num, ?_, ?_, HB4.out⟩
            · rw [show 4 + t.size + (k + 1) * 5 = 4 + t.size + k * 5 + 5 by omega]
            · have := HO4.out
              rw [show 4 + t.size + (k + 1) * 5 = 4 + t.size + k * 5 + 5 by omega, show ivs (pre3 d r t ++ (txtN t t.size ++ ((n : Int) :: lnsN ls (k + 1)))) = ivs (pre3 d r t ++ (txtN t t.size ++ ((n : Int) :: lnsN ls k))) ++ ivs (ls k).nums by rw [← ivs_append, lnsN]; simp]
              exact this
          case measure => simp [intOf]; omega
        · obtain rfl : k = n := by omega
          go_wp2
          go_returns
          have hlen : (E4.nums ⟨d, r, t, k, ls⟩).length = 4 + t.size + k * 5 := by
            unfold E4.nums
            simp only [List.length_append, List.length_cons, List.length_nil, txtN_len, lnsN_len]; omega
          refine ⟨adv, capv, ?_, ?_, ?_⟩
          · rw [hlen]; rfl
          · rw [hlen]; exact row_base HO.out (by omega)
          · exact (((Below.refl _ _).alloc (Nat.le_refl _) bx).trans (HB.out.mono (by omega)))

end Go.Proofs.YtapailihjlfkgaaDoor
