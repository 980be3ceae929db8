/- A quantity received into a stock by the model. -/
import Derived.Test.YtpmnnfjabppahaaBc
namespace Go.Proofs.Ytpmnnfjabppahaa
open Go Go.ChangeShapes Go.WideShapes Go.ChangeAt Go.RowKit
set_option linter.unusedVariables false
set_option linter.unusedSimpArgs false

set_option maxRecDepth 20000 in
set_option maxHeartbeats 8000000 in
theorem add_any (n cp lo : Nat) (ad : Option Addr) (d : Nat → CE6) (x : CE6) (w : World) (hn : n ≤ 100) (hcp : n ≤ cp) (hce : CeN n d) (hxq : 0 ≤ x.qty ∧ x.qty ≤ 1000000)
    (hO : w.ownsRow lo 28 6 (.slice ad n cp) n (rowCE6 d n)) (hlo : lo ≤ w.heap.size) :
    Calls Try.prog 69 #[.slice ad n cp, .agg #[.string x.item, .string x.place, .string x.lot, .int .i64 x.exp, .int .i64 x.qty, .int .i64 x.hld]] w fun e w' => ∃ ad2 n2 cp2, e = .returned (.tuple #[.slice ad2 n2 cp2, .bool (brT n d x == 0)]) ∧ (brT n d x = 0 → n2 = brN n d x ∧ OwnCE6 w' lo ad2 n2 (brC n d x)) ∧ Below lo w w' := by
  have HO := hid hO
  have HROW : Hid (CEr w ad n d) := hid (by obtain ⟨ad2, cp2, e, _, ho⟩ := ownCE6_of hO; cases e; exact ho.row)
  have hnI : (n : Int) ≤ 100 := by omega
  obtain ⟨i0, hi0, hz0, hz1, hz2⟩ := infoCE6
  have hcases := fnd_cases n d x.key
  have HCE := hid hce
  clear hO hce
  rcases hcases with ⟨h1, h2⟩ | ⟨i, h1, hin, h3⟩
  · have HF : Hid (fnd n d x.key = -1) := hid h1
    have hbr := br_no h1
    clear h1 h2
    by_cases h100 : n = 100
    · have HBR : Hid ((brT n d x == 0) = false ∧ ¬ brT n d x = 0) := hid ⟨by rw [hbr.1, if_pos h100]; rfl, by rw [hbr.1, if_pos h100]; omega⟩
      have hge : (100 : Int) ≤ (n : Int) := by omega
      clear hbr h100
      go_enter Try.func69, Try.ntmps69
      go_wp2_with (go_at_call 98; refine (find_eq _ n cp d x _ _ (by omega) (HROW.out.alloc _) HF.out).mono ?_; rintro e w1 ⟨rfl, b1⟩; have T1 : Hid (Below lo w w1 ∧ CB w1 w.heap.size #[.string x.item, .string x.place, .string x.lot, .int .i64 x.exp, .int .i64 x.qty, .int .i64 x.hld] 28 ∧ w1.ownsRow lo 28 6 (.slice ad n cp) n (rowCE6 d n) ∧ lo ≤ w1.heap.size) := hid ⟨((Below.refl _ _).alloc hlo _).trans (b1.mono (by simp; omega)), (CB.new _ _).below b1 (CB.new _ _).lt, row_below (row_below HO.out ((Below.refl _ _).alloc (Nat.le_refl _) _)) b1, by have := b1.size; simp at this; omega⟩; have x0 : w1.cell? ⟨w.heap.size, 0, none⟩ = some (.string x.item) := T1.out.2.1.cell 0; have x1 : w1.cell? ⟨w.heap.size, 1, none⟩ = some (.string x.place) := T1.out.2.1.cell 1; have x2 : w1.cell? ⟨w.heap.size, 2, none⟩ = some (.string x.lot) := T1.out.2.1.cell 2; have x3 : w1.cell? ⟨w.heap.size, 3, none⟩ = some (.int .i64 x.exp) := T1.out.2.1.cell 3; have x4 : w1.cell? ⟨w.heap.size, 4, none⟩ = some (.int .i64 x.qty) := T1.out.2.1.cell 4; have x5 : w1.cell? ⟨w.heap.size, 5, none⟩ = some (.int .i64 x.hld) := T1.out.2.1.cell 5; clear b1)
      go_returns
      rw [HBR.out.1]
      exact ⟨_, _, _, rfl, fun h => absurd h HBR.out.2, T1.out.1⟩
    · have HBR : Hid ((brT n d x == 0) = true ∧ brN n d x = n + 1 ∧ brC n d x = putC d n x) := hid ⟨by rw [hbr.1, if_neg h100]; rfl, hbr.2.1, hbr.2.2⟩
      have hge : ¬ (100 : Int) ≤ (n : Int) := by omega
      clear hbr h100
      go_enter Try.func69, Try.ntmps69
      go_wp2_with (first
        | (go_at_call 98; refine (find_eq _ n cp d x _ _ (by omega) (HROW.out.alloc _) HF.out).mono ?_; rintro e w1 ⟨rfl, b1⟩; have T1 : Hid (Below lo w w1 ∧ CB w1 w.heap.size #[.string x.item, .string x.place, .string x.lot, .int .i64 x.exp, .int .i64 x.qty, .int .i64 x.hld] 28 ∧ w1.ownsRow lo 28 6 (.slice ad n cp) n (rowCE6 d n) ∧ lo ≤ w1.heap.size) := hid ⟨((Below.refl _ _).alloc hlo _).trans (b1.mono (by simp; omega)), (CB.new _ _).below b1 (CB.new _ _).lt, row_below (row_below HO.out ((Below.refl _ _).alloc (Nat.le_refl _) _)) b1, by have := b1.size; simp at this; omega⟩; have x0 : w1.cell? ⟨w.heap.size, 0, none⟩ = some (.string x.item) := T1.out.2.1.cell 0; have x1 : w1.cell? ⟨w.heap.size, 1, none⟩ = some (.string x.place) := T1.out.2.1.cell 1; have x2 : w1.cell? ⟨w.heap.size, 2, none⟩ = some (.string x.lot) := T1.out.2.1.cell 2; have x3 : w1.cell? ⟨w.heap.size, 3, none⟩ = some (.int .i64 x.exp) := T1.out.2.1.cell 3; have x4 : w1.cell? ⟨w.heap.size, 4, none⟩ = some (.int .i64 x.qty) := T1.out.2.1.cell 4; have x5 : w1.cell? ⟨w.heap.size, 5, none⟩ = some (.int .i64 x.hld) := T1.out.2.1.cell 5; clear b1)
        | (at_builtin; go_loud (refine wpList_append_own_at _ rfl _ _ 24 rfl lo 28 i0 (.agg #[.string ByteArray.empty, .string ByteArray.empty, .string ByteArray.empty, .int .i64 0, .int .i64 0, .int .i64 0]) 6 72 Try.underlying24 hi0 hz0 hz1 hz2 rfl (by decide) (.slice ad n cp) n (rowCE6 d n) rfl (row_below T1.out.2.2.1 ((Below.refl _ _).alloc (Nat.le_refl _) _)) ⟨_, 0, none⟩ 1 1 [.string x.item, .string x.place, .string x.lot, .int .i64 x.exp, .int .i64 x.qty, .int .i64 x.hld] rfl rfl (csrc (CB.new _ _)) (fun u hu => by simp at hu; rcases hu with rfl | rfl | rfl | rfl | rfl | rfl <;> rfl) (by unfold maxLen; omega) (by omega) (by have := T1.out.2.2.2; simp; omega) ?_; intro v9 w9 hown hgr _ _; rw [← rowCE6_put] at hown; obtain ⟨ad9, cp9, rfl, _, ho9⟩ := ownCE6_of hown; have HO9 := hid ho9; have HB9 : Hid (Below lo w w9) := hid (egrown (T1.out.1.alloc T1.out.2.2.2 _) (by omega) hgr (fun r hr => (T1.out.2.2.1.lt r hr).1)); clear hown hgr ho9)))
      go_returns
      rw [HBR.out.1, HBR.out.2.1, HBR.out.2.2]
      first | exact ⟨_, _, _, rfl, fun _ => ⟨rfl, HO9.out⟩, HB9.out⟩ | exact ⟨_, _, ⟨_, rfl⟩, fun _ => ⟨rfl, HO9.out⟩, HB9.out⟩
  · have HF : Hid (fnd n d x.key = (i : Int)) := hid h1
    have hbr := br_at h1
    have hin2 : (i : Int) < (n : Int) := by omega
    obtain ⟨yq, hyq⟩ : ∃ y, (d i).qty = y := ⟨_, rfl⟩
    have HYQ := hid hyq
    have hyb := (HCE.out i hin).2
    rw [hyq] at hbr hyb
    obtain ⟨g, rfl, hg, hro⟩ := own_ro2 HO.out (by omega)
    have HG := hid hg
    have HXG : Hid (w.heap.size ≠ g) := hid (by have := hro.lt; omega)
    have HRO : Hid (∀ V, V.ownsRow lo 28 6 (.slice (some ⟨g, 0, none⟩) n cp) n (rowCE6 d n) → RO V g n d) := hid (fun V hV => by obtain ⟨_, e0, _, h⟩ := own_ro2 hV (by omega); cases e0; exact h)
    have HEL : Hid (∀ V, RO V g n d → V.cell? ⟨g, i * 6 + 4, none⟩ = some (.int .i64 yq)) := hid (fun V hV => by have := (hV.el hin).2.2.2.2.1; rw [hyq] at this; exact this)
    have hwp : IntKind.i64.wrap (yq + x.qty) = yq + x.qty := IntWalk.i64_in _ ⟨by omega, by omega⟩
    clear h1 h3 hyq hg hro
    by_cases hbig : 1000000 < yq + x.qty
    · have HBR : Hid ((brT n d x == 0) = false ∧ ¬ brT n d x = 0) := hid ⟨by rw [hbr.1, if_pos hbig]; rfl, by rw [hbr.1, if_pos hbig]; omega⟩
      clear hbr
      go_enter Try.func69, Try.ntmps69
      go_wp2_with (go_at_call 98; refine (find_eq _ n cp d x _ _ (by omega) (HROW.out.alloc _) HF.out).mono ?_; rintro e w1 ⟨rfl, b1⟩; have T1 : Hid (Below lo w w1 ∧ CB w1 w.heap.size #[.string x.item, .string x.place, .string x.lot, .int .i64 x.exp, .int .i64 x.qty, .int .i64 x.hld] 28 ∧ w1.ownsRow lo 28 6 (.slice (some ⟨g, 0, none⟩) n cp) n (rowCE6 d n) ∧ lo ≤ w1.heap.size) := hid ⟨((Below.refl _ _).alloc hlo _).trans (b1.mono (by simp; omega)), (CB.new _ _).below b1 (CB.new _ _).lt, row_below (row_below HO.out ((Below.refl _ _).alloc (Nat.le_refl _) _)) b1, by have := b1.size; simp at this; omega⟩; have x0 : w1.cell? ⟨w.heap.size, 0, none⟩ = some (.string x.item) := T1.out.2.1.cell 0; have x1 : w1.cell? ⟨w.heap.size, 1, none⟩ = some (.string x.place) := T1.out.2.1.cell 1; have x2 : w1.cell? ⟨w.heap.size, 2, none⟩ = some (.string x.lot) := T1.out.2.1.cell 2; have x3 : w1.cell? ⟨w.heap.size, 3, none⟩ = some (.int .i64 x.exp) := T1.out.2.1.cell 3; have x4 : w1.cell? ⟨w.heap.size, 4, none⟩ = some (.int .i64 x.qty) := T1.out.2.1.cell 4; have x5 : w1.cell? ⟨w.heap.size, 5, none⟩ = some (.int .i64 x.hld) := T1.out.2.1.cell 5; clear b1)
      have T6 : Hid (Below lo w w1.drew ∧ CB w1.drew w.heap.size #[.string x.item, .string x.place, .string x.lot, .int .i64 x.exp, .int .i64 x.qty, .int .i64 x.hld] 28 ∧ RO w1.drew g n d) := hid ⟨T1.out.1.drew, T1.out.2.1, HRO.out _ T1.out.2.2.1⟩
      clear x0 x1 x2 x3 x4 x5
      skip
      refine wp_region_noPanic ?_
      refine wp_region_held_drew (S := fun w' => (w'.cell? ⟨g, i * 6 + 4, none⟩ = some (.int .i64 yq)) ∧ (w'.cell? ⟨w.heap.size, 4, none⟩ = some (.int .i64 x.qty))) (by kernel_rfl) (by exact ⟨HEL.out _ T6.out.2.2, T6.out.2.1.cell 4⟩) (fun hHeld => ?_)
      generalize hVD : w1.drew = VD at T6 hHeld ⊢
      clear hVD
      refine wpAnyH_take (i := 0) (oi := { dst := some 20, op := Go.Op.move (Go.Operand.tmp 0), type := 24, pos := "l15_stock.go:118", after := #[], guard := none }) (v := ?_) rfl (by kernel_rfl) (by kernel_rfl) (by kernel_rfl) (fun _ _ _ h => h) (Or.inl ⟨by rfl, ?_⟩) (by assumption) ?_
      rotate_left
      · (intro w hSw; (try dsimp only at hSw); go_simp <;> try with_reducible rfl)
      try simp only [Act.put, List.setIfInBounds_toArray, List.set_cons_zero, List.set_cons_succ]
      refine wpAnyH_take (i := 1) (oi := { dst := some 21, op := Go.Op.move (Go.Operand.tmp 6), type := 3, pos := "l15_stock.go:118", after := #[], guard := none }) (v := ?_) rfl (by kernel_rfl) (by kernel_rfl) (by kernel_rfl) (fun _ _ _ h => h) (Or.inl ⟨by rfl, ?_⟩) (by assumption) ?_
      rotate_left
      · (intro w hSw; (try dsimp only at hSw); go_simp <;> try with_reducible rfl)
      try simp only [Act.put, List.setIfInBounds_toArray, List.set_cons_zero, List.set_cons_succ]
      refine wpAnyH_take (i := 2) (oi := { dst := some 22, op := Go.Op.indexAddr 24 (Go.Operand.tmp 20) (Go.Operand.tmp 21), type := 0, pos := "l15_stock.go:118", after := #[{ on := 0, ground := Go.Ground.data }, { on := 1, ground := Go.Ground.data }], guard := none }) (v := ?_) rfl (by kernel_rfl) (by kernel_rfl) (by kernel_rfl) (fun _ _ _ h => h) (Or.inl ⟨by rfl, ?_⟩) (by assumption) ?_
      rotate_left
      · (intro w hSw; (try dsimp only at hSw); go_simp <;> try with_reducible rfl)
      try simp only [Act.put, List.setIfInBounds_toArray, List.set_cons_zero, List.set_cons_succ]
      refine wpAnyH_take (i := 3) (oi := { dst := some 23, op := Go.Op.fieldAddr 28 (Go.Operand.tmp 22) 4, type := 0, pos := "l15_stock.go:118", after := #[{ on := 2, ground := Go.Ground.data }], guard := none }) (v := ?_) rfl (by kernel_rfl) (by kernel_rfl) (by kernel_rfl) (fun _ _ _ h => h) (Or.inl ⟨by rfl, ?_⟩) (by assumption) ?_
      rotate_left
      · (intro w hSw; (try dsimp only at hSw); go_simp <;> try with_reducible rfl)
      try simp only [Act.put, List.setIfInBounds_toArray, List.set_cons_zero, List.set_cons_succ]
      refine wpAnyH_take (i := 4) (oi := { dst := some 24, op := Go.Op.load 3 (Go.Operand.tmp 23), type := 3, pos := "l15_stock.go:118", after := #[{ on := 3, ground := Go.Ground.data }], guard := none }) (v := ?_) rfl (by kernel_rfl) (by kernel_rfl) (by kernel_rfl) (fun _ _ _ h => h) (Or.inl ⟨by rfl, ?_⟩) (by assumption) ?_
      rotate_left
      · (intro w hSw; (try dsimp only at hSw); go_simp <;> try with_reducible rfl)
      try simp only [Act.put, List.setIfInBounds_toArray, List.set_cons_zero, List.set_cons_succ]
      refine wpAnyH_take (i := 5) (oi := { dst := some 25, op := Go.Op.fieldAddr 28 (Go.Operand.tmp 3) 4, type := 0, pos := "l15_stock.go:118", after := #[], guard := none }) (v := ?_) rfl (by kernel_rfl) (by kernel_rfl) (by kernel_rfl) (fun _ _ _ h => h) (Or.inl ⟨by rfl, ?_⟩) (by assumption) ?_
      rotate_left
      · (intro w hSw; (try dsimp only at hSw); go_simp <;> try with_reducible rfl)
      try simp only [Act.put, List.setIfInBounds_toArray, List.set_cons_zero, List.set_cons_succ]
      refine wpAnyH_take (i := 6) (oi := { dst := some 26, op := Go.Op.load 3 (Go.Operand.tmp 25), type := 3, pos := "l15_stock.go:118", after := #[{ on := 5, ground := Go.Ground.data }], guard := none }) (v := ?_) rfl (by kernel_rfl) (by kernel_rfl) (by kernel_rfl) (fun _ _ _ h => h) (Or.inl ⟨by rfl, ?_⟩) (by assumption) ?_
      rotate_left
      · (intro w hSw; (try dsimp only at hSw); go_simp <;> try with_reducible rfl)
      try simp only [Act.put, List.setIfInBounds_toArray, List.set_cons_zero, List.set_cons_succ]
      refine wpAnyH_take (i := 7) (oi := { dst := some 27, op := Go.Op.binOp Go.BinOp.add 3 (Go.Operand.tmp 24) (Go.Operand.tmp 26) 3, type := 3, pos := "l15_stock.go:118", after := #[{ on := 4, ground := Go.Ground.data }, { on := 6, ground := Go.Ground.data }], guard := none }) (v := ?_) rfl (by kernel_rfl) (by kernel_rfl) (by kernel_rfl) (fun _ _ _ h => h) (Or.inl ⟨by rfl, ?_⟩) (by assumption) ?_
      rotate_left
      · (intro w hSw; (try dsimp only at hSw); go_simp <;> try with_reducible rfl)
      try simp only [Act.put, List.setIfInBounds_toArray, List.set_cons_zero, List.set_cons_succ]
      refine wpAnyH_take (i := 8) (oi := { dst := some 28, op := Go.Op.binOp Go.BinOp.gtr 3 (Go.Operand.tmp 27) (Go.Operand.const (Go.Value.int Go.IntKind.i64 1000000)) 3, type := 4, pos := "l15_stock.go:118", after := #[{ on := 7, ground := Go.Ground.data }], guard := none }) (v := ?_) rfl (by kernel_rfl) (by kernel_rfl) (by kernel_rfl) (fun _ _ _ h => h) (Or.inl ⟨by rfl, ?_⟩) (by assumption) ?_
      rotate_left
      · (intro w hSw; (try dsimp only at hSw); go_simp <;> try with_reducible rfl)
      try simp only [Act.put, List.setIfInBounds_toArray, List.set_cons_zero, List.set_cons_succ]
      refine wpAnyH_done (by kernel_rfl) ?_ _
      refine NoPanic.normal ?_
      clear hHeld
      go_wp2
      go_returns
      rw [HBR.out.1]
      exact ⟨_, _, _, rfl, fun h => absurd h HBR.out.2, T6.out.1⟩
    · have HBR : Hid ((brT n d x == 0) = true ∧ brN n d x = n ∧ brC n d x = putC d i (addQ (d i) x.qty)) := hid ⟨by rw [hbr.1, if_neg hbig]; rfl, hbr.2.1, hbr.2.2⟩
      clear hbr
      go_enter Try.func69, Try.ntmps69
      go_wp2_with (go_at_call 98; refine (find_eq _ n cp d x _ _ (by omega) (HROW.out.alloc _) HF.out).mono ?_; rintro e w1 ⟨rfl, b1⟩; have T1 : Hid (Below lo w w1 ∧ CB w1 w.heap.size #[.string x.item, .string x.place, .string x.lot, .int .i64 x.exp, .int .i64 x.qty, .int .i64 x.hld] 28 ∧ w1.ownsRow lo 28 6 (.slice (some ⟨g, 0, none⟩) n cp) n (rowCE6 d n) ∧ lo ≤ w1.heap.size) := hid ⟨((Below.refl _ _).alloc hlo _).trans (b1.mono (by simp; omega)), (CB.new _ _).below b1 (CB.new _ _).lt, row_below (row_below HO.out ((Below.refl _ _).alloc (Nat.le_refl _) _)) b1, by have := b1.size; simp at this; omega⟩; have x0 : w1.cell? ⟨w.heap.size, 0, none⟩ = some (.string x.item) := T1.out.2.1.cell 0; have x1 : w1.cell? ⟨w.heap.size, 1, none⟩ = some (.string x.place) := T1.out.2.1.cell 1; have x2 : w1.cell? ⟨w.heap.size, 2, none⟩ = some (.string x.lot) := T1.out.2.1.cell 2; have x3 : w1.cell? ⟨w.heap.size, 3, none⟩ = some (.int .i64 x.exp) := T1.out.2.1.cell 3; have x4 : w1.cell? ⟨w.heap.size, 4, none⟩ = some (.int .i64 x.qty) := T1.out.2.1.cell 4; have x5 : w1.cell? ⟨w.heap.size, 5, none⟩ = some (.int .i64 x.hld) := T1.out.2.1.cell 5; clear b1)
      have T6 : Hid (Below lo w w1.drew ∧ CB w1.drew w.heap.size #[.string x.item, .string x.place, .string x.lot, .int .i64 x.exp, .int .i64 x.qty, .int .i64 x.hld] 28 ∧ RO w1.drew g n d) := hid ⟨T1.out.1.drew, T1.out.2.1, HRO.out _ T1.out.2.2.1⟩
      clear x0 x1 x2 x3 x4 x5
      skip
      refine wp_region_noPanic ?_
      refine wp_region_held_drew (S := fun w' => (w'.cell? ⟨g, i * 6 + 4, none⟩ = some (.int .i64 yq)) ∧ (w'.cell? ⟨w.heap.size, 4, none⟩ = some (.int .i64 x.qty))) (by kernel_rfl) (by exact ⟨HEL.out _ T6.out.2.2, T6.out.2.1.cell 4⟩) (fun hHeld => ?_)
      generalize hVD : w1.drew = VD at T6 hHeld ⊢
      clear hVD
      refine wpAnyH_take (i := 0) (oi := { dst := some 20, op := Go.Op.move (Go.Operand.tmp 0), type := 24, pos := "l15_stock.go:118", after := #[], guard := none }) (v := ?_) rfl (by kernel_rfl) (by kernel_rfl) (by kernel_rfl) (fun _ _ _ h => h) (Or.inl ⟨by rfl, ?_⟩) (by assumption) ?_
      rotate_left
      · (intro w hSw; (try dsimp only at hSw); go_simp <;> try with_reducible rfl)
      try simp only [Act.put, List.setIfInBounds_toArray, List.set_cons_zero, List.set_cons_succ]
      refine wpAnyH_take (i := 1) (oi := { dst := some 21, op := Go.Op.move (Go.Operand.tmp 6), type := 3, pos := "l15_stock.go:118", after := #[], guard := none }) (v := ?_) rfl (by kernel_rfl) (by kernel_rfl) (by kernel_rfl) (fun _ _ _ h => h) (Or.inl ⟨by rfl, ?_⟩) (by assumption) ?_
      rotate_left
      · (intro w hSw; (try dsimp only at hSw); go_simp <;> try with_reducible rfl)
      try simp only [Act.put, List.setIfInBounds_toArray, List.set_cons_zero, List.set_cons_succ]
      refine wpAnyH_take (i := 2) (oi := { dst := some 22, op := Go.Op.indexAddr 24 (Go.Operand.tmp 20) (Go.Operand.tmp 21), type := 0, pos := "l15_stock.go:118", after := #[{ on := 0, ground := Go.Ground.data }, { on := 1, ground := Go.Ground.data }], guard := none }) (v := ?_) rfl (by kernel_rfl) (by kernel_rfl) (by kernel_rfl) (fun _ _ _ h => h) (Or.inl ⟨by rfl, ?_⟩) (by assumption) ?_
      rotate_left
      · (intro w hSw; (try dsimp only at hSw); go_simp <;> try with_reducible rfl)
      try simp only [Act.put, List.setIfInBounds_toArray, List.set_cons_zero, List.set_cons_succ]
      refine wpAnyH_take (i := 3) (oi := { dst := some 23, op := Go.Op.fieldAddr 28 (Go.Operand.tmp 22) 4, type := 0, pos := "l15_stock.go:118", after := #[{ on := 2, ground := Go.Ground.data }], guard := none }) (v := ?_) rfl (by kernel_rfl) (by kernel_rfl) (by kernel_rfl) (fun _ _ _ h => h) (Or.inl ⟨by rfl, ?_⟩) (by assumption) ?_
      rotate_left
      · (intro w hSw; (try dsimp only at hSw); go_simp <;> try with_reducible rfl)
      try simp only [Act.put, List.setIfInBounds_toArray, List.set_cons_zero, List.set_cons_succ]
      refine wpAnyH_take (i := 4) (oi := { dst := some 24, op := Go.Op.load 3 (Go.Operand.tmp 23), type := 3, pos := "l15_stock.go:118", after := #[{ on := 3, ground := Go.Ground.data }], guard := none }) (v := ?_) rfl (by kernel_rfl) (by kernel_rfl) (by kernel_rfl) (fun _ _ _ h => h) (Or.inl ⟨by rfl, ?_⟩) (by assumption) ?_
      rotate_left
      · (intro w hSw; (try dsimp only at hSw); go_simp <;> try with_reducible rfl)
      try simp only [Act.put, List.setIfInBounds_toArray, List.set_cons_zero, List.set_cons_succ]
      refine wpAnyH_take (i := 5) (oi := { dst := some 25, op := Go.Op.fieldAddr 28 (Go.Operand.tmp 3) 4, type := 0, pos := "l15_stock.go:118", after := #[], guard := none }) (v := ?_) rfl (by kernel_rfl) (by kernel_rfl) (by kernel_rfl) (fun _ _ _ h => h) (Or.inl ⟨by rfl, ?_⟩) (by assumption) ?_
      rotate_left
      · (intro w hSw; (try dsimp only at hSw); go_simp <;> try with_reducible rfl)
      try simp only [Act.put, List.setIfInBounds_toArray, List.set_cons_zero, List.set_cons_succ]
      refine wpAnyH_take (i := 6) (oi := { dst := some 26, op := Go.Op.load 3 (Go.Operand.tmp 25), type := 3, pos := "l15_stock.go:118", after := #[{ on := 5, ground := Go.Ground.data }], guard := none }) (v := ?_) rfl (by kernel_rfl) (by kernel_rfl) (by kernel_rfl) (fun _ _ _ h => h) (Or.inl ⟨by rfl, ?_⟩) (by assumption) ?_
      rotate_left
      · (intro w hSw; (try dsimp only at hSw); go_simp <;> try with_reducible rfl)
      try simp only [Act.put, List.setIfInBounds_toArray, List.set_cons_zero, List.set_cons_succ]
      refine wpAnyH_take (i := 7) (oi := { dst := some 27, op := Go.Op.binOp Go.BinOp.add 3 (Go.Operand.tmp 24) (Go.Operand.tmp 26) 3, type := 3, pos := "l15_stock.go:118", after := #[{ on := 4, ground := Go.Ground.data }, { on := 6, ground := Go.Ground.data }], guard := none }) (v := ?_) rfl (by kernel_rfl) (by kernel_rfl) (by kernel_rfl) (fun _ _ _ h => h) (Or.inl ⟨by rfl, ?_⟩) (by assumption) ?_
      rotate_left
      · (intro w hSw; (try dsimp only at hSw); go_simp <;> try with_reducible rfl)
      try simp only [Act.put, List.setIfInBounds_toArray, List.set_cons_zero, List.set_cons_succ]
      refine wpAnyH_take (i := 8) (oi := { dst := some 28, op := Go.Op.binOp Go.BinOp.gtr 3 (Go.Operand.tmp 27) (Go.Operand.const (Go.Value.int Go.IntKind.i64 1000000)) 3, type := 4, pos := "l15_stock.go:118", after := #[{ on := 7, ground := Go.Ground.data }], guard := none }) (v := ?_) rfl (by kernel_rfl) (by kernel_rfl) (by kernel_rfl) (fun _ _ _ h => h) (Or.inl ⟨by rfl, ?_⟩) (by assumption) ?_
      rotate_left
      · (intro w hSw; (try dsimp only at hSw); go_simp <;> try with_reducible rfl)
      try simp only [Act.put, List.setIfInBounds_toArray, List.set_cons_zero, List.set_cons_succ]
      refine wpAnyH_done (by kernel_rfl) ?_ _
      refine NoPanic.normal ?_
      clear hHeld
      go_wp2
      have T8 : Hid (Below lo w VD.drew ∧ CB VD.drew w.heap.size #[.string x.item, .string x.place, .string x.lot, .int .i64 x.exp, .int .i64 x.qty, .int .i64 x.hld] 28 ∧ RO VD.drew g n d) := hid ⟨T6.out.1.drew, T6.out.2.1, T6.out.2.2⟩
      refine wp_region_noPanic ?_
      refine wp_region_held_drew (S := fun w' => (w'.cell? ⟨w.heap.size, 4, none⟩ = some (.int .i64 x.qty))) (by kernel_rfl) (by exact T8.out.2.1.cell 4) (fun hHeld => ?_)
      generalize hVE : VD.drew = VE at T8 hHeld ⊢
      clear hVE
      refine wpAnyH_take (i := 0) (oi := { dst := some 30, op := Go.Op.move (Go.Operand.tmp 0), type := 24, pos := "l15_stock.go:121", after := #[], guard := none }) (v := ?_) rfl (by kernel_rfl) (by kernel_rfl) (by kernel_rfl) (fun _ _ _ h => h) (Or.inl ⟨by rfl, ?_⟩) (by assumption) ?_
      rotate_left
      · (intro w hSw; (try dsimp only at hSw); go_simp <;> try with_reducible rfl)
      try simp only [Act.put, List.setIfInBounds_toArray, List.set_cons_zero, List.set_cons_succ]
      refine wpAnyH_take (i := 1) (oi := { dst := some 31, op := Go.Op.move (Go.Operand.tmp 6), type := 3, pos := "l15_stock.go:121", after := #[], guard := none }) (v := ?_) rfl (by kernel_rfl) (by kernel_rfl) (by kernel_rfl) (fun _ _ _ h => h) (Or.inl ⟨by rfl, ?_⟩) (by assumption) ?_
      rotate_left
      · (intro w hSw; (try dsimp only at hSw); go_simp <;> try with_reducible rfl)
      try simp only [Act.put, List.setIfInBounds_toArray, List.set_cons_zero, List.set_cons_succ]
      refine wpAnyH_take (i := 2) (oi := { dst := some 32, op := Go.Op.move (Go.Operand.tmp 0), type := 24, pos := "l15_stock.go:121", after := #[], guard := none }) (v := ?_) rfl (by kernel_rfl) (by kernel_rfl) (by kernel_rfl) (fun _ _ _ h => h) (Or.inl ⟨by rfl, ?_⟩) (by assumption) ?_
      rotate_left
      · (intro w hSw; (try dsimp only at hSw); go_simp <;> try with_reducible rfl)
      try simp only [Act.put, List.setIfInBounds_toArray, List.set_cons_zero, List.set_cons_succ]
      refine wpAnyH_take (i := 3) (oi := { dst := some 33, op := Go.Op.move (Go.Operand.tmp 6), type := 3, pos := "l15_stock.go:121", after := #[], guard := none }) (v := ?_) rfl (by kernel_rfl) (by kernel_rfl) (by kernel_rfl) (fun _ _ _ h => h) (Or.inl ⟨by rfl, ?_⟩) (by assumption) ?_
      rotate_left
      · (intro w hSw; (try dsimp only at hSw); go_simp <;> try with_reducible rfl)
      try simp only [Act.put, List.setIfInBounds_toArray, List.set_cons_zero, List.set_cons_succ]
      refine wpAnyH_take (i := 4) (oi := { dst := some 34, op := Go.Op.indexAddr 24 (Go.Operand.tmp 32) (Go.Operand.tmp 33), type := 0, pos := "l15_stock.go:121", after := #[{ on := 2, ground := Go.Ground.data }, { on := 3, ground := Go.Ground.data }], guard := none }) (v := ?_) rfl (by kernel_rfl) (by kernel_rfl) (by kernel_rfl) (fun _ _ _ h => h) (Or.inl ⟨by rfl, ?_⟩) (by assumption) ?_
      rotate_left
      · (intro w hSw; (try dsimp only at hSw); go_simp <;> try with_reducible rfl)
      try simp only [Act.put, List.setIfInBounds_toArray, List.set_cons_zero, List.set_cons_succ]
      refine wpAnyH_take (i := 5) (oi := { dst := some 35, op := Go.Op.fieldAddr 28 (Go.Operand.tmp 34) 4, type := 0, pos := "l15_stock.go:121", after := #[{ on := 4, ground := Go.Ground.data }], guard := none }) (v := ?_) rfl (by kernel_rfl) (by kernel_rfl) (by kernel_rfl) (fun _ _ _ h => h) (Or.inl ⟨by rfl, ?_⟩) (by assumption) ?_
      rotate_left
      · (intro w hSw; (try dsimp only at hSw); go_simp <;> try with_reducible rfl)
      try simp only [Act.put, List.setIfInBounds_toArray, List.set_cons_zero, List.set_cons_succ]
      refine wpAnyH_take (i := 7) (oi := { dst := some 37, op := Go.Op.fieldAddr 28 (Go.Operand.tmp 3) 4, type := 0, pos := "l15_stock.go:121", after := #[], guard := none }) (v := ?_) rfl (by kernel_rfl) (by kernel_rfl) (by kernel_rfl) (fun _ _ _ h => h) (Or.inl ⟨by rfl, ?_⟩) (by assumption) ?_
      rotate_left
      · (intro w hSw; (try dsimp only at hSw); go_simp <;> try with_reducible rfl)
      try simp only [Act.put, List.setIfInBounds_toArray, List.set_cons_zero, List.set_cons_succ]
      refine wpAnyH_take (i := 8) (oi := { dst := some 38, op := Go.Op.load 3 (Go.Operand.tmp 37), type := 3, pos := "l15_stock.go:121", after := #[{ on := 7, ground := Go.Ground.data }], guard := none }) (v := ?_) rfl (by kernel_rfl) (by kernel_rfl) (by kernel_rfl) (fun _ _ _ h => h) (Or.inl ⟨by rfl, ?_⟩) (by assumption) ?_
      rotate_left
      · (intro w hSw; (try dsimp only at hSw); go_simp <;> try with_reducible rfl)
      try simp only [Act.put, List.setIfInBounds_toArray, List.set_cons_zero, List.set_cons_succ]
      refine wpAnyH_ready (rs := [6]) (by kernel_rfl) (by simp) ?_
      refine AllReadyH.cons (o := { dst := some 36, op := Go.Op.load 3 (Go.Operand.tmp 35), type := 3, pos := "l15_stock.go:121", after := #[{ on := 5, ground := Go.Ground.data }], guard := none }) rfl (fun K hK => ?_) (AllReadyH.nil)
      have y4 := HEL.out _ T8.out.2.2
      go_simp
      refine hK.out _ _ (by exact T8.out.2.1.cell 4) (fun hHeld => ?_)
      clear hK K y4
      try simp only [Act.put, List.setIfInBounds_toArray, List.set_cons_zero, List.set_cons_succ]
      refine wpAnyH_take (i := 9) (oi := { dst := some 39, op := Go.Op.binOp Go.BinOp.add 3 (Go.Operand.tmp 36) (Go.Operand.tmp 38) 3, type := 3, pos := "l15_stock.go:121", after := #[{ on := 6, ground := Go.Ground.data }, { on := 8, ground := Go.Ground.data }], guard := none }) (v := ?_) rfl (by kernel_rfl) (by kernel_rfl) (by kernel_rfl) (fun _ _ _ h => h) (Or.inl ⟨by rfl, ?_⟩) (by assumption) ?_
      rotate_left
      · (intro w hSw; (try dsimp only at hSw); go_simp <;> try with_reducible rfl)
      try simp only [Act.put, List.setIfInBounds_toArray, List.set_cons_zero, List.set_cons_succ]
      refine wpAnyH_take (i := 10) (oi := { dst := some 40, op := Go.Op.indexAddr 24 (Go.Operand.tmp 30) (Go.Operand.tmp 31), type := 0, pos := "l15_stock.go:121", after := #[{ on := 0, ground := Go.Ground.data }, { on := 1, ground := Go.Ground.data }, { on := 0, ground := Go.Ground.phase }, { on := 1, ground := Go.Ground.phase }, { on := 2, ground := Go.Ground.phase }, { on := 3, ground := Go.Ground.phase }, { on := 4, ground := Go.Ground.phase }, { on := 5, ground := Go.Ground.phase }, { on := 6, ground := Go.Ground.phase }, { on := 7, ground := Go.Ground.phase }, { on := 8, ground := Go.Ground.phase }, { on := 9, ground := Go.Ground.phase }], guard := none }) (v := ?_) rfl (by kernel_rfl) (by kernel_rfl) (by kernel_rfl) (fun _ _ _ h => h) (Or.inl ⟨by rfl, ?_⟩) (by assumption) ?_
      rotate_left
      · (intro w hSw; (try dsimp only at hSw); go_simp <;> try with_reducible rfl)
      try simp only [Act.put, List.setIfInBounds_toArray, List.set_cons_zero, List.set_cons_succ]
      refine wpAnyH_take (i := 11) (oi := { dst := some 41, op := Go.Op.fieldAddr 28 (Go.Operand.tmp 40) 4, type := 0, pos := "l15_stock.go:121", after := #[{ on := 10, ground := Go.Ground.data }, { on := 0, ground := Go.Ground.phase }, { on := 1, ground := Go.Ground.phase }, { on := 2, ground := Go.Ground.phase }, { on := 3, ground := Go.Ground.phase }, { on := 4, ground := Go.Ground.phase }, { on := 5, ground := Go.Ground.phase }, { on := 6, ground := Go.Ground.phase }, { on := 7, ground := Go.Ground.phase }, { on := 8, ground := Go.Ground.phase }, { on := 9, ground := Go.Ground.phase }], guard := none }) (v := ?_) rfl (by kernel_rfl) (by kernel_rfl) (by kernel_rfl) (fun _ _ _ h => h) (Or.inl ⟨by rfl, ?_⟩) (by assumption) ?_
      rotate_left
      · (intro w hSw; (try dsimp only at hSw); go_simp <;> try with_reducible rfl)
      try simp only [Act.put, List.setIfInBounds_toArray, List.set_cons_zero, List.set_cons_succ]
      refine wpAnyH_ready (rs := [12]) (by kernel_rfl) (by simp) ?_
      refine AllReadyH.cons (o := { dst := none, op := Go.Op.store 3 (Go.Operand.tmp 41) (Go.Operand.tmp 39), type := 0, pos := "l15_stock.go:121", after := #[{ on := 11, ground := Go.Ground.data }, { on := 9, ground := Go.Ground.data }, { on := 0, ground := Go.Ground.phase }, { on := 1, ground := Go.Ground.phase }, { on := 2, ground := Go.Ground.phase }, { on := 3, ground := Go.Ground.phase }, { on := 4, ground := Go.Ground.phase }, { on := 5, ground := Go.Ground.phase }, { on := 6, ground := Go.Ground.phase }, { on := 7, ground := Go.Ground.phase }, { on := 8, ground := Go.Ground.phase }, { on := 9, ground := Go.Ground.phase }], guard := none }) rfl (fun K hK => ?_) (AllReadyH.nil)
      have y4 := HEL.out _ T8.out.2.2
      have f4 := T8.out.2.2.fr (i * 6 + 4)
      have HZ : Hid (RO (VE.setCell ⟨g, i * 6 + 4, none⟩ (.int .i64 (yq + x.qty))) g n (putC d i (addQ (d i) x.qty)) ∧ CB (VE.setCell ⟨g, i * 6 + 4, none⟩ (.int .i64 (yq + x.qty))) w.heap.size #[.string x.item, .string x.place, .string x.lot, .int .i64 x.exp, .int .i64 x.qty, .int .i64 x.hld] 28 ∧ Below lo w (VE.setCell ⟨g, i * 6 + 4, none⟩ (.int .i64 (yq + x.qty)))) := hid ⟨by have := T8.out.2.2.set4 hin (yq + x.qty); unfold addQ; rw [HYQ.out]; exact this, T8.out.2.1.other _ HXG.out, T8.out.1.setCell HG.out _⟩
      go_simp
      refine hK.out _ _ (by exact HZ.out.2.1.cell 4) (fun hHeld => ?_)
      clear hK K y4 f4
      try simp only [Act.put, List.setIfInBounds_toArray, List.set_cons_zero, List.set_cons_succ]
      refine wpAnyH_done (by kernel_rfl) ?_ _
      refine NoPanic.normal ?_
      clear hHeld
      generalize (VE.setCell ⟨g, i * 6 + 4, none⟩ (.int .i64 (yq + x.qty))) = Z at HZ ⊢
      go_wp2
      go_returns
      rw [HBR.out.1, HBR.out.2.1, HBR.out.2.2]
      exact ⟨_, _, _, rfl, fun _ => ⟨rfl, HZ.out.1.own HG.out⟩, HZ.out.2.2⟩

end Go.Proofs.Ytpmnnfjabppahaa
