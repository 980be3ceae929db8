/- Receive of the model. -/
import Derived.Test.YtpmnnfjabppahaaBd
namespace Go.Proofs.Ytpmnnfjabppahaa
open Go Go.ChangeShapes Go.WideShapes Go.ChangeAt Go.RowKit
set_option linter.unusedVariables false
set_option linter.unusedSimpArgs false

set_option maxRecDepth 20000 in
set_option maxHeartbeats 8000000 in
theorem specReceive_any (a : Addr) (len cap : Nat) (c : Nat → CE6) (x : CE6) (w : World) (h : (len : Int) ≤ 1048576) (hr : CEr w (some a) len c) (hz : CZ c) (hxk : x.item.size ≤ maxLen ∧ x.place.size ≤ maxLen ∧ x.lot.size ≤ maxLen) :
    Calls Try.prog 41 #[.slice (some a) len cap, .agg #[.string x.item, .string x.place, .string x.lot, .int .i64 x.exp, .int .i64 x.qty, .int .i64 x.hld]] w fun e w' => ∃ ad cp, e = .returned (.tuple #[.slice ad (rcM len c x) cp, .int .i64 (rcV len c x)]) ∧ OwnCE6 w' w.heap.size ad (rcM len c x) (rcC len c x) ∧ Below w.heap.size w w' := by
  have HR := hid hr
  have HZ := hid hz
  have HXK := hid hxk
  clear hr hz hxk
  cases hs : stB len c
  · have HM : Hid (rcM len c x = 0 ∧ rcV len c x = 1) := hid ⟨by unfold rcM; rw [hs]; rfl, by unfold rcV; rw [hs]; rfl⟩
    have HS := hid hs
    clear hs
    go_enter Try.func41, Try.ntmps41
    go_wp2_with (go_at_call 35; refine (specStock_eq _ len cap c _ _ h (HR.out.alloc _) HZ.out HS.out).mono ?_; rintro e w1 ⟨rfl, b1⟩; have HB1 : Hid (Below w.heap.size w w1) := hid (bel_on ((Below.refl _ _).alloc (Nat.le_refl _) _) b1); clear b1)
    go_returns
    rw [HM.out.1, HM.out.2]
    first | exact ⟨_, _, rfl, .inl rfl, HB1.out.alloc HB1.out.size _⟩ | exact ⟨_, ⟨_, rfl⟩, .inl rfl, HB1.out.alloc HB1.out.size _⟩
  have hsp := stB_p hs
  have hn100 := hsp.1.1
  have HCN := hid (ceN_of hsp.1)
  have HMv : Hid (rcV len c x = rcT len c x ∧ (rcT len c x = 0 → rcM len c x = brN len c x ∧ rcC len c x = brC len c x) ∧ (rcT len c x ≠ 0 → rcM len c x = len ∧ rcC len c x = c)) := hid (by
    have e : rcV len c x = rcT len c x := by unfold rcV; rw [if_pos hs]
    refine ⟨e, fun h0 => ⟨?_, ?_⟩, fun h0 => ⟨?_, ?_⟩⟩
    · unfold rcM; rw [if_pos hs, if_pos h0]
    · unfold rcC; rw [if_pos (e.trans h0)]
    · unfold rcM; rw [if_pos hs, if_neg h0]
    · unfold rcC; rw [if_neg (by rw [e]; exact h0)])
  have HS := hid hs
  clear hs hsp
  by_cases hc : ceB x = true ∧ x.hld = 0
  case neg =>
    have HT : Hid (rcT len c x = 2) := hid (by unfold rcT; rw [if_neg hc])
    cases hcb : ceB x
    · have HC := hid hcb
      clear hc hcb
      go_enter Try.func41, Try.ntmps41
      go_wp2_with (first
        | (go_at_call 35; refine (specStock_eq _ len cap c _ _ h (HR.out.alloc _) HZ.out HS.out).mono ?_; rintro e w1 ⟨rfl, b1⟩; have HB1 : Hid (Below w.heap.size w w1 ∧ CB w1 w.heap.size #[.string x.item, .string x.place, .string x.lot, .int .i64 x.exp, .int .i64 x.qty, .int .i64 x.hld] 28) := hid ⟨bel_on ((Below.refl _ _).alloc (Nat.le_refl _) _) b1, (CB.new _ _).below b1 (CB.new _ _).lt⟩; have x0 : w1.cell? ⟨w.heap.size, 0, none⟩ = some (.string x.item) := HB1.out.2.cell 0; have x1 : w1.cell? ⟨w.heap.size, 1, none⟩ = some (.string x.place) := HB1.out.2.cell 1; have x2 : w1.cell? ⟨w.heap.size, 2, none⟩ = some (.string x.lot) := HB1.out.2.cell 2; have x3 : w1.cell? ⟨w.heap.size, 3, none⟩ = some (.int .i64 x.exp) := HB1.out.2.cell 3; have x4 : w1.cell? ⟨w.heap.size, 4, none⟩ = some (.int .i64 x.qty) := HB1.out.2.cell 4; have x5 : w1.cell? ⟨w.heap.size, 5, none⟩ = some (.int .i64 x.hld) := HB1.out.2.cell 5; clear b1)
        | (go_at_call 97; refine (l15Cell_eq x _ _ HXK.out.1 HXK.out.2.1 HXK.out.2.2 HC.out).mono ?_; rintro e w2 ⟨rfl, b2⟩; clear x0 x1 x2 x3 x4 x5; have HB2 : Hid (Below w.heap.size w w2 ∧ CB w2 w.heap.size #[.string x.item, .string x.place, .string x.lot, .int .i64 x.exp, .int .i64 x.qty, .int .i64 x.hld] 28) := hid ⟨bel_on HB1.out.1 b2, HB1.out.2.below b2 HB1.out.2.lt⟩; have x0 : w2.cell? ⟨w.heap.size, 0, none⟩ = some (.string x.item) := HB2.out.2.cell 0; have x1 : w2.cell? ⟨w.heap.size, 1, none⟩ = some (.string x.place) := HB2.out.2.cell 1; have x2 : w2.cell? ⟨w.heap.size, 2, none⟩ = some (.string x.lot) := HB2.out.2.cell 2; have x3 : w2.cell? ⟨w.heap.size, 3, none⟩ = some (.int .i64 x.exp) := HB2.out.2.cell 3; have x4 : w2.cell? ⟨w.heap.size, 4, none⟩ = some (.int .i64 x.qty) := HB2.out.2.cell 4; have x5 : w2.cell? ⟨w.heap.size, 5, none⟩ = some (.int .i64 x.hld) := HB2.out.2.cell 5; clear b2)
        | (go_at_call 68; refine (copyS_any a len cap c _ h (HR.out.below HB2.out.1)).mono ?_; rintro e w5 ⟨v5, rfl, o5, b5⟩; obtain ⟨ad5, cp5, rfl, hcp5, o5⟩ := ownCE6_of o5; have HO5 := hid (o5.mono (l := w.heap.size) HB2.out.1.size); have HB5 := hid (bel_on HB2.out.1 b5); clear o5 b5))
      go_returns
      rw [HMv.out.1, HT.out, (HMv.out.2.2 (by rw [HT.out]; omega)).1, (HMv.out.2.2 (by rw [HT.out]; omega)).2]
      first | exact ⟨_, _, rfl, HO5.out, HB5.out⟩ | exact ⟨_, ⟨_, rfl⟩, HO5.out, HB5.out⟩
    · have hhb : (x.hld != 0) = true := by simp; intro h0; exact hc ⟨hcb, h0⟩
      have HC := hid hcb
      clear hc hcb
      go_enter Try.func41, Try.ntmps41
      go_wp2_with (first
        | (go_at_call 35; refine (specStock_eq _ len cap c _ _ h (HR.out.alloc _) HZ.out HS.out).mono ?_; rintro e w1 ⟨rfl, b1⟩; have HB1 : Hid (Below w.heap.size w w1 ∧ CB w1 w.heap.size #[.string x.item, .string x.place, .string x.lot, .int .i64 x.exp, .int .i64 x.qty, .int .i64 x.hld] 28) := hid ⟨bel_on ((Below.refl _ _).alloc (Nat.le_refl _) _) b1, (CB.new _ _).below b1 (CB.new _ _).lt⟩; have x0 : w1.cell? ⟨w.heap.size, 0, none⟩ = some (.string x.item) := HB1.out.2.cell 0; have x1 : w1.cell? ⟨w.heap.size, 1, none⟩ = some (.string x.place) := HB1.out.2.cell 1; have x2 : w1.cell? ⟨w.heap.size, 2, none⟩ = some (.string x.lot) := HB1.out.2.cell 2; have x3 : w1.cell? ⟨w.heap.size, 3, none⟩ = some (.int .i64 x.exp) := HB1.out.2.cell 3; have x4 : w1.cell? ⟨w.heap.size, 4, none⟩ = some (.int .i64 x.qty) := HB1.out.2.cell 4; have x5 : w1.cell? ⟨w.heap.size, 5, none⟩ = some (.int .i64 x.hld) := HB1.out.2.cell 5; clear b1)
        | (go_at_call 97; refine (l15Cell_eq x _ _ HXK.out.1 HXK.out.2.1 HXK.out.2.2 HC.out).mono ?_; rintro e w2 ⟨rfl, b2⟩; clear x0 x1 x2 x3 x4 x5; have HB2 : Hid (Below w.heap.size w w2 ∧ CB w2 w.heap.size #[.string x.item, .string x.place, .string x.lot, .int .i64 x.exp, .int .i64 x.qty, .int .i64 x.hld] 28) := hid ⟨bel_on HB1.out.1 b2, HB1.out.2.below b2 HB1.out.2.lt⟩; have x0 : w2.cell? ⟨w.heap.size, 0, none⟩ = some (.string x.item) := HB2.out.2.cell 0; have x1 : w2.cell? ⟨w.heap.size, 1, none⟩ = some (.string x.place) := HB2.out.2.cell 1; have x2 : w2.cell? ⟨w.heap.size, 2, none⟩ = some (.string x.lot) := HB2.out.2.cell 2; have x3 : w2.cell? ⟨w.heap.size, 3, none⟩ = some (.int .i64 x.exp) := HB2.out.2.cell 3; have x4 : w2.cell? ⟨w.heap.size, 4, none⟩ = some (.int .i64 x.qty) := HB2.out.2.cell 4; have x5 : w2.cell? ⟨w.heap.size, 5, none⟩ = some (.int .i64 x.hld) := HB2.out.2.cell 5; clear b2)
        | (go_at_call 68; refine (copyS_any a len cap c _ h (HR.out.below HB2.out.1)).mono ?_; rintro e w5 ⟨v5, rfl, o5, b5⟩; obtain ⟨ad5, cp5, rfl, hcp5, o5⟩ := ownCE6_of o5; have HO5 := hid (o5.mono (l := w.heap.size) HB2.out.1.size); have HB5 := hid (bel_on HB2.out.1 b5); clear o5 b5))
      go_returns
      rw [HMv.out.1, HT.out, (HMv.out.2.2 (by rw [HT.out]; omega)).1, (HMv.out.2.2 (by rw [HT.out]; omega)).2]
      first | exact ⟨_, _, rfl, HO5.out, HB5.out⟩ | exact ⟨_, ⟨_, rfl⟩, HO5.out, HB5.out⟩
  obtain ⟨hcb, hh⟩ := hc
  have HT : Hid (rcT len c x = brT len c x) := hid (by unfold rcT; rw [if_pos ⟨hcb, hh⟩])
  have hhb : (x.hld != 0) = false := by simp [hh]
  have HQ := hid (ceB_p hcb).2.2.2.2.1
  have HC := hid hcb
  clear hcb hh
  by_cases hb0 : brT len c x = 0
  · have HBT : Hid ((brT len c x == 0) = true) := hid (by rw [hb0]; rfl)
    have HB0 := hid hb0
    clear hb0
    go_enter Try.func41, Try.ntmps41
    go_wp2_with (first
      | (go_at_call 35; refine (specStock_eq _ len cap c _ _ h (HR.out.alloc _) HZ.out HS.out).mono ?_; rintro e w1 ⟨rfl, b1⟩; have HB1 : Hid (Below w.heap.size w w1 ∧ CB w1 w.heap.size #[.string x.item, .string x.place, .string x.lot, .int .i64 x.exp, .int .i64 x.qty, .int .i64 x.hld] 28) := hid ⟨bel_on ((Below.refl _ _).alloc (Nat.le_refl _) _) b1, (CB.new _ _).below b1 (CB.new _ _).lt⟩; have x0 : w1.cell? ⟨w.heap.size, 0, none⟩ = some (.string x.item) := HB1.out.2.cell 0; have x1 : w1.cell? ⟨w.heap.size, 1, none⟩ = some (.string x.place) := HB1.out.2.cell 1; have x2 : w1.cell? ⟨w.heap.size, 2, none⟩ = some (.string x.lot) := HB1.out.2.cell 2; have x3 : w1.cell? ⟨w.heap.size, 3, none⟩ = some (.int .i64 x.exp) := HB1.out.2.cell 3; have x4 : w1.cell? ⟨w.heap.size, 4, none⟩ = some (.int .i64 x.qty) := HB1.out.2.cell 4; have x5 : w1.cell? ⟨w.heap.size, 5, none⟩ = some (.int .i64 x.hld) := HB1.out.2.cell 5; clear b1)
      | (go_at_call 97; refine (l15Cell_eq x _ _ HXK.out.1 HXK.out.2.1 HXK.out.2.2 HC.out).mono ?_; rintro e w2 ⟨rfl, b2⟩; clear x0 x1 x2 x3 x4 x5; have HB2 : Hid (Below w.heap.size w w2 ∧ CB w2 w.heap.size #[.string x.item, .string x.place, .string x.lot, .int .i64 x.exp, .int .i64 x.qty, .int .i64 x.hld] 28) := hid ⟨bel_on HB1.out.1 b2, HB1.out.2.below b2 HB1.out.2.lt⟩; have x0 : w2.cell? ⟨w.heap.size, 0, none⟩ = some (.string x.item) := HB2.out.2.cell 0; have x1 : w2.cell? ⟨w.heap.size, 1, none⟩ = some (.string x.place) := HB2.out.2.cell 1; have x2 : w2.cell? ⟨w.heap.size, 2, none⟩ = some (.string x.lot) := HB2.out.2.cell 2; have x3 : w2.cell? ⟨w.heap.size, 3, none⟩ = some (.int .i64 x.exp) := HB2.out.2.cell 3; have x4 : w2.cell? ⟨w.heap.size, 4, none⟩ = some (.int .i64 x.qty) := HB2.out.2.cell 4; have x5 : w2.cell? ⟨w.heap.size, 5, none⟩ = some (.int .i64 x.hld) := HB2.out.2.cell 5; clear b2))
    have TD : Hid (Below w.heap.size w w2.drew ∧ CB w2.drew w.heap.size #[.string x.item, .string x.place, .string x.lot, .int .i64 x.exp, .int .i64 x.qty, .int .i64 x.hld] 28) := hid ⟨HB2.out.1.drew, HB2.out.2⟩
    clear x0 x1 x2 x3 x4 x5
    refine wp_region_noPanic ?_
    refine wp_region_held_drew (S := fun w' => (w'.cell? ⟨w.heap.size, 0, none⟩ = some (.string x.item)) ∧ (w'.cell? ⟨w.heap.size, 1, none⟩ = some (.string x.place)) ∧ (w'.cell? ⟨w.heap.size, 2, none⟩ = some (.string x.lot)) ∧ (w'.cell? ⟨w.heap.size, 3, none⟩ = some (.int .i64 x.exp)) ∧ (w'.cell? ⟨w.heap.size, 4, none⟩ = some (.int .i64 x.qty)) ∧ (w'.cell? ⟨w.heap.size, 5, none⟩ = some (.int .i64 x.hld))) (by kernel_rfl) (by exact ⟨TD.out.2.cell 0, TD.out.2.cell 1, TD.out.2.cell 2, TD.out.2.cell 3, TD.out.2.cell 4, TD.out.2.cell 5⟩) (fun hHeld => ?_)
    generalize hVD : w2.drew = VD at TD hHeld ⊢
    clear hVD
    refine wpAnyH_take (i := 0) (oi := { dst := some 23, op := Go.Op.move (Go.Operand.tmp 0), type := 24, pos := "l15_stock.go:154", after := #[], guard := none }) (v := ?_) rfl (by kernel_rfl) (by kernel_rfl) (by kernel_rfl) (fun _ _ _ h => h) (Or.inl ⟨by rfl, ?_⟩) (by assumption) ?_
    rotate_left
    · (intro w hSw; (try dsimp only at hSw); go_simp <;> try with_reducible rfl)
    try simp only [Act.put, List.setIfInBounds_toArray, List.set_cons_zero, List.set_cons_succ]
    refine wpAnyH_take (i := 2) (oi := { dst := some 25, op := Go.Op.load 28 (Go.Operand.tmp 3), type := 28, pos := "l15_stock.go:154", after := #[], guard := none }) (v := ?_) rfl (by kernel_rfl) (by kernel_rfl) (by kernel_rfl) (fun _ _ _ h => h) (Or.inl ⟨by rfl, ?_⟩) (by assumption) ?_
    rotate_left
    · (intro w hSw; (try dsimp only at hSw); go_simp <;> try with_reducible rfl)
    try simp only [Act.put, List.setIfInBounds_toArray, List.set_cons_zero, List.set_cons_succ]
    refine wpAnyH_ready (rs := [1]) (by kernel_rfl) (by simp) ?_
    refine AllReadyH.cons (o := { dst := some 24, op := Go.Op.call { callee := Go.Callee.value (Go.Operand.func 68), args := #[Go.Operand.tmp 23], argTypes := #[24] }, type := 24, pos := "l15_stock.go:154", after := #[{ on := 0, ground := Go.Ground.data }], guard := none }) rfl (fun K hK => ?_) (AllReadyH.nil)
    go_simp
    refine (copyS_any a len cap c _ h (HR.out.below TD.out.1)).mono ?_
    rintro e w3 ⟨v3, rfl, o3, b3⟩
    obtain ⟨ad3, cp3, rfl, hcp3, _⟩ := ownCE6_of o3
    have T3 : Hid (Below w.heap.size w w3 ∧ CB w3 w.heap.size #[.string x.item, .string x.place, .string x.lot, .int .i64 x.exp, .int .i64 x.qty, .int .i64 x.hld] 28 ∧ w3.ownsRow (w.heap.size + 1) 28 6 (.slice ad3 len cp3) len (rowCE6 c len)) := hid ⟨bel_on TD.out.1 b3, TD.out.2.below b3 TD.out.2.lt, row_lower o3 TD.out.2.lt⟩
    clear o3 b3
    first | refine hK.out _ _ (by exact ⟨T3.out.2.1.cell 0, T3.out.2.1.cell 1, T3.out.2.1.cell 2, T3.out.2.1.cell 3, T3.out.2.1.cell 4, T3.out.2.1.cell 5⟩) (fun hHeld => ?_) | (go_wp2_with fail; refine hK.out _ _ (by exact ⟨T3.out.2.1.cell 0, T3.out.2.1.cell 1, T3.out.2.1.cell 2, T3.out.2.1.cell 3, T3.out.2.1.cell 4, T3.out.2.1.cell 5⟩) (fun hHeld => ?_))
    clear hK K
    try simp only [Act.put, List.setIfInBounds_toArray, List.set_cons_zero, List.set_cons_succ]
    refine wpAnyH_ready (rs := [3]) (by kernel_rfl) (by simp) ?_
    refine AllReadyH.cons (o := { dst := some 26, op := Go.Op.call { callee := Go.Callee.value (Go.Operand.func 69), args := #[Go.Operand.tmp 24, Go.Operand.tmp 25], argTypes := #[24, 28] }, type := 96, pos := "l15_stock.go:154", after := #[{ on := 1, ground := Go.Ground.data }, { on := 2, ground := Go.Ground.data }, { on := 1, ground := Go.Ground.chain }], guard := none }) rfl (fun K hK => ?_) (AllReadyH.nil)
    go_simp
    refine (add_any len cp3 (w.heap.size + 1) ad3 c x _ hn100 hcp3 HCN.out HQ.out T3.out.2.2 T3.out.2.1.lt).mono ?_
    rintro e w4 ⟨ad4, n4, cp4, rfl, r4, b4⟩
    rw [HBT.out]
    have T4 : Hid (Below w.heap.size w w4 ∧ (brT len c x = 0 → n4 = brN len c x ∧ OwnCE6 w4 w.heap.size ad4 n4 (brC len c x))) := hid ⟨T3.out.1.trans (b4.mono (by omega)), fun h0 => ⟨(r4 h0).1, (r4 h0).2.mono (by omega)⟩⟩
    have TX : Hid (CB w4 w.heap.size #[.string x.item, .string x.place, .string x.lot, .int .i64 x.exp, .int .i64 x.qty, .int .i64 x.hld] 28) := hid (T3.out.2.1.below b4 (by omega))
    clear r4 b4
    first | refine hK.out _ _ (by exact ⟨TX.out.cell 0, TX.out.cell 1, TX.out.cell 2, TX.out.cell 3, TX.out.cell 4, TX.out.cell 5⟩) (fun hHeld => ?_) | (go_wp2_with fail; refine hK.out _ _ (by exact ⟨TX.out.cell 0, TX.out.cell 1, TX.out.cell 2, TX.out.cell 3, TX.out.cell 4, TX.out.cell 5⟩) (fun hHeld => ?_))
    clear hK K
    try simp only [Act.put, List.setIfInBounds_toArray, List.set_cons_zero, List.set_cons_succ]
    refine wpAnyH_take (i := 4) (oi := { dst := some 22, op := Go.Op.move (Go.Operand.tmp 26), type := 96, pos := "l15_stock.go:154", after := #[{ on := 3, ground := Go.Ground.data }], guard := none }) (v := ?_) rfl (by kernel_rfl) (by kernel_rfl) (by kernel_rfl) (fun _ _ _ h => h) (Or.inl ⟨by rfl, ?_⟩) (by assumption) ?_
    rotate_left
    · (intro w hSw; (try dsimp only at hSw); go_simp <;> try with_reducible rfl)
    try simp only [Act.put, List.setIfInBounds_toArray, List.set_cons_zero, List.set_cons_succ]
    refine wpAnyH_take (i := 5) (oi := { dst := some 27, op := Go.Op.extract (Go.Operand.tmp 22) 0, type := 24, pos := "l15_stock.go:154", after := #[{ on := 4, ground := Go.Ground.data }], guard := none }) (v := ?_) rfl (by kernel_rfl) (by kernel_rfl) (by kernel_rfl) (fun _ _ _ h => h) (Or.inl ⟨by rfl, ?_⟩) (by assumption) ?_
    rotate_left
    · (intro w hSw; (try dsimp only at hSw); go_simp <;> try with_reducible rfl)
    try simp only [Act.put, List.setIfInBounds_toArray, List.set_cons_zero, List.set_cons_succ]
    refine wpAnyH_take (i := 6) (oi := { dst := some 28, op := Go.Op.extract (Go.Operand.tmp 22) 1, type := 4, pos := "l15_stock.go:154", after := #[{ on := 4, ground := Go.Ground.data }, { on := 7, ground := Go.Ground.gcOnly Go.Departure.lateStores }], guard := none }) (v := ?_) rfl (by kernel_rfl) (by kernel_rfl) (by kernel_rfl) (fun _ _ _ h => h) (Or.inl ⟨by rfl, ?_⟩) (by assumption) ?_
    rotate_left
    · (intro w hSw; (try dsimp only at hSw); go_simp <;> try with_reducible rfl)
    try simp only [Act.put, List.setIfInBounds_toArray, List.set_cons_zero, List.set_cons_succ]
    refine wpAnyH_take (i := 7) (oi := { dst := some 6, op := Go.Op.assign (Go.Operand.tmp 27), type := 24, pos := "l15_stock.go:154", after := #[{ on := 5, ground := Go.Ground.data }, { on := 3, ground := Go.Ground.chain }, { on := 0, ground := Go.Ground.phase }, { on := 1, ground := Go.Ground.phase }, { on := 2, ground := Go.Ground.phase }, { on := 3, ground := Go.Ground.phase }, { on := 4, ground := Go.Ground.phase }, { on := 5, ground := Go.Ground.phase }, { on := 6, ground := Go.Ground.textOnly Go.Departure.lateStores }], guard := none }) (v := ?_) rfl (by kernel_rfl) (by kernel_rfl) (by kernel_rfl) (fun _ _ _ h => h) (Or.inl ⟨by rfl, ?_⟩) (by assumption) ?_
    rotate_left
    · (intro w hSw; (try dsimp only at hSw); go_simp <;> try with_reducible rfl)
    try simp only [Act.put, List.setIfInBounds_toArray, List.set_cons_zero, List.set_cons_succ]
    refine wpAnyH_take (i := 8) (oi := { dst := some 7, op := Go.Op.assign (Go.Operand.tmp 28), type := 4, pos := "l15_stock.go:154", after := #[{ on := 6, ground := Go.Ground.data }, { on := 7, ground := Go.Ground.chain }, { on := 0, ground := Go.Ground.phase }, { on := 1, ground := Go.Ground.phase }, { on := 2, ground := Go.Ground.phase }, { on := 3, ground := Go.Ground.phase }, { on := 4, ground := Go.Ground.phase }, { on := 5, ground := Go.Ground.phase }, { on := 6, ground := Go.Ground.phase }, { on := 7, ground := Go.Ground.phase }], guard := none }) (v := ?_) rfl (by kernel_rfl) (by kernel_rfl) (by kernel_rfl) (fun _ _ _ h => h) (Or.inl ⟨by rfl, ?_⟩) (by assumption) ?_
    rotate_left
    · (intro w hSw; (try dsimp only at hSw); go_simp <;> try with_reducible rfl)
    try simp only [Act.put, List.setIfInBounds_toArray, List.set_cons_zero, List.set_cons_succ]
    refine wpAnyH_done (by kernel_rfl) ?_ _
    refine NoPanic.normal ?_
    clear hHeld
    go_wp2
    go_returns
    obtain ⟨rfl, ho4⟩ := T4.out.2 HB0.out
    rw [HMv.out.1, HT.out, (HMv.out.2.1 (HT.out.trans HB0.out)).1, (HMv.out.2.1 (HT.out.trans HB0.out)).2, HB0.out]
    first | exact ⟨_, _, rfl, ho4, T4.out.1⟩ | exact ⟨_, ⟨_, rfl⟩, ho4, T4.out.1⟩
  · have HBT : Hid ((brT len c x == 0) = false) := hid (by simpa using hb0)
    have h4 : brT len c x = 4 := by
      revert hb0
      unfold brT
      split <;> split <;> simp
    have HB0 := hid hb0
    have HB4 := hid h4
    clear hb0 h4
    go_enter Try.func41, Try.ntmps41
    go_wp2_with (first
      | (go_at_call 35; refine (specStock_eq _ len cap c _ _ h (HR.out.alloc _) HZ.out HS.out).mono ?_; rintro e w1 ⟨rfl, b1⟩; have HB1 : Hid (Below w.heap.size w w1 ∧ CB w1 w.heap.size #[.string x.item, .string x.place, .string x.lot, .int .i64 x.exp, .int .i64 x.qty, .int .i64 x.hld] 28) := hid ⟨bel_on ((Below.refl _ _).alloc (Nat.le_refl _) _) b1, (CB.new _ _).below b1 (CB.new _ _).lt⟩; have x0 : w1.cell? ⟨w.heap.size, 0, none⟩ = some (.string x.item) := HB1.out.2.cell 0; have x1 : w1.cell? ⟨w.heap.size, 1, none⟩ = some (.string x.place) := HB1.out.2.cell 1; have x2 : w1.cell? ⟨w.heap.size, 2, none⟩ = some (.string x.lot) := HB1.out.2.cell 2; have x3 : w1.cell? ⟨w.heap.size, 3, none⟩ = some (.int .i64 x.exp) := HB1.out.2.cell 3; have x4 : w1.cell? ⟨w.heap.size, 4, none⟩ = some (.int .i64 x.qty) := HB1.out.2.cell 4; have x5 : w1.cell? ⟨w.heap.size, 5, none⟩ = some (.int .i64 x.hld) := HB1.out.2.cell 5; clear b1)
      | (go_at_call 97; refine (l15Cell_eq x _ _ HXK.out.1 HXK.out.2.1 HXK.out.2.2 HC.out).mono ?_; rintro e w2 ⟨rfl, b2⟩; clear x0 x1 x2 x3 x4 x5; have HB2 : Hid (Below w.heap.size w w2 ∧ CB w2 w.heap.size #[.string x.item, .string x.place, .string x.lot, .int .i64 x.exp, .int .i64 x.qty, .int .i64 x.hld] 28) := hid ⟨bel_on HB1.out.1 b2, HB1.out.2.below b2 HB1.out.2.lt⟩; have x0 : w2.cell? ⟨w.heap.size, 0, none⟩ = some (.string x.item) := HB2.out.2.cell 0; have x1 : w2.cell? ⟨w.heap.size, 1, none⟩ = some (.string x.place) := HB2.out.2.cell 1; have x2 : w2.cell? ⟨w.heap.size, 2, none⟩ = some (.string x.lot) := HB2.out.2.cell 2; have x3 : w2.cell? ⟨w.heap.size, 3, none⟩ = some (.int .i64 x.exp) := HB2.out.2.cell 3; have x4 : w2.cell? ⟨w.heap.size, 4, none⟩ = some (.int .i64 x.qty) := HB2.out.2.cell 4; have x5 : w2.cell? ⟨w.heap.size, 5, none⟩ = some (.int .i64 x.hld) := HB2.out.2.cell 5; clear b2))
    have TD : Hid (Below w.heap.size w w2.drew ∧ CB w2.drew w.heap.size #[.string x.item, .string x.place, .string x.lot, .int .i64 x.exp, .int .i64 x.qty, .int .i64 x.hld] 28) := hid ⟨HB2.out.1.drew, HB2.out.2⟩
    clear x0 x1 x2 x3 x4 x5
    refine wp_region_noPanic ?_
    refine wp_region_held_drew (S := fun w' => (w'.cell? ⟨w.heap.size, 0, none⟩ = some (.string x.item)) ∧ (w'.cell? ⟨w.heap.size, 1, none⟩ = some (.string x.place)) ∧ (w'.cell? ⟨w.heap.size, 2, none⟩ = some (.string x.lot)) ∧ (w'.cell? ⟨w.heap.size, 3, none⟩ = some (.int .i64 x.exp)) ∧ (w'.cell? ⟨w.heap.size, 4, none⟩ = some (.int .i64 x.qty)) ∧ (w'.cell? ⟨w.heap.size, 5, none⟩ = some (.int .i64 x.hld))) (by kernel_rfl) (by exact ⟨TD.out.2.cell 0, TD.out.2.cell 1, TD.out.2.cell 2, TD.out.2.cell 3, TD.out.2.cell 4, TD.out.2.cell 5⟩) (fun hHeld => ?_)
    generalize hVD : w2.drew = VD at TD hHeld ⊢
    clear hVD
    refine wpAnyH_take (i := 0) (oi := { dst := some 23, op := Go.Op.move (Go.Operand.tmp 0), type := 24, pos := "l15_stock.go:154", after := #[], guard := none }) (v := ?_) rfl (by kernel_rfl) (by kernel_rfl) (by kernel_rfl) (fun _ _ _ h => h) (Or.inl ⟨by rfl, ?_⟩) (by assumption) ?_
    rotate_left
    · (intro w hSw; (try dsimp only at hSw); go_simp <;> try with_reducible rfl)
    try simp only [Act.put, List.setIfInBounds_toArray, List.set_cons_zero, List.set_cons_succ]
    refine wpAnyH_take (i := 2) (oi := { dst := some 25, op := Go.Op.load 28 (Go.Operand.tmp 3), type := 28, pos := "l15_stock.go:154", after := #[], guard := none }) (v := ?_) rfl (by kernel_rfl) (by kernel_rfl) (by kernel_rfl) (fun _ _ _ h => h) (Or.inl ⟨by rfl, ?_⟩) (by assumption) ?_
    rotate_left
    · (intro w hSw; (try dsimp only at hSw); go_simp <;> try with_reducible rfl)
    try simp only [Act.put, List.setIfInBounds_toArray, List.set_cons_zero, List.set_cons_succ]
    refine wpAnyH_ready (rs := [1]) (by kernel_rfl) (by simp) ?_
    refine AllReadyH.cons (o := { dst := some 24, op := Go.Op.call { callee := Go.Callee.value (Go.Operand.func 68), args := #[Go.Operand.tmp 23], argTypes := #[24] }, type := 24, pos := "l15_stock.go:154", after := #[{ on := 0, ground := Go.Ground.data }], guard := none }) rfl (fun K hK => ?_) (AllReadyH.nil)
    go_simp
    refine (copyS_any a len cap c _ h (HR.out.below TD.out.1)).mono ?_
    rintro e w3 ⟨v3, rfl, o3, b3⟩
    obtain ⟨ad3, cp3, rfl, hcp3, _⟩ := ownCE6_of o3
    have T3 : Hid (Below w.heap.size w w3 ∧ CB w3 w.heap.size #[.string x.item, .string x.place, .string x.lot, .int .i64 x.exp, .int .i64 x.qty, .int .i64 x.hld] 28 ∧ w3.ownsRow (w.heap.size + 1) 28 6 (.slice ad3 len cp3) len (rowCE6 c len)) := hid ⟨bel_on TD.out.1 b3, TD.out.2.below b3 TD.out.2.lt, row_lower o3 TD.out.2.lt⟩
    clear o3 b3
    first | refine hK.out _ _ (by exact ⟨T3.out.2.1.cell 0, T3.out.2.1.cell 1, T3.out.2.1.cell 2, T3.out.2.1.cell 3, T3.out.2.1.cell 4, T3.out.2.1.cell 5⟩) (fun hHeld => ?_) | (go_wp2_with fail; refine hK.out _ _ (by exact ⟨T3.out.2.1.cell 0, T3.out.2.1.cell 1, T3.out.2.1.cell 2, T3.out.2.1.cell 3, T3.out.2.1.cell 4, T3.out.2.1.cell 5⟩) (fun hHeld => ?_))
    clear hK K
    try simp only [Act.put, List.setIfInBounds_toArray, List.set_cons_zero, List.set_cons_succ]
    refine wpAnyH_ready (rs := [3]) (by kernel_rfl) (by simp) ?_
    refine AllReadyH.cons (o := { dst := some 26, op := Go.Op.call { callee := Go.Callee.value (Go.Operand.func 69), args := #[Go.Operand.tmp 24, Go.Operand.tmp 25], argTypes := #[24, 28] }, type := 96, pos := "l15_stock.go:154", after := #[{ on := 1, ground := Go.Ground.data }, { on := 2, ground := Go.Ground.data }, { on := 1, ground := Go.Ground.chain }], guard := none }) rfl (fun K hK => ?_) (AllReadyH.nil)
    go_simp
    refine (add_any len cp3 (w.heap.size + 1) ad3 c x _ hn100 hcp3 HCN.out HQ.out T3.out.2.2 T3.out.2.1.lt).mono ?_
    rintro e w4 ⟨ad4, n4, cp4, rfl, r4, b4⟩
    rw [HBT.out]
    have T4 : Hid (Below w.heap.size w w4 ∧ (brT len c x = 0 → n4 = brN len c x ∧ OwnCE6 w4 w.heap.size ad4 n4 (brC len c x))) := hid ⟨T3.out.1.trans (b4.mono (by omega)), fun h0 => ⟨(r4 h0).1, (r4 h0).2.mono (by omega)⟩⟩
    have TX : Hid (CB w4 w.heap.size #[.string x.item, .string x.place, .string x.lot, .int .i64 x.exp, .int .i64 x.qty, .int .i64 x.hld] 28) := hid (T3.out.2.1.below b4 (by omega))
    clear r4 b4
    first | refine hK.out _ _ (by exact ⟨TX.out.cell 0, TX.out.cell 1, TX.out.cell 2, TX.out.cell 3, TX.out.cell 4, TX.out.cell 5⟩) (fun hHeld => ?_) | (go_wp2_with fail; refine hK.out _ _ (by exact ⟨TX.out.cell 0, TX.out.cell 1, TX.out.cell 2, TX.out.cell 3, TX.out.cell 4, TX.out.cell 5⟩) (fun hHeld => ?_))
    clear hK K
    try simp only [Act.put, List.setIfInBounds_toArray, List.set_cons_zero, List.set_cons_succ]
    refine wpAnyH_take (i := 4) (oi := { dst := some 22, op := Go.Op.move (Go.Operand.tmp 26), type := 96, pos := "l15_stock.go:154", after := #[{ on := 3, ground := Go.Ground.data }], guard := none }) (v := ?_) rfl (by kernel_rfl) (by kernel_rfl) (by kernel_rfl) (fun _ _ _ h => h) (Or.inl ⟨by rfl, ?_⟩) (by assumption) ?_
    rotate_left
    · (intro w hSw; (try dsimp only at hSw); go_simp <;> try with_reducible rfl)
    try simp only [Act.put, List.setIfInBounds_toArray, List.set_cons_zero, List.set_cons_succ]
    refine wpAnyH_take (i := 5) (oi := { dst := some 27, op := Go.Op.extract (Go.Operand.tmp 22) 0, type := 24, pos := "l15_stock.go:154", after := #[{ on := 4, ground := Go.Ground.data }], guard := none }) (v := ?_) rfl (by kernel_rfl) (by kernel_rfl) (by kernel_rfl) (fun _ _ _ h => h) (Or.inl ⟨by rfl, ?_⟩) (by assumption) ?_
    rotate_left
    · (intro w hSw; (try dsimp only at hSw); go_simp <;> try with_reducible rfl)
    try simp only [Act.put, List.setIfInBounds_toArray, List.set_cons_zero, List.set_cons_succ]
    refine wpAnyH_take (i := 6) (oi := { dst := some 28, op := Go.Op.extract (Go.Operand.tmp 22) 1, type := 4, pos := "l15_stock.go:154", after := #[{ on := 4, ground := Go.Ground.data }, { on := 7, ground := Go.Ground.gcOnly Go.Departure.lateStores }], guard := none }) (v := ?_) rfl (by kernel_rfl) (by kernel_rfl) (by kernel_rfl) (fun _ _ _ h => h) (Or.inl ⟨by rfl, ?_⟩) (by assumption) ?_
    rotate_left
    · (intro w hSw; (try dsimp only at hSw); go_simp <;> try with_reducible rfl)
    try simp only [Act.put, List.setIfInBounds_toArray, List.set_cons_zero, List.set_cons_succ]
    refine wpAnyH_take (i := 7) (oi := { dst := some 6, op := Go.Op.assign (Go.Operand.tmp 27), type := 24, pos := "l15_stock.go:154", after := #[{ on := 5, ground := Go.Ground.data }, { on := 3, ground := Go.Ground.chain }, { on := 0, ground := Go.Ground.phase }, { on := 1, ground := Go.Ground.phase }, { on := 2, ground := Go.Ground.phase }, { on := 3, ground := Go.Ground.phase }, { on := 4, ground := Go.Ground.phase }, { on := 5, ground := Go.Ground.phase }, { on := 6, ground := Go.Ground.textOnly Go.Departure.lateStores }], guard := none }) (v := ?_) rfl (by kernel_rfl) (by kernel_rfl) (by kernel_rfl) (fun _ _ _ h => h) (Or.inl ⟨by rfl, ?_⟩) (by assumption) ?_
    rotate_left
    · (intro w hSw; (try dsimp only at hSw); go_simp <;> try with_reducible rfl)
    try simp only [Act.put, List.setIfInBounds_toArray, List.set_cons_zero, List.set_cons_succ]
    refine wpAnyH_take (i := 8) (oi := { dst := some 7, op := Go.Op.assign (Go.Operand.tmp 28), type := 4, pos := "l15_stock.go:154", after := #[{ on := 6, ground := Go.Ground.data }, { on := 7, ground := Go.Ground.chain }, { on := 0, ground := Go.Ground.phase }, { on := 1, ground := Go.Ground.phase }, { on := 2, ground := Go.Ground.phase }, { on := 3, ground := Go.Ground.phase }, { on := 4, ground := Go.Ground.phase }, { on := 5, ground := Go.Ground.phase }, { on := 6, ground := Go.Ground.phase }, { on := 7, ground := Go.Ground.phase }], guard := none }) (v := ?_) rfl (by kernel_rfl) (by kernel_rfl) (by kernel_rfl) (fun _ _ _ h => h) (Or.inl ⟨by rfl, ?_⟩) (by assumption) ?_
    rotate_left
    · (intro w hSw; (try dsimp only at hSw); go_simp <;> try with_reducible rfl)
    try simp only [Act.put, List.setIfInBounds_toArray, List.set_cons_zero, List.set_cons_succ]
    refine wpAnyH_done (by kernel_rfl) ?_ _
    refine NoPanic.normal ?_
    clear hHeld
    go_wp2_with (go_at_call 68; refine (copyS_any a len cap c _ h (HR.out.below T4.out.1)).mono ?_; rintro e w5 ⟨v5, rfl, o5, b5⟩; obtain ⟨ad5, cp5, rfl, hcp5, o5⟩ := ownCE6_of o5; have HO5 := hid (o5.mono (l := w.heap.size) T4.out.1.size); have HB5 := hid (bel_on T4.out.1 b5); clear o5 b5)
    go_returns
    rw [HMv.out.1, HT.out, (HMv.out.2.2 (by rw [HT.out]; exact HB0.out)).1, (HMv.out.2.2 (by rw [HT.out]; exact HB0.out)).2, HB4.out]
    first | exact ⟨_, _, rfl, HO5.out, HB5.out⟩ | exact ⟨_, ⟨_, rfl⟩, HO5.out, HB5.out⟩
end Go.Proofs.Ytpmnnfjabppahaa
