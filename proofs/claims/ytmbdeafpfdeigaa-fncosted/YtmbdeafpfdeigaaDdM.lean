/- Draws of making: the items. -/
import Derived.Test.YtmbdeafpfdeigaaJ2
import Derived.Deep.RegionHeldLaw
import Derived.BigRegion
namespace Go.Proofs.Ytmbdeafpfdeigaa
open Go Go.ChangeShapes Go.WideShapes Go.ChangeAt Go.RowKit
set_option linter.unusedVariables false
set_option linter.unusedSimpArgs false

set_option maxRecDepth 20000 in
theorem infoIT : ∃ i, Try.prog.info? 31 = some i ∧ i.zero = some (.agg #[.string ByteArray.empty, .int .i64 0, .bool false, .slice none 0 0, .slice none 0 0]) ∧ i.size = 5 ∧ i.bytes = 80 := by
  obtain ⟨i0, hi⟩ : ∃ i, Try.prog.info? 31 = some i := ⟨_, rfl⟩
  have hz0 : i0.zero = some (.agg #[.string ByteArray.empty, .int .i64 0, .bool false, .slice none 0 0, .slice none 0 0]) := by
    have : (Try.prog.info? 31).bind (·.zero) = some (.agg #[.string ByteArray.empty, .int .i64 0, .bool false, .slice none 0 0, .slice none 0 0]) := by kernel_rfl
    rw [hi] at this; exact this
  have hz1 : i0.size = 5 := by
    have : (Try.prog.info? 31).map (·.size) = some 5 := by kernel_rfl
    rw [hi] at this; simpa using this
  have hz2 : i0.bytes = 80 := by
    have : (Try.prog.info? 31).map (·.bytes) = some 80 := by kernel_rfl
    rw [hi] at this; simpa using this
  exact ⟨i0, hi, hz0, hz1, hz2⟩
def DiP (b : Nat) (q : Int) (w : World) (e : Ending) (w' : World) : Prop := ∃ (v : Value) (n : Nat) (c : Nat → IV), e = .returned v ∧ 2 ≤ n ∧ (n : Int) ≤ q + 1 ∧ OX b w v n c w'
theorem DiP.of {b : Nat} {q : Int} {w w' : World} {v : Value} {n : Nat} {c : Nat → IV} (h : OX b w v n c w') (h1 : 2 ≤ n ∧ (n : Int) ≤ q + 1) : DiP b q w (.returned v) w' := ⟨v, n, c, rfl, h1.1, h1.2, h⟩
theorem Moved.drewN {b : Nat} {a c : World} (h : Moved b a c) (q : Nat) : Moved b a (c.drewN q) := ⟨h.1, h.2.drewN q⟩
set_option maxRecDepth 20000 in
set_option maxHeartbeats 8000000 in
theorem drawItems_any (b : Nat) (q : Int) (w : World) (hc : Cursor w b) (hq0 : 1 ≤ q) (hq1 : q ≤ 50) :
    Calls Try.prog 54 #[.pointer (some ⟨b, 0, none⟩), .int .i64 q] w (DiP b q w) := by
  have HC : Hid (Cursor w b) := hc
  have hlo : b < w.heap.size := hc.lt
  obtain ⟨i4, hi4, hz40, hz41, hz42⟩ := infoPA6
  obtain ⟨i5, hi5, hz50, hz51, hz52⟩ := infoIT
  clear hc
  go_enter Try.func54, Try.ntmps54
  go_wp2_with (go_at_call 60; refine (below_any b _ _ HC.out).mono ?_; rintro e w1 ⟨x1, rfl, x1a, x1b, _, m1⟩; have HM1 : Hid (Moved b w w1) := m1; clear m1; replace x1b := x1b (by omega); have hw4 : IntKind.i64.wrap (2 + x1) = 2 + x1 := IntWalk.i64_in _ ⟨by omega, by omega⟩)
  obtain ⟨n, hn⟩ : ∃ n : Nat, 2 + x1 = (n : Int) := ⟨(2 + x1).toNat, by omega⟩
  have HN : Hid (2 ≤ n ∧ (n : Int) ≤ q + 1) := hid ⟨by omega, by omega⟩
  rw [hn]
  have hn50 : (n : Int) ≤ 60 := by omega
  clear hn hw4 x1a x1b
  have HX0 : Hid (OX b w (.slice (some ⟨w1.heap.size, 0, none⟩) 0 0) 0 (fun _ => ⟨ByteArray.empty, 0, false, .slice none 0 0, 0, fun _ => ⟨0, 0, 0, 0, 0, 0⟩, .slice none 0 0, 0, fun _ => ⟨0, 0, 0, 0, 0, 0⟩⟩) (w1.alloc (.cells #[] 31 (0, 0)))) := hid ⟨HM1.out.alloc _, ⟨rfl, .inr ⟨w1.heap.size, 0, #[], rfl, HM1.out.2.size, (CB.new #[] 31), by omega, by unfold maxLen; omega, rfl, rfl⟩⟩, fun j hj => by omega, hlo, fun i j g hi => by omega⟩
  go_loopw [6, 7] (fun v u wr => ∃ (k : Nat) (c : Nat → IV), k ≤ n ∧ u = .int .i64 (k : Int) ∧ Hid (OX b w v k c wr)) (fun _ u _ => n - (intOf u).toNat)
  case atStart => exact ⟨0, _, Nat.zero_le _, rfl, HX0⟩
  case round =>
    clear HX0 HM1
    obtain ⟨k, c, hk, rfl, HO⟩ := hrel
    obtain ⟨wo, rfl⟩ : ∃ x, x = wr := ⟨wr, rfl⟩
    by_cases hlt : k < n
    · have hlt2 : (k : Int) < (n : Int) := by omega
      have hwn : IntKind.i64.wrap ((n : Int) - 1) = (n : Int) - 1 := IntWalk.i64_in _ ⟨by omega, by omega⟩
      have hbo : b < wo.heap.size := HO.out.m.1.lt
      have tka : True := trivial
      go_wp2_with (first
        | (go_at_call 103; refine (text_any k _ (by omega)).mono ?_; rintro e w2 ⟨⟨tx, rfl, htx⟩, qq, rfl⟩; have HTX : Hid (((⟨#[105]⟩ : ByteArray) ++ tx).size ≤ 20) := hid (by rw [ByteArray.size_append]; have : (⟨#[105]⟩ : ByteArray).size = 1 := rfl; omega); have htx2 : ¬ 9223372036854775807 < 1 + tx.size := (by omega); clear htx)
        | (go_at_call 79; clear tka; refine (pick_any b _ [1, 1, 1, 5, 12] _ _ _ (((Moved.refl HO.out.m.1).drewN qq).alloc _).1 (IntRow.made (by simpa using hbo) _ _ _ rfl) rfl (by decide) (by decide)).mono ?_; rintro e w3 ⟨bt, rfl, _, m3⟩; have HM3 : Hid (Moved b wo w3) := hid ((((Moved.refl HO.out.m.1).drewN qq).alloc _).trans m3); clear m3))
      have HIX0 : Hid (IX b wo w3.heap.size ((⟨#[105]⟩ : ByteArray) ++ tx) bt false (.slice none 0 0) 0 (fun _ => ⟨0, 0, 0, 0, 0, 0⟩) (w3.alloc (.cells #[.string ((⟨#[105]⟩ : ByteArray) ++ tx), .int .i64 bt, .bool false, .slice none 0 0, .slice none 0 0] 31 (0, 0)))) := hid ⟨HM3.out.alloc _, CB.new _ _, ⟨rfl, .inl ⟨rfl, rfl⟩⟩, hbo, HM3.out.2.size⟩
      have HOT : Hid (∀ W, Moved b wo W → OX b w u6 k c W) := hid (fun W m => HO.out.turn m)
      have HOLD : Hid (∀ j g, j < k → ((c j).pv.ownBlock = some g ∨ (c j).sv.ownBlock = some g) → g < wo.heap.size) := hid (fun j g hj hg => by rcases hg with hg | hg; (exact ((HO.out.r j hj).p.lt g hg).2); (exact ((HO.out.r j hj).s.lt g hg).2))
      have HWO : Hid (w.heap.size ≤ wo.heap.size) := HO.out.m.2.size
      clear HM3 HO
      generalize (⟨#[105]⟩ : ByteArray) ++ tx = nm at HTX HIX0 ⊢
      generalize (w3.alloc (.cells #[.string nm, .int .i64 bt, .bool false, .slice none 0 0, .slice none 0 0] 31 (0, 0))) = W4 at HIX0 ⊢
      generalize w3.heap.size = xb at HIX0 ⊢
      go_wp2_with (go_at_call 60; refine (below_any b _ _ HIX0.out.m.1).mono ?_; rintro e w5 ⟨x5, rfl, x5a, x5b, _, m5⟩; replace x5b := x5b (by omega); have HIX1 := hid (HIX0.out.turn m5); clear m5)
      obtain ⟨r0, hr0⟩ : ∃ r : Nat, x5 = (r : Int) := ⟨x5.toNat, by omega⟩
      have hr3 : r0 ≤ 3 := by omega
      subst hr0
      clear HIX0 x5a x5b
      go_loopw [9] (fun u wr => ∃ (r : Nat), r ≤ 3 ∧ u = .int .i64 (r : Int) ∧ Hid (∃ (pv : Value) (pn : Nat) (pz : Nat → PA6), pn + r ≤ 3 ∧ IX b wo xb nm bt false pv pn pz wr)) (fun u _ => (intOf u).toNat)
      case atStart => exact ⟨r0, hr3, rfl, hid ⟨_, 0, _, by omega, HIX1.out⟩⟩
      case round =>
        clear HIX1
        obtain ⟨r, hr, rfl, HH⟩ := hrel
        obtain ⟨wi, rfl⟩ : ∃ x, x = wr := ⟨wr, rfl⟩
        obtain ⟨pv, pn, pz, hpr, T0⟩ := HH.out
        have T : Hid (IX b wo xb nm bt false pv pn pz wi) := T0
        clear T0 HH
        by_cases hgo : 0 < r ∧ k < n - 1
        · obtain ⟨hg1, hg2⟩ := hgo
          have d1 : decide ((0 : Int) < (r : Int)) = true := decide_eq_true (by omega)
          have d2 : decide ((k : Int) < (n : Int) - 1) = true := decide_eq_true (by omega)
          have e1 : (0 : Int) < (r : Int) := by omega
          have e2 : (k : Int) < (n : Int) - 1 := by omega
          go_wp2
          have TD := hid T.out.drew
          refine wp_region_noPanic ?_
          refine wp_region_held_drew (S := fun _ => True) (by kernel_rfl) (by exact trivial) (fun hHeld => ?_)
          generalize hVD : wi.drew = VD at TD hHeld ⊢
          clear hVD
          refine wpAnyH_take (i := 0) (oi := { dst := some 40, op := Go.Op.fieldAddr 31 (Go.Operand.tmp 8) 3, type := 0, pos := "l17_make.go:213", after := #[], guard := none }) (v := ?_) rfl (by kernel_rfl) (by kernel_rfl) (by kernel_rfl) (fun _ _ _ h => h) (Or.inl ⟨by rfl, ?_⟩) (by assumption) ?_
          rotate_left
          · (intro w hSw; (try dsimp only at hSw); go_simp <;> try with_reducible rfl)
          try simp only [Act.put, List.setIfInBounds_toArray, List.set_cons_zero, List.set_cons_succ]
          refine wpAnyH_take (i := 2) (oi := { dst := some 42, op := Go.Op.move (Go.Operand.tmp 0), type := 70, pos := "l17_make.go:213", after := #[], guard := none }) (v := ?_) rfl (by kernel_rfl) (by kernel_rfl) (by kernel_rfl) (fun _ _ _ h => h) (Or.inl ⟨by rfl, ?_⟩) (by assumption) ?_
          rotate_left
          · (intro w hSw; (try dsimp only at hSw); go_simp <;> try with_reducible rfl)
          try simp only [Act.put, List.setIfInBounds_toArray, List.set_cons_zero, List.set_cons_succ]
          refine wpAnyH_take (i := 3) (oi := { dst := some 43, op := Go.Op.move (Go.Operand.tmp 7), type := 3, pos := "l17_make.go:213", after := #[], guard := none }) (v := ?_) rfl (by kernel_rfl) (by kernel_rfl) (by kernel_rfl) (fun _ _ _ h => h) (Or.inl ⟨by rfl, ?_⟩) (by assumption) ?_
          rotate_left
          · (intro w hSw; (try dsimp only at hSw); go_simp <;> try with_reducible rfl)
          try simp only [Act.put, List.setIfInBounds_toArray, List.set_cons_zero, List.set_cons_succ]
          refine wpAnyH_take (i := 4) (oi := { dst := some 44, op := Go.Op.move (Go.Operand.tmp 5), type := 3, pos := "l17_make.go:213", after := #[], guard := none }) (v := ?_) rfl (by kernel_rfl) (by kernel_rfl) (by kernel_rfl) (fun _ _ _ h => h) (Or.inl ⟨by rfl, ?_⟩) (by assumption) ?_
          rotate_left
          · (intro w hSw; (try dsimp only at hSw); go_simp <;> try with_reducible rfl)
          try simp only [Act.put, List.setIfInBounds_toArray, List.set_cons_zero, List.set_cons_succ]
          refine wpAnyH_ready (rs := [1, 5]) (by kernel_rfl) (by simp) ?_
          refine AllReadyH.cons (o := { dst := some 41, op := Go.Op.load 29 (Go.Operand.tmp 40), type := 29, pos := "l17_make.go:213", after := #[{ on := 0, ground := Go.Ground.data }], guard := none }) rfl (fun K hK => ?_) (AllReadyH.cons (o := { dst := some 45, op := Go.Op.call { callee := Go.Callee.value (Go.Operand.func 104), args := #[Go.Operand.tmp 42, Go.Operand.tmp 43, Go.Operand.tmp 44], argTypes := #[70, 3, 3] }, type := 28, pos := "l17_make.go:213", after := #[{ on := 2, ground := Go.Ground.data }, { on := 3, ground := Go.Ground.data }, { on := 4, ground := Go.Ground.data }], guard := none }) rfl (fun K hK => ?_) (AllReadyH.nil))
          · have y3 : VD.cell? ⟨xb, 3, none⟩ = some pv := (TD.out.x.cell 3).trans rfl
            go_simp
            refine hK.out _ _ trivial (fun hHeld => ?_)
            clear hK K y3
            try simp only [Act.put, List.setIfInBounds_toArray, List.set_cons_zero, List.set_cons_succ]
            refine wpAnyH_ready (rs := [5]) (by kernel_rfl) (by simp) ?_
            refine AllReadyH.cons (o := { dst := some 45, op := Go.Op.call { callee := Go.Callee.value (Go.Operand.func 104), args := #[Go.Operand.tmp 42, Go.Operand.tmp 43, Go.Operand.tmp 44], argTypes := #[70, 3, 3] }, type := 28, pos := "l17_make.go:213", after := #[{ on := 2, ground := Go.Ground.data }, { on := 3, ground := Go.Ground.data }, { on := 4, ground := Go.Ground.data }], guard := none }) rfl (fun K hK => ?_) (AllReadyH.nil)
            · go_simp
              refine (drawPart_any b k n VD TD.out.m.1 (by omega) (by omega)).mono ?_
              rintro e V1 ⟨⟨it, qt, sc, fs, la, gr⟩, rfl, _, m⟩
              have T2 := hid (TD.out.turn m)
              clear m
              simp only [PA6.val]
              refine hK.out _ _ trivial (fun hHeld => ?_)
              clear hK K
              try simp only [Act.put, List.setIfInBounds_toArray, List.set_cons_zero, List.set_cons_succ]
              refine wpAnyH_ready (rs := [6]) (by kernel_rfl) (by simp) ?_
              refine AllReadyH.cons (o := { dst := some 46, op := Go.Op.buildSlice 29 1 #[(0, Go.Operand.tmp 45)], type := 29, pos := "l17_make.go:213", after := #[{ on := 5, ground := Go.Ground.data }], guard := none }) rfl (fun K hK => ?_) (AllReadyH.nil)
              · go_simp
                have T4 := hid (T2.out.alloc (.cells #[.int .i64 it, .int .i64 qt, .int .i64 sc, .int .i64 fs, .int .i64 la, .int .i64 gr] 28 (0, 0)))
                have E : Hid (CB (V1.alloc (.cells #[.int .i64 it, .int .i64 qt, .int .i64 sc, .int .i64 fs, .int .i64 la, .int .i64 gr] 28 (0, 0))) V1.heap.size #[.int .i64 it, .int .i64 qt, .int .i64 sc, .int .i64 fs, .int .i64 la, .int .i64 gr] 28) := hid (CB.new _ _)
                refine hK.out _ _ trivial (fun hHeld => ?_)
                clear hK K
                try simp only [Act.put, List.setIfInBounds_toArray, List.set_cons_zero, List.set_cons_succ]
                generalize (V1.alloc (.cells #[.int .i64 it, .int .i64 qt, .int .i64 sc, .int .i64 fs, .int .i64 la, .int .i64 gr] 28 (0, 0))) = V3 at T4 E ⊢
                generalize V1.heap.size = eb at E ⊢
                refine wpAnyH_ready (rs := [7]) (by kernel_rfl) (by simp) ?_
                refine AllReadyH.cons (o := { dst := some 47, op := Go.Op.call { callee := Go.Callee.builtin Go.Builtin.append, args := #[Go.Operand.tmp 41, Go.Operand.tmp 46], argTypes := #[29, 29] }, type := 29, pos := "l17_make.go:213", after := #[{ on := 1, ground := Go.Ground.data }, { on := 6, ground := Go.Ground.data }, { on := 5, ground := Go.Ground.chain }], guard := none }) rfl (fun K hK => ?_) (AllReadyH.nil)
                · rw [if_pos (by rfl)]
                  refine oper_append (Operand.tmp 41) (Operand.tmp 46) 29 rfl wo.heap.size 28 i4 (.agg #[.int .i64 0, .int .i64 0, .int .i64 0, .int .i64 0, .int .i64 0, .int .i64 0]) 6 48 Try.underlying29 hi4 hz40 hz41 hz42 rfl (by decide) pv pn (rowPA6 pz pn) rfl T4.out.p ⟨eb, 0, none⟩ 1 1 [.int .i64 it, .int .i64 qt, .int .i64 sc, .int .i64 fs, .int .i64 la, .int .i64 gr] rfl rfl (cb_src E.out) (fun u hu => by simp at hu; rcases hu with rfl | rfl | rfl | rfl | rfl | rfl <;> rfl) (by unfold maxLen; omega) (by omega) T4.out.m.2.size ?_
                  intro v7 V5 hown hgr _
                  obtain ⟨g7, c7, rfl, _⟩ := ownsRow_some hown (by omega)
                  have TA := hid (T4.out.add (x := ⟨it, qt, sc, fs, la, gr⟩) hown hgr)
                  have Y := hid (T4.out.box hgr)
                  clear hown hgr
                  refine hK.out _ _ trivial (fun hHeld => ?_)
                  clear hK K
                  try simp only [Act.put, List.setIfInBounds_toArray, List.set_cons_zero, List.set_cons_succ]
                  have y3 : V5.cell? ⟨xb, 3, none⟩ = some pv := (Y.out.cell 3).trans rfl
                  have f3 := Y.out.fr 3
                  refine wpAnyH_take (i := 8) (oi := { dst := some 48, op := Go.Op.fieldAddr 31 (Go.Operand.tmp 8) 3, type := 0, pos := "l17_make.go:213", after := #[{ on := 0, ground := Go.Ground.phase }, { on := 1, ground := Go.Ground.phase }, { on := 2, ground := Go.Ground.phase }, { on := 3, ground := Go.Ground.phase }, { on := 4, ground := Go.Ground.phase }, { on := 5, ground := Go.Ground.phase }, { on := 6, ground := Go.Ground.phase }, { on := 7, ground := Go.Ground.phase }], guard := none }) (v := ?_) rfl (by kernel_rfl) (by kernel_rfl) (by kernel_rfl) (fun _ _ _ h => h) (Or.inl ⟨by rfl, ?_⟩) (by assumption) ?_
                  rotate_left
                  · (intro w hSw; (try dsimp only at hSw); go_simp <;> try with_reducible rfl)
                  try simp only [Act.put, List.setIfInBounds_toArray, List.set_cons_zero, List.set_cons_succ]
                  refine wpAnyH_ready (rs := [9]) (by kernel_rfl) (by simp) ?_
                  refine AllReadyH.cons (o := { dst := none, op := Go.Op.store 29 (Go.Operand.tmp 48) (Go.Operand.tmp 47), type := 0, pos := "l17_make.go:213", after := #[{ on := 8, ground := Go.Ground.data }, { on := 7, ground := Go.Ground.data }, { on := 7, ground := Go.Ground.chain }, { on := 0, ground := Go.Ground.phase }, { on := 1, ground := Go.Ground.phase }, { on := 2, ground := Go.Ground.phase }, { on := 3, ground := Go.Ground.phase }, { on := 4, ground := Go.Ground.phase }, { on := 5, ground := Go.Ground.phase }, { on := 6, ground := Go.Ground.phase }, { on := 7, ground := Go.Ground.phase }], guard := none }) rfl (fun K hK => ?_) (AllReadyH.nil)
                  go_simp
                  refine hK.out _ _ trivial (fun hHeld => ?_)
                  clear hK K y3 f3
                  try simp only [Act.put, List.setIfInBounds_toArray, List.set_cons_zero, List.set_cons_succ]
                  refine wpAnyH_done (by kernel_rfl) ?_ _
                  refine NoPanic.normal ?_
                  clear hHeld Y
                  generalize V5.setCell ⟨xb, 3, none⟩ (.slice (some ⟨g7, 0, none⟩) (pn + 1) c7) = VF at TA ⊢
                  go_wp2
                  go_roundw
                  case rel => exact ⟨r - 1, by omega, by go_num, hid ⟨_, _, _, by omega, TA.out⟩⟩
                  case measure => simp [intOf]; omega
          · go_simp
            refine (drawPart_any b k n VD TD.out.m.1 (by omega) (by omega)).mono ?_
            rintro e V6 ⟨⟨it, qt, sc, fs, la, gr⟩, rfl, _, m⟩
            have T7 := hid (TD.out.turn m)
            clear m
            simp only [PA6.val]
            refine hK.out _ _ trivial (fun hHeld => ?_)
            clear hK K
            try simp only [Act.put, List.setIfInBounds_toArray, List.set_cons_zero, List.set_cons_succ]
            refine wpAnyH_ready (rs := [1, 6]) (by kernel_rfl) (by simp) ?_
            refine AllReadyH.cons (o := { dst := some 41, op := Go.Op.load 29 (Go.Operand.tmp 40), type := 29, pos := "l17_make.go:213", after := #[{ on := 0, ground := Go.Ground.data }], guard := none }) rfl (fun K hK => ?_) (AllReadyH.cons (o := { dst := some 46, op := Go.Op.buildSlice 29 1 #[(0, Go.Operand.tmp 45)], type := 29, pos := "l17_make.go:213", after := #[{ on := 5, ground := Go.Ground.data }], guard := none }) rfl (fun K hK => ?_) (AllReadyH.nil))
            · have y3 : V6.cell? ⟨xb, 3, none⟩ = some pv := (T7.out.x.cell 3).trans rfl
              go_simp
              refine hK.out _ _ trivial (fun hHeld => ?_)
              clear hK K y3
              try simp only [Act.put, List.setIfInBounds_toArray, List.set_cons_zero, List.set_cons_succ]
              refine wpAnyH_ready (rs := [6]) (by kernel_rfl) (by simp) ?_
              refine AllReadyH.cons (o := { dst := some 46, op := Go.Op.buildSlice 29 1 #[(0, Go.Operand.tmp 45)], type := 29, pos := "l17_make.go:213", after := #[{ on := 5, ground := Go.Ground.data }], guard := none }) rfl (fun K hK => ?_) (AllReadyH.nil)
              · go_simp
                have T9 := hid (T7.out.alloc (.cells #[.int .i64 it, .int .i64 qt, .int .i64 sc, .int .i64 fs, .int .i64 la, .int .i64 gr] 28 (0, 0)))
                have E : Hid (CB (V6.alloc (.cells #[.int .i64 it, .int .i64 qt, .int .i64 sc, .int .i64 fs, .int .i64 la, .int .i64 gr] 28 (0, 0))) V6.heap.size #[.int .i64 it, .int .i64 qt, .int .i64 sc, .int .i64 fs, .int .i64 la, .int .i64 gr] 28) := hid (CB.new _ _)
                refine hK.out _ _ trivial (fun hHeld => ?_)
                clear hK K
                try simp only [Act.put, List.setIfInBounds_toArray, List.set_cons_zero, List.set_cons_succ]
                generalize (V6.alloc (.cells #[.int .i64 it, .int .i64 qt, .int .i64 sc, .int .i64 fs, .int .i64 la, .int .i64 gr] 28 (0, 0))) = V8 at T9 E ⊢
                generalize V6.heap.size = eb at E ⊢
                refine wpAnyH_ready (rs := [7]) (by kernel_rfl) (by simp) ?_
                refine AllReadyH.cons (o := { dst := some 47, op := Go.Op.call { callee := Go.Callee.builtin Go.Builtin.append, args := #[Go.Operand.tmp 41, Go.Operand.tmp 46], argTypes := #[29, 29] }, type := 29, pos := "l17_make.go:213", after := #[{ on := 1, ground := Go.Ground.data }, { on := 6, ground := Go.Ground.data }, { on := 5, ground := Go.Ground.chain }], guard := none }) rfl (fun K hK => ?_) (AllReadyH.nil)
                · rw [if_pos (by rfl)]
                  refine oper_append (Operand.tmp 41) (Operand.tmp 46) 29 rfl wo.heap.size 28 i4 (.agg #[.int .i64 0, .int .i64 0, .int .i64 0, .int .i64 0, .int .i64 0, .int .i64 0]) 6 48 Try.underlying29 hi4 hz40 hz41 hz42 rfl (by decide) pv pn (rowPA6 pz pn) rfl T9.out.p ⟨eb, 0, none⟩ 1 1 [.int .i64 it, .int .i64 qt, .int .i64 sc, .int .i64 fs, .int .i64 la, .int .i64 gr] rfl rfl (cb_src E.out) (fun u hu => by simp at hu; rcases hu with rfl | rfl | rfl | rfl | rfl | rfl <;> rfl) (by unfold maxLen; omega) (by omega) T9.out.m.2.size ?_
                  intro v7 V10 hown hgr _
                  obtain ⟨g7, c7, rfl, _⟩ := ownsRow_some hown (by omega)
                  have TA := hid (T9.out.add (x := ⟨it, qt, sc, fs, la, gr⟩) hown hgr)
                  have Y := hid (T9.out.box hgr)
                  clear hown hgr
                  refine hK.out _ _ trivial (fun hHeld => ?_)
                  clear hK K
                  try simp only [Act.put, List.setIfInBounds_toArray, List.set_cons_zero, List.set_cons_succ]
                  have y3 : V10.cell? ⟨xb, 3, none⟩ = some pv := (Y.out.cell 3).trans rfl
                  have f3 := Y.out.fr 3
                  refine wpAnyH_take (i := 8) (oi := { dst := some 48, op := Go.Op.fieldAddr 31 (Go.Operand.tmp 8) 3, type := 0, pos := "l17_make.go:213", after := #[{ on := 0, ground := Go.Ground.phase }, { on := 1, ground := Go.Ground.phase }, { on := 2, ground := Go.Ground.phase }, { on := 3, ground := Go.Ground.phase }, { on := 4, ground := Go.Ground.phase }, { on := 5, ground := Go.Ground.phase }, { on := 6, ground := Go.Ground.phase }, { on := 7, ground := Go.Ground.phase }], guard := none }) (v := ?_) rfl (by kernel_rfl) (by kernel_rfl) (by kernel_rfl) (fun _ _ _ h => h) (Or.inl ⟨by rfl, ?_⟩) (by assumption) ?_
                  rotate_left
                  · (intro w hSw; (try dsimp only at hSw); go_simp <;> try with_reducible rfl)
                  try simp only [Act.put, List.setIfInBounds_toArray, List.set_cons_zero, List.set_cons_succ]
                  refine wpAnyH_ready (rs := [9]) (by kernel_rfl) (by simp) ?_
                  refine AllReadyH.cons (o := { dst := none, op := Go.Op.store 29 (Go.Operand.tmp 48) (Go.Operand.tmp 47), type := 0, pos := "l17_make.go:213", after := #[{ on := 8, ground := Go.Ground.data }, { on := 7, ground := Go.Ground.data }, { on := 7, ground := Go.Ground.chain }, { on := 0, ground := Go.Ground.phase }, { on := 1, ground := Go.Ground.phase }, { on := 2, ground := Go.Ground.phase }, { on := 3, ground := Go.Ground.phase }, { on := 4, ground := Go.Ground.phase }, { on := 5, ground := Go.Ground.phase }, { on := 6, ground := Go.Ground.phase }, { on := 7, ground := Go.Ground.phase }], guard := none }) rfl (fun K hK => ?_) (AllReadyH.nil)
                  go_simp
                  refine hK.out _ _ trivial (fun hHeld => ?_)
                  clear hK K y3 f3
                  try simp only [Act.put, List.setIfInBounds_toArray, List.set_cons_zero, List.set_cons_succ]
                  refine wpAnyH_done (by kernel_rfl) ?_ _
                  refine NoPanic.normal ?_
                  clear hHeld Y
                  generalize V10.setCell ⟨xb, 3, none⟩ (.slice (some ⟨g7, 0, none⟩) (pn + 1) c7) = VF at TA ⊢
                  go_wp2
                  go_roundw
                  case rel => exact ⟨r - 1, by omega, by go_num, hid ⟨_, _, _, by omega, TA.out⟩⟩
                  case measure => simp [intOf]; omega
            · go_simp
              have T12 := hid (T7.out.alloc (.cells #[.int .i64 it, .int .i64 qt, .int .i64 sc, .int .i64 fs, .int .i64 la, .int .i64 gr] 28 (0, 0)))
              have E : Hid (CB (V6.alloc (.cells #[.int .i64 it, .int .i64 qt, .int .i64 sc, .int .i64 fs, .int .i64 la, .int .i64 gr] 28 (0, 0))) V6.heap.size #[.int .i64 it, .int .i64 qt, .int .i64 sc, .int .i64 fs, .int .i64 la, .int .i64 gr] 28) := hid (CB.new _ _)
              refine hK.out _ _ trivial (fun hHeld => ?_)
              clear hK K
              try simp only [Act.put, List.setIfInBounds_toArray, List.set_cons_zero, List.set_cons_succ]
              generalize (V6.alloc (.cells #[.int .i64 it, .int .i64 qt, .int .i64 sc, .int .i64 fs, .int .i64 la, .int .i64 gr] 28 (0, 0))) = V11 at T12 E ⊢
              generalize V6.heap.size = eb at E ⊢
              refine wpAnyH_ready (rs := [1]) (by kernel_rfl) (by simp) ?_
              refine AllReadyH.cons (o := { dst := some 41, op := Go.Op.load 29 (Go.Operand.tmp 40), type := 29, pos := "l17_make.go:213", after := #[{ on := 0, ground := Go.Ground.data }], guard := none }) rfl (fun K hK => ?_) (AllReadyH.nil)
              · have y3 : V11.cell? ⟨xb, 3, none⟩ = some pv := (T12.out.x.cell 3).trans rfl
                go_simp
                refine hK.out _ _ trivial (fun hHeld => ?_)
                clear hK K y3
                try simp only [Act.put, List.setIfInBounds_toArray, List.set_cons_zero, List.set_cons_succ]
                refine wpAnyH_ready (rs := [7]) (by kernel_rfl) (by simp) ?_
                refine AllReadyH.cons (o := { dst := some 47, op := Go.Op.call { callee := Go.Callee.builtin Go.Builtin.append, args := #[Go.Operand.tmp 41, Go.Operand.tmp 46], argTypes := #[29, 29] }, type := 29, pos := "l17_make.go:213", after := #[{ on := 1, ground := Go.Ground.data }, { on := 6, ground := Go.Ground.data }, { on := 5, ground := Go.Ground.chain }], guard := none }) rfl (fun K hK => ?_) (AllReadyH.nil)
                · rw [if_pos (by rfl)]
                  refine oper_append (Operand.tmp 41) (Operand.tmp 46) 29 rfl wo.heap.size 28 i4 (.agg #[.int .i64 0, .int .i64 0, .int .i64 0, .int .i64 0, .int .i64 0, .int .i64 0]) 6 48 Try.underlying29 hi4 hz40 hz41 hz42 rfl (by decide) pv pn (rowPA6 pz pn) rfl T12.out.p ⟨eb, 0, none⟩ 1 1 [.int .i64 it, .int .i64 qt, .int .i64 sc, .int .i64 fs, .int .i64 la, .int .i64 gr] rfl rfl (cb_src E.out) (fun u hu => by simp at hu; rcases hu with rfl | rfl | rfl | rfl | rfl | rfl <;> rfl) (by unfold maxLen; omega) (by omega) T12.out.m.2.size ?_
                  intro v7 V13 hown hgr _
                  obtain ⟨g7, c7, rfl, _⟩ := ownsRow_some hown (by omega)
                  have TA := hid (T12.out.add (x := ⟨it, qt, sc, fs, la, gr⟩) hown hgr)
                  have Y := hid (T12.out.box hgr)
                  clear hown hgr
                  refine hK.out _ _ trivial (fun hHeld => ?_)
                  clear hK K
                  try simp only [Act.put, List.setIfInBounds_toArray, List.set_cons_zero, List.set_cons_succ]
                  have y3 : V13.cell? ⟨xb, 3, none⟩ = some pv := (Y.out.cell 3).trans rfl
                  have f3 := Y.out.fr 3
                  refine wpAnyH_take (i := 8) (oi := { dst := some 48, op := Go.Op.fieldAddr 31 (Go.Operand.tmp 8) 3, type := 0, pos := "l17_make.go:213", after := #[{ on := 0, ground := Go.Ground.phase }, { on := 1, ground := Go.Ground.phase }, { on := 2, ground := Go.Ground.phase }, { on := 3, ground := Go.Ground.phase }, { on := 4, ground := Go.Ground.phase }, { on := 5, ground := Go.Ground.phase }, { on := 6, ground := Go.Ground.phase }, { on := 7, ground := Go.Ground.phase }], guard := none }) (v := ?_) rfl (by kernel_rfl) (by kernel_rfl) (by kernel_rfl) (fun _ _ _ h => h) (Or.inl ⟨by rfl, ?_⟩) (by assumption) ?_
                  rotate_left
                  · (intro w hSw; (try dsimp only at hSw); go_simp <;> try with_reducible rfl)
                  try simp only [Act.put, List.setIfInBounds_toArray, List.set_cons_zero, List.set_cons_succ]
                  refine wpAnyH_ready (rs := [9]) (by kernel_rfl) (by simp) ?_
                  refine AllReadyH.cons (o := { dst := none, op := Go.Op.store 29 (Go.Operand.tmp 48) (Go.Operand.tmp 47), type := 0, pos := "l17_make.go:213", after := #[{ on := 8, ground := Go.Ground.data }, { on := 7, ground := Go.Ground.data }, { on := 7, ground := Go.Ground.chain }, { on := 0, ground := Go.Ground.phase }, { on := 1, ground := Go.Ground.phase }, { on := 2, ground := Go.Ground.phase }, { on := 3, ground := Go.Ground.phase }, { on := 4, ground := Go.Ground.phase }, { on := 5, ground := Go.Ground.phase }, { on := 6, ground := Go.Ground.phase }, { on := 7, ground := Go.Ground.phase }], guard := none }) rfl (fun K hK => ?_) (AllReadyH.nil)
                  go_simp
                  refine hK.out _ _ trivial (fun hHeld => ?_)
                  clear hK K y3 f3
                  try simp only [Act.put, List.setIfInBounds_toArray, List.set_cons_zero, List.set_cons_succ]
                  refine wpAnyH_done (by kernel_rfl) ?_ _
                  refine NoPanic.normal ?_
                  clear hHeld Y
                  generalize V13.setCell ⟨xb, 3, none⟩ (.slice (some ⟨g7, 0, none⟩) (pn + 1) c7) = VF at TA ⊢
                  go_wp2
                  go_roundw
                  case rel => exact ⟨r - 1, by omega, by go_num, hid ⟨_, _, _, by omega, TA.out⟩⟩
                  case measure => simp [intOf]; omega
        · obtain ⟨pa, pc, rfl⟩ := own_form T.out.p
          have J : Hid (JX b wo xb ⟨nm, bt, false, .slice pa pn pc, pn, pz, .slice none 0 0, 0, fun _ => ⟨0, 0, 0, 0, 0, 0⟩⟩ wi) := hid (T.out.jx _)
          clear T
          obtain ⟨⟨c0, c1, c2, c3, c4⟩, _⟩ := J.out.cells
          by_cases hr1 : 0 < r
          · have hk1 : ¬ k < n - 1 := fun h => hgo ⟨hr1, h⟩
            have d1 : decide ((0 : Int) < (r : Int)) = true := decide_eq_true (by omega)
            have d2 : decide ((k : Int) < (n : Int) - 1) = false := decide_eq_false (by omega)
            have e1 : (0 : Int) < (r : Int) := by omega
            have e2 : ¬ (k : Int) < (n : Int) - 1 := by omega
            by_cases hp : 0 < pn
            · have d3 : decide ((0 : Int) < (pn : Int)) = true := decide_eq_true (by omega)
              have e3 : (0 : Int) < (pn : Int) := by omega
              have tkA : True := trivial
              go_wp2_with (first
                | (go_at_call 78; clear tkA; refine (once_any b _ _ J.out.m.1).mono ?_; rintro e wx ⟨vb, rfl, m⟩; replace J := hid (J.out.turn m); clear m c0 c1 c2 c3 c4; obtain ⟨⟨c0, c1, c2, c3, c4⟩, hfr⟩ := J.out.cells; have f2 := hfr 2; have f4 := hfr 4; clear hfr; cases vb)
                | (at_builtin; go_loud (refine wpList_append_own_at _ rfl _ _ 32 rfl w.heap.size 31 i5 (.agg #[.string ByteArray.empty, .int .i64 0, .bool false, .slice none 0 0, .slice none 0 0]) 5 80 Try.underlying32 hi5 hz50 hz51 hz52 rfl (by decide) u6 k (rowIV c k) rfl (HOT.out _ ((J.out.setPh true).m.alloc _)).o ⟨_, 0, none⟩ 1 1 [.string nm, .int .i64 bt, .bool true, .slice pa pn pc, .slice none 0 0] rfl rfl (ocells_at (by first | rfl | simp)) (fun u hu => by simp at hu; rcases hu with rfl | rfl | rfl | rfl | rfl <;> rfl) (by unfold maxLen; omega) (by omega) (HOT.out _ ((J.out.setPh true).m.alloc _)).m.2.size ?_; intro v9 w9 hown hgr _ _; have HOF := hid ((HOT.out _ ((J.out.setPh true).m.alloc _)).add (((J.out.setPh true).turn ((Moved.refl (J.out.setPh true).m.1).alloc _)).iw HWO.out ⟨HTX.out, by show pn ≤ 4; omega, by first | exact Nat.zero_le _ | exact Nat.le_refl _⟩) hown hgr wo.heap.size HOLD.out (fun g hg => by rcases hg with hg | hg; (exact ((J.out.setPh true).p.lt g hg).1); (exact ((J.out.setPh true).s.lt g hg).1)) (J.out.setPh true).ap); clear hown hgr)))
              · have tkE : True := trivial
                go_wp2_with (first
                  | (go_at_call 78; clear tkE; refine (once_any b _ _ J.out.m.1).mono ?_; rintro e wx ⟨vb, rfl, m⟩; replace J := hid (J.out.turn m); clear m c0 c1 c2 c3 c4; obtain ⟨⟨c0, c1, c2, c3, c4⟩, hfr⟩ := J.out.cells; have f2 := hfr 2; have f4 := hfr 4; clear hfr; cases vb)
                  | (at_builtin; go_loud (refine wpList_append_own_at _ rfl _ _ 32 rfl w.heap.size 31 i5 (.agg #[.string ByteArray.empty, .int .i64 0, .bool false, .slice none 0 0, .slice none 0 0]) 5 80 Try.underlying32 hi5 hz50 hz51 hz52 rfl (by decide) u6 k (rowIV c k) rfl (HOT.out _ (J.out.m.alloc _)).o ⟨_, 0, none⟩ 1 1 [.string nm, .int .i64 bt, .bool false, .slice pa pn pc, .slice none 0 0] rfl rfl (ocells_at (by first | rfl | simp)) (fun u hu => by simp at hu; rcases hu with rfl | rfl | rfl | rfl | rfl <;> rfl) (by unfold maxLen; omega) (by omega) (HOT.out _ (J.out.m.alloc _)).m.2.size ?_; intro v9 w9 hown hgr _ _; have HOF := hid ((HOT.out _ (J.out.m.alloc _)).add ((J.out.turn ((Moved.refl J.out.m.1).alloc _)).iw HWO.out ⟨HTX.out, by show pn ≤ 4; omega, by first | exact Nat.zero_le _ | exact Nat.le_refl _⟩) hown hgr wo.heap.size HOLD.out (fun g hg => by rcases hg with hg | hg; (exact (J.out.p.lt g hg).1); (exact (J.out.s.lt g hg).1)) J.out.ap); clear hown hgr)))
                all_goals go_roundw
                all_goals first | exact ⟨k + 1, _, by omega, by go_num, HOF⟩ | (simp [intOf]; omega)
              · all_goals go_roundw
                all_goals first | exact ⟨k + 1, _, by omega, by go_num, HOF⟩ | (simp [intOf]; omega)
            · have d3 : decide ((0 : Int) < (pn : Int)) = false := decide_eq_false (by omega)
              have e3 : ¬ (0 : Int) < (pn : Int) := by omega
              have tkE : True := trivial
              go_wp2_with (first
                | (go_at_call 78; clear tkE; refine (once_any b _ _ J.out.m.1).mono ?_; rintro e wx ⟨vb, rfl, m⟩; replace J := hid (J.out.turn m); clear m c0 c1 c2 c3 c4; obtain ⟨⟨c0, c1, c2, c3, c4⟩, hfr⟩ := J.out.cells; have f2 := hfr 2; have f4 := hfr 4; clear hfr; cases vb)
                | (at_builtin; go_loud (refine wpList_append_own_at _ rfl _ _ 32 rfl w.heap.size 31 i5 (.agg #[.string ByteArray.empty, .int .i64 0, .bool false, .slice none 0 0, .slice none 0 0]) 5 80 Try.underlying32 hi5 hz50 hz51 hz52 rfl (by decide) u6 k (rowIV c k) rfl (HOT.out _ (J.out.m.alloc _)).o ⟨_, 0, none⟩ 1 1 [.string nm, .int .i64 bt, .bool false, .slice pa pn pc, .slice none 0 0] rfl rfl (ocells_at (by first | rfl | simp)) (fun u hu => by simp at hu; rcases hu with rfl | rfl | rfl | rfl | rfl <;> rfl) (by unfold maxLen; omega) (by omega) (HOT.out _ (J.out.m.alloc _)).m.2.size ?_; intro v9 w9 hown hgr _ _; have HOF := hid ((HOT.out _ (J.out.m.alloc _)).add ((J.out.turn ((Moved.refl J.out.m.1).alloc _)).iw HWO.out ⟨HTX.out, by show pn ≤ 4; omega, by first | exact Nat.zero_le _ | exact Nat.le_refl _⟩) hown hgr wo.heap.size HOLD.out (fun g hg => by rcases hg with hg | hg; (exact (J.out.p.lt g hg).1); (exact (J.out.s.lt g hg).1)) J.out.ap); clear hown hgr)))
              all_goals go_roundw
              all_goals first | exact ⟨k + 1, _, by omega, by go_num, HOF⟩ | (simp [intOf]; omega)
          · have d1 : decide ((0 : Int) < (r : Int)) = false := decide_eq_false (by omega)
            have e1 : ¬ (0 : Int) < (r : Int) := by omega
            by_cases hk1 : k < n - 1
            · have d2 : decide ((k : Int) < (n : Int) - 1) = true := decide_eq_true (by omega)
              have e2 : (k : Int) < (n : Int) - 1 := by omega
              by_cases hp : 0 < pn
              · have d3 : decide ((0 : Int) < (pn : Int)) = true := decide_eq_true (by omega)
                have e3 : (0 : Int) < (pn : Int) := by omega
                have tkA : True := trivial
                go_wp2_with (first
                  | (go_at_call 78; clear tkA; refine (once_any b _ _ J.out.m.1).mono ?_; rintro e wx ⟨vb, rfl, m⟩; replace J := hid (J.out.turn m); clear m c0 c1 c2 c3 c4; obtain ⟨⟨c0, c1, c2, c3, c4⟩, hfr⟩ := J.out.cells; have f2 := hfr 2; have f4 := hfr 4; clear hfr; cases vb)
                  | (at_builtin; go_loud (refine wpList_append_own_at _ rfl _ _ 32 rfl w.heap.size 31 i5 (.agg #[.string ByteArray.empty, .int .i64 0, .bool false, .slice none 0 0, .slice none 0 0]) 5 80 Try.underlying32 hi5 hz50 hz51 hz52 rfl (by decide) u6 k (rowIV c k) rfl (HOT.out _ ((J.out.setPh true).m.alloc _)).o ⟨_, 0, none⟩ 1 1 [.string nm, .int .i64 bt, .bool true, .slice pa pn pc, .slice none 0 0] rfl rfl (ocells_at (by first | rfl | simp)) (fun u hu => by simp at hu; rcases hu with rfl | rfl | rfl | rfl | rfl <;> rfl) (by unfold maxLen; omega) (by omega) (HOT.out _ ((J.out.setPh true).m.alloc _)).m.2.size ?_; intro v9 w9 hown hgr _ _; have HOF := hid ((HOT.out _ ((J.out.setPh true).m.alloc _)).add (((J.out.setPh true).turn ((Moved.refl (J.out.setPh true).m.1).alloc _)).iw HWO.out ⟨HTX.out, by show pn ≤ 4; omega, by first | exact Nat.zero_le _ | exact Nat.le_refl _⟩) hown hgr wo.heap.size HOLD.out (fun g hg => by rcases hg with hg | hg; (exact ((J.out.setPh true).p.lt g hg).1); (exact ((J.out.setPh true).s.lt g hg).1)) (J.out.setPh true).ap); clear hown hgr)))
                · have tkE : True := trivial
                  go_wp2_with (first
                    | (go_at_call 78; clear tkE; refine (once_any b _ _ J.out.m.1).mono ?_; rintro e wx ⟨vb, rfl, m⟩; replace J := hid (J.out.turn m); clear m c0 c1 c2 c3 c4; obtain ⟨⟨c0, c1, c2, c3, c4⟩, hfr⟩ := J.out.cells; have f2 := hfr 2; have f4 := hfr 4; clear hfr; cases vb)
                    | (go_at_call 104; refine (drawPart_any b k n _ J.out.m.1 (by omega) (by omega)).mono ?_; rintro e wp ⟨⟨it, qt, sc, fs, la, gr⟩, rfl, _, m⟩; replace J := hid (J.out.turn m); clear m c0 c1 c2 c3 c4 f2 f4; obtain ⟨⟨c0, c1, c2, c3, c4⟩, hfr⟩ := J.out.cells; have f2 := hfr 2; have f4 := hfr 4; clear hfr; have hxl : xb < wp.heap.size := J.out.x.lt; simp only [PA6.val])
                    | (at_builtin; go_loud (refine wpList_append_own_at _ rfl _ _ 29 rfl wo.heap.size 28 i4 (.agg #[.int .i64 0, .int .i64 0, .int .i64 0, .int .i64 0, .int .i64 0, .int .i64 0]) 6 48 Try.underlying29 hi4 hz40 hz41 hz42 rfl (by decide) (.slice none 0 0) 0 [] rfl ⟨rfl, .inl ⟨rfl, rfl⟩⟩ ⟨_, 0, none⟩ 1 1 [.int .i64 it, .int .i64 qt, .int .i64 0, .int .i64 fs, .int .i64 la, .int .i64 0] rfl rfl (ocells_at (by first | rfl | simp)) (fun u hu => by simp at hu; rcases hu with rfl | rfl | rfl | rfl | rfl | rfl <;> rfl) (by unfold maxLen; omega) (by omega) ((J.out.m.alloc _).alloc _).2.size ?_; intro v7 w7 hown hgr _ hloc; obtain ⟨g7, c7, rfl, _⟩ := ownsRow_some hown (by omega); have Y := hid ((J.out.turn (((Moved.refl J.out.m.1).alloc _).alloc _)).box hgr); replace J := hid ((J.out.turn (((Moved.refl J.out.m.1).alloc _).alloc _)).also (x := ⟨it, qt, 0, fs, la, 0⟩) hown hgr hloc); have y0 : w7.cell? ⟨xb, 0, none⟩ = some (.string nm) := (Y.out.cell 0).trans rfl; have y1 : w7.cell? ⟨xb, 1, none⟩ = some (.int .i64 bt) := (Y.out.cell 1).trans rfl; have y2 : w7.cell? ⟨xb, 2, none⟩ = some (.bool false) := (Y.out.cell 2).trans rfl; have y3 : w7.cell? ⟨xb, 3, none⟩ = some (.slice pa pn pc) := (Y.out.cell 3).trans rfl; have y4 : w7.cell? ⟨xb, 4, none⟩ = some (.slice none 0 0) := (Y.out.cell 4).trans rfl; have yf := Y.out.fr 4; clear hown hgr hloc Y))
                    | (at_builtin; go_loud (refine wpList_append_own_at _ rfl _ _ 32 rfl w.heap.size 31 i5 (.agg #[.string ByteArray.empty, .int .i64 0, .bool false, .slice none 0 0, .slice none 0 0]) 5 80 Try.underlying32 hi5 hz50 hz51 hz52 rfl (by decide) u6 k (rowIV c k) rfl (HOT.out _ (J.out.m.alloc _)).o ⟨_, 0, none⟩ 1 1 [.string nm, .int .i64 bt, .bool false, .slice pa pn pc, .slice none 0 0] rfl rfl (ocells_at (by first | rfl | simp)) (fun u hu => by simp at hu; rcases hu with rfl | rfl | rfl | rfl | rfl <;> rfl) (by unfold maxLen; omega) (by omega) (HOT.out _ (J.out.m.alloc _)).m.2.size ?_; intro v9 w9 hown hgr _ _; have HOF := hid ((HOT.out _ (J.out.m.alloc _)).add ((J.out.turn ((Moved.refl J.out.m.1).alloc _)).iw HWO.out ⟨HTX.out, by show pn ≤ 4; omega, by first | exact Nat.zero_le _ | exact Nat.le_refl _⟩) hown hgr wo.heap.size HOLD.out (fun g hg => by rcases hg with hg | hg; (exact (J.out.p.lt g hg).1); (exact (J.out.s.lt g hg).1)) J.out.ap); clear hown hgr))
                    | (at_builtin; go_loud (refine wpList_append_own_at _ rfl _ _ 32 rfl w.heap.size 31 i5 (.agg #[.string ByteArray.empty, .int .i64 0, .bool false, .slice none 0 0, .slice none 0 0]) 5 80 Try.underlying32 hi5 hz50 hz51 hz52 rfl (by decide) u6 k (rowIV c k) rfl (HOT.out _ (J.out.m.alloc _)).o ⟨_, 0, none⟩ 1 1 [.string nm, .int .i64 bt, .bool false, .slice pa pn pc, .slice (some ⟨g7, 0, none⟩) (0 + 1) c7] rfl rfl (ocells_at (by first | rfl | simp)) (fun u hu => by simp at hu; rcases hu with rfl | rfl | rfl | rfl | rfl <;> rfl) (by unfold maxLen; omega) (by omega) (HOT.out _ (J.out.m.alloc _)).m.2.size ?_; intro v9 w9 hown hgr _ _; have HOF := hid ((HOT.out _ (J.out.m.alloc _)).add ((J.out.turn ((Moved.refl J.out.m.1).alloc _)).iw HWO.out ⟨HTX.out, by show pn ≤ 4; omega, by first | exact Nat.zero_le _ | exact Nat.le_refl _⟩) hown hgr wo.heap.size HOLD.out (fun g hg => by rcases hg with hg | hg; (exact (J.out.p.lt g hg).1); (exact (J.out.s.lt g hg).1)) J.out.ap); clear hown hgr)))
                  all_goals go_roundw
                  all_goals first | exact ⟨k + 1, _, by omega, by go_num, HOF⟩ | (simp [intOf]; omega)
                · all_goals go_roundw
                  all_goals first | exact ⟨k + 1, _, by omega, by go_num, HOF⟩ | (simp [intOf]; omega)
              · have d3 : decide ((0 : Int) < (pn : Int)) = false := decide_eq_false (by omega)
                have e3 : ¬ (0 : Int) < (pn : Int) := by omega
                have tkE : True := trivial
                go_wp2_with (first
                  | (go_at_call 78; clear tkE; refine (once_any b _ _ J.out.m.1).mono ?_; rintro e wx ⟨vb, rfl, m⟩; replace J := hid (J.out.turn m); clear m c0 c1 c2 c3 c4; obtain ⟨⟨c0, c1, c2, c3, c4⟩, hfr⟩ := J.out.cells; have f2 := hfr 2; have f4 := hfr 4; clear hfr; cases vb)
                  | (go_at_call 104; refine (drawPart_any b k n _ J.out.m.1 (by omega) (by omega)).mono ?_; rintro e wp ⟨⟨it, qt, sc, fs, la, gr⟩, rfl, _, m⟩; replace J := hid (J.out.turn m); clear m c0 c1 c2 c3 c4 f2 f4; obtain ⟨⟨c0, c1, c2, c3, c4⟩, hfr⟩ := J.out.cells; have f2 := hfr 2; have f4 := hfr 4; clear hfr; have hxl : xb < wp.heap.size := J.out.x.lt; simp only [PA6.val])
                  | (at_builtin; go_loud (refine wpList_append_own_at _ rfl _ _ 29 rfl wo.heap.size 28 i4 (.agg #[.int .i64 0, .int .i64 0, .int .i64 0, .int .i64 0, .int .i64 0, .int .i64 0]) 6 48 Try.underlying29 hi4 hz40 hz41 hz42 rfl (by decide) (.slice none 0 0) 0 [] rfl ⟨rfl, .inl ⟨rfl, rfl⟩⟩ ⟨_, 0, none⟩ 1 1 [.int .i64 it, .int .i64 qt, .int .i64 0, .int .i64 fs, .int .i64 la, .int .i64 0] rfl rfl (ocells_at (by first | rfl | simp)) (fun u hu => by simp at hu; rcases hu with rfl | rfl | rfl | rfl | rfl | rfl <;> rfl) (by unfold maxLen; omega) (by omega) ((J.out.m.alloc _).alloc _).2.size ?_; intro v7 w7 hown hgr _ hloc; obtain ⟨g7, c7, rfl, _⟩ := ownsRow_some hown (by omega); have Y := hid ((J.out.turn (((Moved.refl J.out.m.1).alloc _).alloc _)).box hgr); replace J := hid ((J.out.turn (((Moved.refl J.out.m.1).alloc _).alloc _)).also (x := ⟨it, qt, 0, fs, la, 0⟩) hown hgr hloc); have y0 : w7.cell? ⟨xb, 0, none⟩ = some (.string nm) := (Y.out.cell 0).trans rfl; have y1 : w7.cell? ⟨xb, 1, none⟩ = some (.int .i64 bt) := (Y.out.cell 1).trans rfl; have y2 : w7.cell? ⟨xb, 2, none⟩ = some (.bool false) := (Y.out.cell 2).trans rfl; have y3 : w7.cell? ⟨xb, 3, none⟩ = some (.slice pa pn pc) := (Y.out.cell 3).trans rfl; have y4 : w7.cell? ⟨xb, 4, none⟩ = some (.slice none 0 0) := (Y.out.cell 4).trans rfl; have yf := Y.out.fr 4; clear hown hgr hloc Y))
                  | (at_builtin; go_loud (refine wpList_append_own_at _ rfl _ _ 32 rfl w.heap.size 31 i5 (.agg #[.string ByteArray.empty, .int .i64 0, .bool false, .slice none 0 0, .slice none 0 0]) 5 80 Try.underlying32 hi5 hz50 hz51 hz52 rfl (by decide) u6 k (rowIV c k) rfl (HOT.out _ (J.out.m.alloc _)).o ⟨_, 0, none⟩ 1 1 [.string nm, .int .i64 bt, .bool false, .slice pa pn pc, .slice none 0 0] rfl rfl (ocells_at (by first | rfl | simp)) (fun u hu => by simp at hu; rcases hu with rfl | rfl | rfl | rfl | rfl <;> rfl) (by unfold maxLen; omega) (by omega) (HOT.out _ (J.out.m.alloc _)).m.2.size ?_; intro v9 w9 hown hgr _ _; have HOF := hid ((HOT.out _ (J.out.m.alloc _)).add ((J.out.turn ((Moved.refl J.out.m.1).alloc _)).iw HWO.out ⟨HTX.out, by show pn ≤ 4; omega, by first | exact Nat.zero_le _ | exact Nat.le_refl _⟩) hown hgr wo.heap.size HOLD.out (fun g hg => by rcases hg with hg | hg; (exact (J.out.p.lt g hg).1); (exact (J.out.s.lt g hg).1)) J.out.ap); clear hown hgr))
                  | (at_builtin; go_loud (refine wpList_append_own_at _ rfl _ _ 32 rfl w.heap.size 31 i5 (.agg #[.string ByteArray.empty, .int .i64 0, .bool false, .slice none 0 0, .slice none 0 0]) 5 80 Try.underlying32 hi5 hz50 hz51 hz52 rfl (by decide) u6 k (rowIV c k) rfl (HOT.out _ (J.out.m.alloc _)).o ⟨_, 0, none⟩ 1 1 [.string nm, .int .i64 bt, .bool false, .slice pa pn pc, .slice (some ⟨g7, 0, none⟩) (0 + 1) c7] rfl rfl (ocells_at (by first | rfl | simp)) (fun u hu => by simp at hu; rcases hu with rfl | rfl | rfl | rfl | rfl <;> rfl) (by unfold maxLen; omega) (by omega) (HOT.out _ (J.out.m.alloc _)).m.2.size ?_; intro v9 w9 hown hgr _ _; have HOF := hid ((HOT.out _ (J.out.m.alloc _)).add ((J.out.turn ((Moved.refl J.out.m.1).alloc _)).iw HWO.out ⟨HTX.out, by show pn ≤ 4; omega, by first | exact Nat.zero_le _ | exact Nat.le_refl _⟩) hown hgr wo.heap.size HOLD.out (fun g hg => by rcases hg with hg | hg; (exact (J.out.p.lt g hg).1); (exact (J.out.s.lt g hg).1)) J.out.ap); clear hown hgr)))
                all_goals go_roundw
                all_goals first | exact ⟨k + 1, _, by omega, by go_num, HOF⟩ | (simp [intOf]; omega)
            · have d2 : decide ((k : Int) < (n : Int) - 1) = false := decide_eq_false (by omega)
              have e2 : ¬ (k : Int) < (n : Int) - 1 := by omega
              by_cases hp : 0 < pn
              · have d3 : decide ((0 : Int) < (pn : Int)) = true := decide_eq_true (by omega)
                have e3 : (0 : Int) < (pn : Int) := by omega
                have tkA : True := trivial
                go_wp2_with (first
                  | (go_at_call 78; clear tkA; refine (once_any b _ _ J.out.m.1).mono ?_; rintro e wx ⟨vb, rfl, m⟩; replace J := hid (J.out.turn m); clear m c0 c1 c2 c3 c4; obtain ⟨⟨c0, c1, c2, c3, c4⟩, hfr⟩ := J.out.cells; have f2 := hfr 2; have f4 := hfr 4; clear hfr; cases vb)
                  | (at_builtin; go_loud (refine wpList_append_own_at _ rfl _ _ 32 rfl w.heap.size 31 i5 (.agg #[.string ByteArray.empty, .int .i64 0, .bool false, .slice none 0 0, .slice none 0 0]) 5 80 Try.underlying32 hi5 hz50 hz51 hz52 rfl (by decide) u6 k (rowIV c k) rfl (HOT.out _ ((J.out.setPh true).m.alloc _)).o ⟨_, 0, none⟩ 1 1 [.string nm, .int .i64 bt, .bool true, .slice pa pn pc, .slice none 0 0] rfl rfl (ocells_at (by first | rfl | simp)) (fun u hu => by simp at hu; rcases hu with rfl | rfl | rfl | rfl | rfl <;> rfl) (by unfold maxLen; omega) (by omega) (HOT.out _ ((J.out.setPh true).m.alloc _)).m.2.size ?_; intro v9 w9 hown hgr _ _; have HOF := hid ((HOT.out _ ((J.out.setPh true).m.alloc _)).add (((J.out.setPh true).turn ((Moved.refl (J.out.setPh true).m.1).alloc _)).iw HWO.out ⟨HTX.out, by show pn ≤ 4; omega, by first | exact Nat.zero_le _ | exact Nat.le_refl _⟩) hown hgr wo.heap.size HOLD.out (fun g hg => by rcases hg with hg | hg; (exact ((J.out.setPh true).p.lt g hg).1); (exact ((J.out.setPh true).s.lt g hg).1)) (J.out.setPh true).ap); clear hown hgr)))
                · have tkE : True := trivial
                  go_wp2_with (first
                    | (go_at_call 78; clear tkE; refine (once_any b _ _ J.out.m.1).mono ?_; rintro e wx ⟨vb, rfl, m⟩; replace J := hid (J.out.turn m); clear m c0 c1 c2 c3 c4; obtain ⟨⟨c0, c1, c2, c3, c4⟩, hfr⟩ := J.out.cells; have f2 := hfr 2; have f4 := hfr 4; clear hfr; cases vb)
                    | (at_builtin; go_loud (refine wpList_append_own_at _ rfl _ _ 32 rfl w.heap.size 31 i5 (.agg #[.string ByteArray.empty, .int .i64 0, .bool false, .slice none 0 0, .slice none 0 0]) 5 80 Try.underlying32 hi5 hz50 hz51 hz52 rfl (by decide) u6 k (rowIV c k) rfl (HOT.out _ (J.out.m.alloc _)).o ⟨_, 0, none⟩ 1 1 [.string nm, .int .i64 bt, .bool false, .slice pa pn pc, .slice none 0 0] rfl rfl (ocells_at (by first | rfl | simp)) (fun u hu => by simp at hu; rcases hu with rfl | rfl | rfl | rfl | rfl <;> rfl) (by unfold maxLen; omega) (by omega) (HOT.out _ (J.out.m.alloc _)).m.2.size ?_; intro v9 w9 hown hgr _ _; have HOF := hid ((HOT.out _ (J.out.m.alloc _)).add ((J.out.turn ((Moved.refl J.out.m.1).alloc _)).iw HWO.out ⟨HTX.out, by show pn ≤ 4; omega, by first | exact Nat.zero_le _ | exact Nat.le_refl _⟩) hown hgr wo.heap.size HOLD.out (fun g hg => by rcases hg with hg | hg; (exact (J.out.p.lt g hg).1); (exact (J.out.s.lt g hg).1)) J.out.ap); clear hown hgr)))
                  all_goals go_roundw
                  all_goals first | exact ⟨k + 1, _, by omega, by go_num, HOF⟩ | (simp [intOf]; omega)
                · all_goals go_roundw
                  all_goals first | exact ⟨k + 1, _, by omega, by go_num, HOF⟩ | (simp [intOf]; omega)
              · have d3 : decide ((0 : Int) < (pn : Int)) = false := decide_eq_false (by omega)
                have e3 : ¬ (0 : Int) < (pn : Int) := by omega
                have tkE : True := trivial
                go_wp2_with (first
                  | (go_at_call 78; clear tkE; refine (once_any b _ _ J.out.m.1).mono ?_; rintro e wx ⟨vb, rfl, m⟩; replace J := hid (J.out.turn m); clear m c0 c1 c2 c3 c4; obtain ⟨⟨c0, c1, c2, c3, c4⟩, hfr⟩ := J.out.cells; have f2 := hfr 2; have f4 := hfr 4; clear hfr; cases vb)
                  | (at_builtin; go_loud (refine wpList_append_own_at _ rfl _ _ 32 rfl w.heap.size 31 i5 (.agg #[.string ByteArray.empty, .int .i64 0, .bool false, .slice none 0 0, .slice none 0 0]) 5 80 Try.underlying32 hi5 hz50 hz51 hz52 rfl (by decide) u6 k (rowIV c k) rfl (HOT.out _ (J.out.m.alloc _)).o ⟨_, 0, none⟩ 1 1 [.string nm, .int .i64 bt, .bool false, .slice pa pn pc, .slice none 0 0] rfl rfl (ocells_at (by first | rfl | simp)) (fun u hu => by simp at hu; rcases hu with rfl | rfl | rfl | rfl | rfl <;> rfl) (by unfold maxLen; omega) (by omega) (HOT.out _ (J.out.m.alloc _)).m.2.size ?_; intro v9 w9 hown hgr _ _; have HOF := hid ((HOT.out _ (J.out.m.alloc _)).add ((J.out.turn ((Moved.refl J.out.m.1).alloc _)).iw HWO.out ⟨HTX.out, by show pn ≤ 4; omega, by first | exact Nat.zero_le _ | exact Nat.le_refl _⟩) hown hgr wo.heap.size HOLD.out (fun g hg => by rcases hg with hg | hg; (exact (J.out.p.lt g hg).1); (exact (J.out.s.lt g hg).1)) J.out.ap); clear hown hgr)))
                all_goals go_roundw
                all_goals first | exact ⟨k + 1, _, by omega, by go_num, HOF⟩ | (simp [intOf]; omega)
    · obtain rfl : k = n := by omega
      have lkk : ¬ (k : Int) < (k : Int) := by omega
      go_wp2
      go_returns
      exact DiP.of HO.out HN.out
end Go.Proofs.Ytmbdeafpfdeigaa
