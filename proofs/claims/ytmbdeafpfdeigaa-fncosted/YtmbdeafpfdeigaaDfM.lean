/- Draws of making: items spoiled. -/
import Derived.Test.YtmbdeafpfdeigaaJ2
import Derived.Test.YtmbdeafpfdeigaaDdM
namespace Go.Proofs.Ytmbdeafpfdeigaa
open Go Go.ChangeShapes Go.WideShapes Go.ChangeAt Go.RowKit
set_option linter.unusedVariables false
set_option linter.unusedSimpArgs false

def SpP (b : Nat) (w : World) (e : Ending) (w' : World) : Prop := ∃ (ad : Option Addr) (n cap : Nat) (c : Nat → IV), e = .returned (.slice ad n cap) ∧ n ≤ 60 ∧ SX b w (.slice ad n cap) n c w' ∧ ∃ a, ad = some a
theorem SpP.of {b : Nat} {w w' : World} {ad : Addr} {n cap : Nat} {c : Nat → IV} (h : SX b w (.slice (some ad) n cap) n c w') (hn : n ≤ 60) : SpP b w (.returned (.slice (some ad) n cap)) w' := ⟨some ad, n, cap, c, rfl, hn, h, ad, rfl⟩
set_option maxRecDepth 20000 in
set_option maxHeartbeats 16000000 in
theorem spoilItems_any (b : Nat) (w : World) (v : Value) (n : Nat) (c : Nat → IV) (W : World) (h : OX b w v n c W) (hn : 2 ≤ n ∧ n ≤ 60) :
    Calls Try.prog 53 #[.pointer (some ⟨b, 0, none⟩), v] W (SpP b w) := by
  obtain ⟨g, cap, rfl, hg⟩ := ownsRow_some h.o (by omega)
  have HAP : Hid (∀ i j g, i < n → j < n → (c i).pv.ownBlock = some g → (i ≠ j → (c j).pv.ownBlock ≠ some g) ∧ (c j).sv.ownBlock ≠ some g) := h.ap
  have HPN : Hid (∀ j, j < n → (c j).pn ≤ 4) := hid (fun j hj => (h.r j hj).sz.2.1)
  have HS : Hid (SX b w (.slice (some ⟨g, 0, none⟩) n cap) n c W) := hid h.sx
  obtain ⟨i4, hi4, hz40, hz41, hz42⟩ := infoPA6
  have hn2 : n ≤ 60 := hn.2
  clear h
  have tk1 : True := trivial
  have tk2 : True := trivial
  go_enter Try.func53, Try.ntmps53
  go_wp2_with (first
    | (go_at_call 78; clear tk1; refine (once_any b _ _ HS.out.m.1).mono ?_; rintro e w1 ⟨vb, rfl, m⟩; replace HS := hid (HS.out.turn m); clear m; cases vb)
    | (go_at_call 60; clear tk2; refine (below_any b _ _ HS.out.m.1).mono ?_; rintro e w2 ⟨x2, rfl, x2a, x2b, _, m⟩; replace x2b := x2b (by omega); replace HS := hid (HS.out.turn m); clear m; obtain ⟨k, rfl, hk⟩ := nat_of x2a x2b; clear x2a x2b))
  · go_returns
    exact SpP.of HS.out hn2
  have hk2 : (k : Int) < (n : Int) := by omega
  obtain ⟨pa, pc, epv⟩ : ∃ pa pc, (c k).pv = .slice pa (c k).pn pc := by
    obtain ⟨⟨z1, h1⟩, _, _⟩ := HS.out.r k hk
    exact own_form h1
  have HE : Hid ((c k).pv = .slice pa (c k).pn pc) := epv
  clear epv
  have tk3 : True := trivial
  by_cases hp : 0 < (c k).pn
  · obtain ⟨pg, hpg⟩ : ∃ pg, pa = some ⟨pg, 0, none⟩ := by
      obtain ⟨⟨z1, h1⟩, _, _⟩ := HS.out.r k hk
      obtain ⟨g1, c1, e1, _⟩ := ownsRow_some h1 hp
      rw [HE.out] at e1
      simp only [Value.slice.injEq] at e1
      exact ⟨g1, e1.1⟩
    subst hpg
    have hp2 : (0 : Int) < ((c k).pn : Int) := by omega
    go_wp2_with (go_at_call 60; clear tk3; refine (below_any b _ _ HS.out.m.1).mono ?_; rintro e w3 ⟨y, rfl, ya, yb, _, m⟩; replace yb := yb (by omega); replace HS := hid (HS.out.turn m); clear m; obtain ⟨⟨c0, c1, c2, c3, c4⟩, hf⟩ := HS.out.cells hk; rw [HE.out] at c3; have f0 := hf (k * 5); have f1 := hf (k * 5 + 1); have f2 := hf (k * 5 + 2); have f3 := hf (k * 5 + 3); clear hf; rcases (show y = 0 ∨ y = 1 ∨ y = 2 ∨ y = 3 ∨ y = 4 ∨ y = 5 ∨ y = 6 by omega) with rfl | rfl | rfl | rfl | rfl | rfl | rfl)
    · go_wp2_with (go_at_call 102; refine (pickS_any b w3.heap.size 3 _ _ (HS.out.m.1.alloc _) (CB.new _ _) (by have := HS.out.m.1.lt; omega) (by omega) (fun j hj => by rcases (by omega : j = 0 ∨ j = 1 ∨ j = 2) with rfl | rfl | rfl <;> exact ⟨_, rfl, by decide⟩)).mono ?_; rintro e w6 ⟨⟨t, rfl, ht⟩, m6⟩; have HT : Hid (t.size ≤ 40) := ht; clear ht; replace HS := hid ((HS.out.turn ((Moved.refl HS.out.m.1).alloc _)).turn m6); clear m6; clear c0 c1 c2 c3 c4 f0 f1 f2 f3; obtain ⟨⟨c0, c1, c2, c3, c4⟩, hf⟩ := HS.out.cells hk; rw [HE.out] at c3; have f0 := hf (k * 5); have f1 := hf (k * 5 + 1); have f2 := hf (k * 5 + 2); have f3 := hf (k * 5 + 3); clear hf)
      go_returns
      exact SpP.of (HS.out.word (t := 0) (x := { c k with nm := t }) hk (by omega) rfl (by obtain ⟨q1, q2, q3⟩ := HS.out.r k hk; exact ⟨q1, q2, ⟨HT.out, q3.2⟩⟩)) hn2
    · go_wp2_with (go_at_call 79; refine (pick_any b _ [0, 1000000, 1000001] _ _ _ (HS.out.m.1.alloc _) (IntRow.made HS.out.m.1.lt _ _ _ rfl) rfl (by decide) (by decide)).mono ?_; rintro e w6 ⟨xp, rfl, _, m6⟩; replace HS := hid ((HS.out.turn ((Moved.refl HS.out.m.1).alloc _)).turn m6); clear m6; clear c0 c1 c2 c3 c4 f0 f1 f2 f3; obtain ⟨⟨c0, c1, c2, c3, c4⟩, hf⟩ := HS.out.cells hk; rw [HE.out] at c3; have f0 := hf (k * 5); have f1 := hf (k * 5 + 1); have f2 := hf (k * 5 + 2); have f3 := hf (k * 5 + 3); clear hf)
      go_returns
      exact SpP.of (HS.out.word (t := 1) (x := { c k with ba := xp }) hk (by omega) rfl (by obtain ⟨q1, q2, q3⟩ := HS.out.r k hk; exact ⟨q1, q2, q3⟩)) hn2
    · go_returns
      exact SpP.of (HS.out.word (t := 2) (x := { c k with ph := !(c k).ph }) hk (by omega) rfl (by obtain ⟨q1, q2, q3⟩ := HS.out.r k hk; exact ⟨q1, q2, q3⟩)) hn2
    · clear c0 c1 c2 c3 c4 f0 f1 f2 f3
      have TD := hid (HS.out.turn ((Moved.refl HS.out.m.1).drew))
      refine wp_region_noPanic ?_
      refine wp_region_held_drew (S := fun _ => True) (by kernel_rfl) (by exact trivial) (fun hHeld => ?_)
      generalize hVD : w3.drew = VD at TD hHeld ⊢
      clear hVD
      refine wpAnyH_take (i := 0) (oi := { dst := some 48, op := Go.Op.move (Go.Operand.tmp 1), type := 32, pos := "l17_make.go:241", after := #[], guard := none }) (v := ?_) rfl (by kernel_rfl) (by kernel_rfl) (by kernel_rfl) (fun _ _ _ h => h) (Or.inl ⟨by rfl, ?_⟩) (by assumption) ?_
      rotate_left
      · (intro w hSw; (try dsimp only at hSw); go_simp <;> try with_reducible rfl)
      try simp only [Act.put, List.setIfInBounds_toArray, List.set_cons_zero, List.set_cons_succ]
      refine wpAnyH_take (i := 1) (oi := { dst := some 49, op := Go.Op.move (Go.Operand.tmp 5), type := 3, pos := "l17_make.go:241", after := #[], guard := none }) (v := ?_) rfl (by kernel_rfl) (by kernel_rfl) (by kernel_rfl) (fun _ _ _ h => h) (Or.inl ⟨by rfl, ?_⟩) (by assumption) ?_
      rotate_left
      · (intro w hSw; (try dsimp only at hSw); go_simp <;> try with_reducible rfl)
      try simp only [Act.put, List.setIfInBounds_toArray, List.set_cons_zero, List.set_cons_succ]
      refine wpAnyH_take (i := 2) (oi := { dst := some 50, op := Go.Op.move (Go.Operand.tmp 1), type := 32, pos := "l17_make.go:241", after := #[], guard := none }) (v := ?_) rfl (by kernel_rfl) (by kernel_rfl) (by kernel_rfl) (fun _ _ _ h => h) (Or.inl ⟨by rfl, ?_⟩) (by assumption) ?_
      rotate_left
      · (intro w hSw; (try dsimp only at hSw); go_simp <;> try with_reducible rfl)
      try simp only [Act.put, List.setIfInBounds_toArray, List.set_cons_zero, List.set_cons_succ]
      refine wpAnyH_take (i := 3) (oi := { dst := some 51, op := Go.Op.move (Go.Operand.tmp 5), type := 3, pos := "l17_make.go:241", after := #[], guard := none }) (v := ?_) rfl (by kernel_rfl) (by kernel_rfl) (by kernel_rfl) (fun _ _ _ h => h) (Or.inl ⟨by rfl, ?_⟩) (by assumption) ?_
      rotate_left
      · (intro w hSw; (try dsimp only at hSw); go_simp <;> try with_reducible rfl)
      try simp only [Act.put, List.setIfInBounds_toArray, List.set_cons_zero, List.set_cons_succ]
      refine wpAnyH_take (i := 4) (oi := { dst := some 52, op := Go.Op.indexAddr 32 (Go.Operand.tmp 50) (Go.Operand.tmp 51), type := 0, pos := "l17_make.go:241", after := #[{ on := 2, ground := Go.Ground.data }, { on := 3, ground := Go.Ground.data }], guard := none }) (v := ?_) rfl (by kernel_rfl) (by kernel_rfl) (by kernel_rfl) (fun _ _ _ h => h) (Or.inl ⟨by rfl, ?_⟩) (by assumption) ?_
      rotate_left
      · (intro w hSw; (try dsimp only at hSw); go_simp <;> try with_reducible rfl)
      try simp only [Act.put, List.setIfInBounds_toArray, List.set_cons_zero, List.set_cons_succ]
      refine wpAnyH_take (i := 5) (oi := { dst := some 53, op := Go.Op.fieldAddr 31 (Go.Operand.tmp 52) 3, type := 0, pos := "l17_make.go:241", after := #[{ on := 4, ground := Go.Ground.data }], guard := none }) (v := ?_) rfl (by kernel_rfl) (by kernel_rfl) (by kernel_rfl) (fun _ _ _ h => h) (Or.inl ⟨by rfl, ?_⟩) (by assumption) ?_
      rotate_left
      · (intro w hSw; (try dsimp only at hSw); go_simp <;> try with_reducible rfl)
      try simp only [Act.put, List.setIfInBounds_toArray, List.set_cons_zero, List.set_cons_succ]
      refine wpAnyH_take (i := 7) (oi := { dst := some 55, op := Go.Op.move (Go.Operand.tmp 0), type := 70, pos := "l17_make.go:241", after := #[], guard := none }) (v := ?_) rfl (by kernel_rfl) (by kernel_rfl) (by kernel_rfl) (fun _ _ _ h => h) (Or.inl ⟨by rfl, ?_⟩) (by assumption) ?_
      rotate_left
      · (intro w hSw; (try dsimp only at hSw); go_simp <;> try with_reducible rfl)
      try simp only [Act.put, List.setIfInBounds_toArray, List.set_cons_zero, List.set_cons_succ]
      refine wpAnyH_take (i := 8) (oi := { dst := some 56, op := Go.Op.move (Go.Operand.tmp 5), type := 3, pos := "l17_make.go:241", after := #[], guard := none }) (v := ?_) rfl (by kernel_rfl) (by kernel_rfl) (by kernel_rfl) (fun _ _ _ h => h) (Or.inl ⟨by rfl, ?_⟩) (by assumption) ?_
      rotate_left
      · (intro w hSw; (try dsimp only at hSw); go_simp <;> try with_reducible rfl)
      try simp only [Act.put, List.setIfInBounds_toArray, List.set_cons_zero, List.set_cons_succ]
      refine wpAnyH_take (i := 9) (oi := { dst := some 57, op := Go.Op.move (Go.Operand.tmp 1), type := 32, pos := "l17_make.go:241", after := #[], guard := none }) (v := ?_) rfl (by kernel_rfl) (by kernel_rfl) (by kernel_rfl) (fun _ _ _ h => h) (Or.inl ⟨by rfl, ?_⟩) (by assumption) ?_
      rotate_left
      · (intro w hSw; (try dsimp only at hSw); go_simp <;> try with_reducible rfl)
      try simp only [Act.put, List.setIfInBounds_toArray, List.set_cons_zero, List.set_cons_succ]
      refine wpAnyH_take (i := 10) (oi := { dst := some 58, op := Go.Op.call { callee := Go.Callee.builtin Go.Builtin.len, args := #[Go.Operand.tmp 57], argTypes := #[32] }, type := 3, pos := "l17_make.go:241", after := #[{ on := 9, ground := Go.Ground.data }], guard := none }) (v := ?_) rfl (by kernel_rfl) (by kernel_rfl) (by kernel_rfl) (fun _ _ _ h => h) (Or.inl ⟨by rfl, ?_⟩) (by assumption) ?_
      rotate_left
      · (intro w hSw; (try dsimp only at hSw); go_simp <;> try with_reducible rfl)
      try simp only [Act.put, List.setIfInBounds_toArray, List.set_cons_zero, List.set_cons_succ]
      refine wpAnyH_ready (rs := [6, 11]) (by kernel_rfl) (by simp) ?_
      refine AllReadyH.cons (o := { dst := some 54, op := Go.Op.load 29 (Go.Operand.tmp 53), type := 29, pos := "l17_make.go:241", after := #[{ on := 5, ground := Go.Ground.data }], guard := none }) rfl (fun K hK => ?_) (AllReadyH.cons (o := { dst := some 59, op := Go.Op.buildSlice 24 3 #[(0, Go.Operand.tmp 56), (1, Go.Operand.const (Go.Value.int Go.IntKind.i64 0)), (2, Go.Operand.tmp 58)], type := 24, pos := "l17_make.go:241", after := #[{ on := 8, ground := Go.Ground.data }, { on := 10, ground := Go.Ground.data }], guard := none }) rfl (fun K hK => ?_) (AllReadyH.nil))
      · have y3 : VD.cell? ⟨g, k * 5 + 3, none⟩ = some (.slice (some ⟨pg, 0, none⟩) (c k).pn pc) := (by have := (TD.out.cells hk).1.2.2.2.1; rw [HE.out] at this; exact this)
        go_simp
        refine hK.out _ _ trivial (fun hHeld => ?_)
        clear hK K y3
        try simp only [Act.put, List.setIfInBounds_toArray, List.set_cons_zero, List.set_cons_succ]
        refine wpAnyH_ready (rs := [11]) (by kernel_rfl) (by simp) ?_
        refine AllReadyH.cons (o := { dst := some 59, op := Go.Op.buildSlice 24 3 #[(0, Go.Operand.tmp 56), (1, Go.Operand.const (Go.Value.int Go.IntKind.i64 0)), (2, Go.Operand.tmp 58)], type := 24, pos := "l17_make.go:241", after := #[{ on := 8, ground := Go.Ground.data }, { on := 10, ground := Go.Ground.data }], guard := none }) rfl (fun K hK => ?_) (AllReadyH.nil)
        · have T2 := hid (TD.out.turn ((Moved.refl TD.out.m.1).alloc (.cells #[.int .i64 (k : Int), .int .i64 0, .int .i64 (n : Int)] 3 (0, 0))))
          have IR9 := hid (IntRow.made (w := VD) (b := b) TD.out.m.1.lt #[.int .i64 (k : Int), .int .i64 0, .int .i64 (n : Int)] 3 [(k : Int), 0, (n : Int)] rfl)
          go_simp
          refine hK.out _ _ trivial (fun hHeld => ?_)
          clear hK K
          try simp only [Act.put, List.setIfInBounds_toArray, List.set_cons_zero, List.set_cons_succ]
          generalize (VD.alloc (.cells #[.int .i64 (k : Int), .int .i64 0, .int .i64 (n : Int)] 3 (0, 0))) = V1 at T2 IR9 ⊢
          generalize VD.heap.size = ib at IR9 ⊢
          refine wpAnyH_ready (rs := [12]) (by kernel_rfl) (by simp) ?_
          refine AllReadyH.cons (o := { dst := some 60, op := Go.Op.call { callee := Go.Callee.value (Go.Operand.func 79), args := #[Go.Operand.tmp 55, Go.Operand.tmp 59], argTypes := #[70, 24] }, type := 3, pos := "l17_make.go:241", after := #[{ on := 7, ground := Go.Ground.data }, { on := 11, ground := Go.Ground.data }], guard := none }) rfl (fun K hK => ?_) (AllReadyH.nil)
          · go_simp
            refine (pick_any b _ [(k : Int), 0, (n : Int)] _ _ _ T2.out.m.1 IR9.out rfl (by simp) (by simp)).mono ?_
            rintro e V3 ⟨xp, rfl, _, m6⟩
            have T4 := hid (T2.out.turn m6)
            clear m6
            refine hK.out _ _ trivial (fun hHeld => ?_)
            clear hK K
            try simp only [Act.put, List.setIfInBounds_toArray, List.set_cons_zero, List.set_cons_succ]
            refine wpAnyH_take (i := 13) (oi := { dst := some 61, op := Go.Op.build 28 #[(0, Go.Operand.tmp 60), (1, Go.Operand.const (Go.Value.int Go.IntKind.i64 1))], type := 28, pos := "l17_make.go:241", after := #[{ on := 12, ground := Go.Ground.data }], guard := none }) (v := ?_) rfl (by kernel_rfl) (by kernel_rfl) (by kernel_rfl) (fun _ _ _ h => h) (Or.inl ⟨by rfl, ?_⟩) (by assumption) ?_
            rotate_left
            · (intro w hSw; (try dsimp only at hSw); go_simp <;> try with_reducible rfl)
            try simp only [Act.put, List.setIfInBounds_toArray, List.set_cons_zero, List.set_cons_succ]
            refine wpAnyH_ready (rs := [14]) (by kernel_rfl) (by simp) ?_
            refine AllReadyH.cons (o := { dst := some 62, op := Go.Op.buildSlice 29 1 #[(0, Go.Operand.tmp 61)], type := 29, pos := "l17_make.go:241", after := #[{ on := 13, ground := Go.Ground.data }], guard := none }) rfl (fun K hK => ?_) (AllReadyH.nil)
            · go_simp
              have T6 := hid (T4.out.turn ((Moved.refl T4.out.m.1).alloc (.cells #[.int .i64 xp, .int .i64 1, .int .i64 0, .int .i64 0, .int .i64 0, .int .i64 0] 28 (0, 0))))
              have E := hid (CB.new (w := V3) #[.int .i64 xp, .int .i64 1, .int .i64 0, .int .i64 0, .int .i64 0, .int .i64 0] 28)
              refine hK.out _ _ trivial (fun hHeld => ?_)
              clear hK K
              try simp only [Act.put, List.setIfInBounds_toArray, List.set_cons_zero, List.set_cons_succ]
              generalize (V3.alloc (.cells #[.int .i64 xp, .int .i64 1, .int .i64 0, .int .i64 0, .int .i64 0, .int .i64 0] 28 (0, 0))) = V5 at T6 E ⊢
              generalize V3.heap.size = eb at E ⊢
              refine wpAnyH_ready (rs := [15]) (by kernel_rfl) (by simp) ?_
              refine AllReadyH.cons (o := { dst := some 63, op := Go.Op.call { callee := Go.Callee.builtin Go.Builtin.append, args := #[Go.Operand.tmp 54, Go.Operand.tmp 62], argTypes := #[29, 29] }, type := 29, pos := "l17_make.go:241", after := #[{ on := 6, ground := Go.Ground.data }, { on := 14, ground := Go.Ground.data }, { on := 12, ground := Go.Ground.chain }], guard := none }) rfl (fun K hK => ?_) (AllReadyH.nil)
              · rw [if_pos (by rfl)]
                obtain ⟨⟨zz, hzz⟩, _, _⟩ := T6.out.r k hk
                have HZ9 : Hid (V5.ownsRow w.heap.size 28 6 (c k).pv (c k).pn (rowPA6 zz (c k).pn)) := hzz
                rw [HE.out] at hzz
                refine oper_append (Operand.tmp 54) (Operand.tmp 62) 29 rfl w.heap.size 28 i4 (.agg #[.int .i64 0, .int .i64 0, .int .i64 0, .int .i64 0, .int .i64 0, .int .i64 0]) 6 48 Try.underlying29 hi4 hz40 hz41 hz42 rfl (by decide) (.slice (some ⟨pg, 0, none⟩) (c k).pn pc) (c k).pn (rowPA6 zz (c k).pn) rfl hzz ⟨eb, 0, none⟩ 1 1 [.int .i64 xp, .int .i64 1, .int .i64 0, .int .i64 0, .int .i64 0, .int .i64 0] rfl rfl (cb_src E.out) (fun u hu => by simp at hu; rcases hu with rfl | rfl | rfl | rfl | rfl | rfl <;> rfl) (by have := HPN.out k hk; unfold maxLen; omega) (by have := HPN.out k hk; omega) T6.out.m.2.size ?_
                intro v7 V7 hown hgr _
                obtain ⟨g7, c7, rfl, _⟩ := ownsRow_some hown (by omega)
                rw [← HE.out] at hgr
                have TA := hid (T6.out.grow (p := ⟨xp, 1, 0, 0, 0, 0⟩) hk hown hgr (HPN.out k hk) (fun j q hj hq => HAP.out k j q hk hj hq))
                have Y : Hid (V7.cell? ⟨g, k * 5 + 3, none⟩ = some (.slice (some ⟨pg, 0, none⟩) (c k).pn pc) ∧ V7.frozen? ⟨g, k * 5 + 3, none⟩ = false) := hid (by
          have ho3 : V7.ownsRow w.heap.size 31 5 (.slice (some ⟨g, 0, none⟩) n cap) n (rowIV c n) := arow_block T6.out.o (fun q hq => grown_block hgr (T6.out.o.lt q hq).2 (fun e => part_apart HZ9.out T6.out.o q e hq))
          have a3 := (rowIV_get c n k hk).2.2.2.1
          rw [HE.out] at a3
          exact ⟨(own_cell ho3 a3).1, (own_cell ho3 a3).2 _⟩)
                clear hown hgr hzz HZ9
                refine hK.out _ _ trivial (fun hHeld => ?_)
                clear hK K
                try simp only [Act.put, List.setIfInBounds_toArray, List.set_cons_zero, List.set_cons_succ]
                refine wpAnyH_take (i := 16) (oi := { dst := some 64, op := Go.Op.indexAddr 32 (Go.Operand.tmp 48) (Go.Operand.tmp 49), type := 0, pos := "l17_make.go:241", after := #[{ on := 0, ground := Go.Ground.data }, { on := 1, ground := Go.Ground.data }, { on := 0, ground := Go.Ground.phase }, { on := 1, ground := Go.Ground.phase }, { on := 2, ground := Go.Ground.phase }, { on := 3, ground := Go.Ground.phase }, { on := 4, ground := Go.Ground.phase }, { on := 5, ground := Go.Ground.phase }, { on := 6, ground := Go.Ground.phase }, { on := 7, ground := Go.Ground.phase }, { on := 8, ground := Go.Ground.phase }, { on := 9, ground := Go.Ground.phase }, { on := 10, ground := Go.Ground.phase }, { on := 11, ground := Go.Ground.phase }, { on := 12, ground := Go.Ground.phase }, { on := 13, ground := Go.Ground.phase }, { on := 14, ground := Go.Ground.phase }, { on := 15, ground := Go.Ground.phase }], guard := none }) (v := ?_) rfl (by kernel_rfl) (by kernel_rfl) (by kernel_rfl) (fun _ _ _ h => h) (Or.inl ⟨by rfl, ?_⟩) (by assumption) ?_
                rotate_left
                · (intro w hSw; (try dsimp only at hSw); go_simp <;> try with_reducible rfl)
                try simp only [Act.put, List.setIfInBounds_toArray, List.set_cons_zero, List.set_cons_succ]
                refine wpAnyH_take (i := 17) (oi := { dst := some 65, op := Go.Op.fieldAddr 31 (Go.Operand.tmp 64) 3, type := 0, pos := "l17_make.go:241", after := #[{ on := 16, ground := Go.Ground.data }, { on := 0, ground := Go.Ground.phase }, { on := 1, ground := Go.Ground.phase }, { on := 2, ground := Go.Ground.phase }, { on := 3, ground := Go.Ground.phase }, { on := 4, ground := Go.Ground.phase }, { on := 5, ground := Go.Ground.phase }, { on := 6, ground := Go.Ground.phase }, { on := 7, ground := Go.Ground.phase }, { on := 8, ground := Go.Ground.phase }, { on := 9, ground := Go.Ground.phase }, { on := 10, ground := Go.Ground.phase }, { on := 11, ground := Go.Ground.phase }, { on := 12, ground := Go.Ground.phase }, { on := 13, ground := Go.Ground.phase }, { on := 14, ground := Go.Ground.phase }, { on := 15, ground := Go.Ground.phase }], guard := none }) (v := ?_) rfl (by kernel_rfl) (by kernel_rfl) (by kernel_rfl) (fun _ _ _ h => h) (Or.inl ⟨by rfl, ?_⟩) (by assumption) ?_
                rotate_left
                · (intro w hSw; (try dsimp only at hSw); go_simp <;> try with_reducible rfl)
                try simp only [Act.put, List.setIfInBounds_toArray, List.set_cons_zero, List.set_cons_succ]
                have y3 := Y.out.1
                have yf := Y.out.2
                refine wpAnyH_ready (rs := [18]) (by kernel_rfl) (by simp) ?_
                refine AllReadyH.cons (o := { dst := none, op := Go.Op.store 29 (Go.Operand.tmp 65) (Go.Operand.tmp 63), type := 0, pos := "l17_make.go:241", after := #[{ on := 17, ground := Go.Ground.data }, { on := 15, ground := Go.Ground.data }, { on := 15, ground := Go.Ground.chain }, { on := 0, ground := Go.Ground.phase }, { on := 1, ground := Go.Ground.phase }, { on := 2, ground := Go.Ground.phase }, { on := 3, ground := Go.Ground.phase }, { on := 4, ground := Go.Ground.phase }, { on := 5, ground := Go.Ground.phase }, { on := 6, ground := Go.Ground.phase }, { on := 7, ground := Go.Ground.phase }, { on := 8, ground := Go.Ground.phase }, { on := 9, ground := Go.Ground.phase }, { on := 10, ground := Go.Ground.phase }, { on := 11, ground := Go.Ground.phase }, { on := 12, ground := Go.Ground.phase }, { on := 13, ground := Go.Ground.phase }, { on := 14, ground := Go.Ground.phase }, { on := 15, ground := Go.Ground.phase }], guard := none }) rfl (fun K hK => ?_) (AllReadyH.nil)
                go_simp
                refine hK.out _ _ trivial (fun hHeld => ?_)
                clear hK K y3 yf
                try simp only [Act.put, List.setIfInBounds_toArray, List.set_cons_zero, List.set_cons_succ]
                refine wpAnyH_done (by kernel_rfl) ?_ _
                refine NoPanic.normal ?_
                clear hHeld
                go_wp2
                go_returns
                exact SpP.of TA.out hn2
      · have T9 := hid (TD.out.turn ((Moved.refl TD.out.m.1).alloc (.cells #[.int .i64 (k : Int), .int .i64 0, .int .i64 (n : Int)] 3 (0, 0))))
        have IR9 := hid (IntRow.made (w := VD) (b := b) TD.out.m.1.lt #[.int .i64 (k : Int), .int .i64 0, .int .i64 (n : Int)] 3 [(k : Int), 0, (n : Int)] rfl)
        go_simp
        refine hK.out _ _ trivial (fun hHeld => ?_)
        clear hK K
        try simp only [Act.put, List.setIfInBounds_toArray, List.set_cons_zero, List.set_cons_succ]
        generalize (VD.alloc (.cells #[.int .i64 (k : Int), .int .i64 0, .int .i64 (n : Int)] 3 (0, 0))) = V8 at T9 IR9 ⊢
        generalize VD.heap.size = ib at IR9 ⊢
        refine wpAnyH_ready (rs := [6, 12]) (by kernel_rfl) (by simp) ?_
        refine AllReadyH.cons (o := { dst := some 54, op := Go.Op.load 29 (Go.Operand.tmp 53), type := 29, pos := "l17_make.go:241", after := #[{ on := 5, ground := Go.Ground.data }], guard := none }) rfl (fun K hK => ?_) (AllReadyH.cons (o := { dst := some 60, op := Go.Op.call { callee := Go.Callee.value (Go.Operand.func 79), args := #[Go.Operand.tmp 55, Go.Operand.tmp 59], argTypes := #[70, 24] }, type := 3, pos := "l17_make.go:241", after := #[{ on := 7, ground := Go.Ground.data }, { on := 11, ground := Go.Ground.data }], guard := none }) rfl (fun K hK => ?_) (AllReadyH.nil))
        · have y3 : V8.cell? ⟨g, k * 5 + 3, none⟩ = some (.slice (some ⟨pg, 0, none⟩) (c k).pn pc) := (by have := (T9.out.cells hk).1.2.2.2.1; rw [HE.out] at this; exact this)
          go_simp
          refine hK.out _ _ trivial (fun hHeld => ?_)
          clear hK K y3
          try simp only [Act.put, List.setIfInBounds_toArray, List.set_cons_zero, List.set_cons_succ]
          refine wpAnyH_ready (rs := [12]) (by kernel_rfl) (by simp) ?_
          refine AllReadyH.cons (o := { dst := some 60, op := Go.Op.call { callee := Go.Callee.value (Go.Operand.func 79), args := #[Go.Operand.tmp 55, Go.Operand.tmp 59], argTypes := #[70, 24] }, type := 3, pos := "l17_make.go:241", after := #[{ on := 7, ground := Go.Ground.data }, { on := 11, ground := Go.Ground.data }], guard := none }) rfl (fun K hK => ?_) (AllReadyH.nil)
          · go_simp
            refine (pick_any b _ [(k : Int), 0, (n : Int)] _ _ _ T9.out.m.1 IR9.out rfl (by simp) (by simp)).mono ?_
            rintro e V10 ⟨xp, rfl, _, m6⟩
            have T11 := hid (T9.out.turn m6)
            clear m6
            refine hK.out _ _ trivial (fun hHeld => ?_)
            clear hK K
            try simp only [Act.put, List.setIfInBounds_toArray, List.set_cons_zero, List.set_cons_succ]
            refine wpAnyH_take (i := 13) (oi := { dst := some 61, op := Go.Op.build 28 #[(0, Go.Operand.tmp 60), (1, Go.Operand.const (Go.Value.int Go.IntKind.i64 1))], type := 28, pos := "l17_make.go:241", after := #[{ on := 12, ground := Go.Ground.data }], guard := none }) (v := ?_) rfl (by kernel_rfl) (by kernel_rfl) (by kernel_rfl) (fun _ _ _ h => h) (Or.inl ⟨by rfl, ?_⟩) (by assumption) ?_
            rotate_left
            · (intro w hSw; (try dsimp only at hSw); go_simp <;> try with_reducible rfl)
            try simp only [Act.put, List.setIfInBounds_toArray, List.set_cons_zero, List.set_cons_succ]
            refine wpAnyH_ready (rs := [14]) (by kernel_rfl) (by simp) ?_
            refine AllReadyH.cons (o := { dst := some 62, op := Go.Op.buildSlice 29 1 #[(0, Go.Operand.tmp 61)], type := 29, pos := "l17_make.go:241", after := #[{ on := 13, ground := Go.Ground.data }], guard := none }) rfl (fun K hK => ?_) (AllReadyH.nil)
            · go_simp
              have T13 := hid (T11.out.turn ((Moved.refl T11.out.m.1).alloc (.cells #[.int .i64 xp, .int .i64 1, .int .i64 0, .int .i64 0, .int .i64 0, .int .i64 0] 28 (0, 0))))
              have E := hid (CB.new (w := V10) #[.int .i64 xp, .int .i64 1, .int .i64 0, .int .i64 0, .int .i64 0, .int .i64 0] 28)
              refine hK.out _ _ trivial (fun hHeld => ?_)
              clear hK K
              try simp only [Act.put, List.setIfInBounds_toArray, List.set_cons_zero, List.set_cons_succ]
              generalize (V10.alloc (.cells #[.int .i64 xp, .int .i64 1, .int .i64 0, .int .i64 0, .int .i64 0, .int .i64 0] 28 (0, 0))) = V12 at T13 E ⊢
              generalize V10.heap.size = eb at E ⊢
              refine wpAnyH_ready (rs := [15]) (by kernel_rfl) (by simp) ?_
              refine AllReadyH.cons (o := { dst := some 63, op := Go.Op.call { callee := Go.Callee.builtin Go.Builtin.append, args := #[Go.Operand.tmp 54, Go.Operand.tmp 62], argTypes := #[29, 29] }, type := 29, pos := "l17_make.go:241", after := #[{ on := 6, ground := Go.Ground.data }, { on := 14, ground := Go.Ground.data }, { on := 12, ground := Go.Ground.chain }], guard := none }) rfl (fun K hK => ?_) (AllReadyH.nil)
              · rw [if_pos (by rfl)]
                obtain ⟨⟨zz, hzz⟩, _, _⟩ := T13.out.r k hk
                have HZ9 : Hid (V12.ownsRow w.heap.size 28 6 (c k).pv (c k).pn (rowPA6 zz (c k).pn)) := hzz
                rw [HE.out] at hzz
                refine oper_append (Operand.tmp 54) (Operand.tmp 62) 29 rfl w.heap.size 28 i4 (.agg #[.int .i64 0, .int .i64 0, .int .i64 0, .int .i64 0, .int .i64 0, .int .i64 0]) 6 48 Try.underlying29 hi4 hz40 hz41 hz42 rfl (by decide) (.slice (some ⟨pg, 0, none⟩) (c k).pn pc) (c k).pn (rowPA6 zz (c k).pn) rfl hzz ⟨eb, 0, none⟩ 1 1 [.int .i64 xp, .int .i64 1, .int .i64 0, .int .i64 0, .int .i64 0, .int .i64 0] rfl rfl (cb_src E.out) (fun u hu => by simp at hu; rcases hu with rfl | rfl | rfl | rfl | rfl | rfl <;> rfl) (by have := HPN.out k hk; unfold maxLen; omega) (by have := HPN.out k hk; omega) T13.out.m.2.size ?_
                intro v7 V14 hown hgr _
                obtain ⟨g7, c7, rfl, _⟩ := ownsRow_some hown (by omega)
                rw [← HE.out] at hgr
                have TA := hid (T13.out.grow (p := ⟨xp, 1, 0, 0, 0, 0⟩) hk hown hgr (HPN.out k hk) (fun j q hj hq => HAP.out k j q hk hj hq))
                have Y : Hid (V14.cell? ⟨g, k * 5 + 3, none⟩ = some (.slice (some ⟨pg, 0, none⟩) (c k).pn pc) ∧ V14.frozen? ⟨g, k * 5 + 3, none⟩ = false) := hid (by
          have ho3 : V14.ownsRow w.heap.size 31 5 (.slice (some ⟨g, 0, none⟩) n cap) n (rowIV c n) := arow_block T13.out.o (fun q hq => grown_block hgr (T13.out.o.lt q hq).2 (fun e => part_apart HZ9.out T13.out.o q e hq))
          have a3 := (rowIV_get c n k hk).2.2.2.1
          rw [HE.out] at a3
          exact ⟨(own_cell ho3 a3).1, (own_cell ho3 a3).2 _⟩)
                clear hown hgr hzz HZ9
                refine hK.out _ _ trivial (fun hHeld => ?_)
                clear hK K
                try simp only [Act.put, List.setIfInBounds_toArray, List.set_cons_zero, List.set_cons_succ]
                refine wpAnyH_take (i := 16) (oi := { dst := some 64, op := Go.Op.indexAddr 32 (Go.Operand.tmp 48) (Go.Operand.tmp 49), type := 0, pos := "l17_make.go:241", after := #[{ on := 0, ground := Go.Ground.data }, { on := 1, ground := Go.Ground.data }, { on := 0, ground := Go.Ground.phase }, { on := 1, ground := Go.Ground.phase }, { on := 2, ground := Go.Ground.phase }, { on := 3, ground := Go.Ground.phase }, { on := 4, ground := Go.Ground.phase }, { on := 5, ground := Go.Ground.phase }, { on := 6, ground := Go.Ground.phase }, { on := 7, ground := Go.Ground.phase }, { on := 8, ground := Go.Ground.phase }, { on := 9, ground := Go.Ground.phase }, { on := 10, ground := Go.Ground.phase }, { on := 11, ground := Go.Ground.phase }, { on := 12, ground := Go.Ground.phase }, { on := 13, ground := Go.Ground.phase }, { on := 14, ground := Go.Ground.phase }, { on := 15, ground := Go.Ground.phase }], guard := none }) (v := ?_) rfl (by kernel_rfl) (by kernel_rfl) (by kernel_rfl) (fun _ _ _ h => h) (Or.inl ⟨by rfl, ?_⟩) (by assumption) ?_
                rotate_left
                · (intro w hSw; (try dsimp only at hSw); go_simp <;> try with_reducible rfl)
                try simp only [Act.put, List.setIfInBounds_toArray, List.set_cons_zero, List.set_cons_succ]
                refine wpAnyH_take (i := 17) (oi := { dst := some 65, op := Go.Op.fieldAddr 31 (Go.Operand.tmp 64) 3, type := 0, pos := "l17_make.go:241", after := #[{ on := 16, ground := Go.Ground.data }, { on := 0, ground := Go.Ground.phase }, { on := 1, ground := Go.Ground.phase }, { on := 2, ground := Go.Ground.phase }, { on := 3, ground := Go.Ground.phase }, { on := 4, ground := Go.Ground.phase }, { on := 5, ground := Go.Ground.phase }, { on := 6, ground := Go.Ground.phase }, { on := 7, ground := Go.Ground.phase }, { on := 8, ground := Go.Ground.phase }, { on := 9, ground := Go.Ground.phase }, { on := 10, ground := Go.Ground.phase }, { on := 11, ground := Go.Ground.phase }, { on := 12, ground := Go.Ground.phase }, { on := 13, ground := Go.Ground.phase }, { on := 14, ground := Go.Ground.phase }, { on := 15, ground := Go.Ground.phase }], guard := none }) (v := ?_) rfl (by kernel_rfl) (by kernel_rfl) (by kernel_rfl) (fun _ _ _ h => h) (Or.inl ⟨by rfl, ?_⟩) (by assumption) ?_
                rotate_left
                · (intro w hSw; (try dsimp only at hSw); go_simp <;> try with_reducible rfl)
                try simp only [Act.put, List.setIfInBounds_toArray, List.set_cons_zero, List.set_cons_succ]
                have y3 := Y.out.1
                have yf := Y.out.2
                refine wpAnyH_ready (rs := [18]) (by kernel_rfl) (by simp) ?_
                refine AllReadyH.cons (o := { dst := none, op := Go.Op.store 29 (Go.Operand.tmp 65) (Go.Operand.tmp 63), type := 0, pos := "l17_make.go:241", after := #[{ on := 17, ground := Go.Ground.data }, { on := 15, ground := Go.Ground.data }, { on := 15, ground := Go.Ground.chain }, { on := 0, ground := Go.Ground.phase }, { on := 1, ground := Go.Ground.phase }, { on := 2, ground := Go.Ground.phase }, { on := 3, ground := Go.Ground.phase }, { on := 4, ground := Go.Ground.phase }, { on := 5, ground := Go.Ground.phase }, { on := 6, ground := Go.Ground.phase }, { on := 7, ground := Go.Ground.phase }, { on := 8, ground := Go.Ground.phase }, { on := 9, ground := Go.Ground.phase }, { on := 10, ground := Go.Ground.phase }, { on := 11, ground := Go.Ground.phase }, { on := 12, ground := Go.Ground.phase }, { on := 13, ground := Go.Ground.phase }, { on := 14, ground := Go.Ground.phase }, { on := 15, ground := Go.Ground.phase }], guard := none }) rfl (fun K hK => ?_) (AllReadyH.nil)
                go_simp
                refine hK.out _ _ trivial (fun hHeld => ?_)
                clear hK K y3 yf
                try simp only [Act.put, List.setIfInBounds_toArray, List.set_cons_zero, List.set_cons_succ]
                refine wpAnyH_done (by kernel_rfl) ?_ _
                refine NoPanic.normal ?_
                clear hHeld
                go_wp2
                go_returns
                exact SpP.of TA.out hn2
        · go_simp
          refine (pick_any b _ [(k : Int), 0, (n : Int)] _ _ _ T9.out.m.1 IR9.out rfl (by simp) (by simp)).mono ?_
          rintro e V15 ⟨xp, rfl, _, m6⟩
          have T16 := hid (T9.out.turn m6)
          clear m6
          refine hK.out _ _ trivial (fun hHeld => ?_)
          clear hK K
          try simp only [Act.put, List.setIfInBounds_toArray, List.set_cons_zero, List.set_cons_succ]
          refine wpAnyH_take (i := 13) (oi := { dst := some 61, op := Go.Op.build 28 #[(0, Go.Operand.tmp 60), (1, Go.Operand.const (Go.Value.int Go.IntKind.i64 1))], type := 28, pos := "l17_make.go:241", after := #[{ on := 12, ground := Go.Ground.data }], guard := none }) (v := ?_) rfl (by kernel_rfl) (by kernel_rfl) (by kernel_rfl) (fun _ _ _ h => h) (Or.inl ⟨by rfl, ?_⟩) (by assumption) ?_
          rotate_left
          · (intro w hSw; (try dsimp only at hSw); go_simp <;> try with_reducible rfl)
          try simp only [Act.put, List.setIfInBounds_toArray, List.set_cons_zero, List.set_cons_succ]
          refine wpAnyH_ready (rs := [6, 14]) (by kernel_rfl) (by simp) ?_
          refine AllReadyH.cons (o := { dst := some 54, op := Go.Op.load 29 (Go.Operand.tmp 53), type := 29, pos := "l17_make.go:241", after := #[{ on := 5, ground := Go.Ground.data }], guard := none }) rfl (fun K hK => ?_) (AllReadyH.cons (o := { dst := some 62, op := Go.Op.buildSlice 29 1 #[(0, Go.Operand.tmp 61)], type := 29, pos := "l17_make.go:241", after := #[{ on := 13, ground := Go.Ground.data }], guard := none }) rfl (fun K hK => ?_) (AllReadyH.nil))
          · have y3 : V15.cell? ⟨g, k * 5 + 3, none⟩ = some (.slice (some ⟨pg, 0, none⟩) (c k).pn pc) := (by have := (T16.out.cells hk).1.2.2.2.1; rw [HE.out] at this; exact this)
            go_simp
            refine hK.out _ _ trivial (fun hHeld => ?_)
            clear hK K y3
            try simp only [Act.put, List.setIfInBounds_toArray, List.set_cons_zero, List.set_cons_succ]
            refine wpAnyH_ready (rs := [14]) (by kernel_rfl) (by simp) ?_
            refine AllReadyH.cons (o := { dst := some 62, op := Go.Op.buildSlice 29 1 #[(0, Go.Operand.tmp 61)], type := 29, pos := "l17_make.go:241", after := #[{ on := 13, ground := Go.Ground.data }], guard := none }) rfl (fun K hK => ?_) (AllReadyH.nil)
            · go_simp
              have T18 := hid (T16.out.turn ((Moved.refl T16.out.m.1).alloc (.cells #[.int .i64 xp, .int .i64 1, .int .i64 0, .int .i64 0, .int .i64 0, .int .i64 0] 28 (0, 0))))
              have E := hid (CB.new (w := V15) #[.int .i64 xp, .int .i64 1, .int .i64 0, .int .i64 0, .int .i64 0, .int .i64 0] 28)
              refine hK.out _ _ trivial (fun hHeld => ?_)
              clear hK K
              try simp only [Act.put, List.setIfInBounds_toArray, List.set_cons_zero, List.set_cons_succ]
              generalize (V15.alloc (.cells #[.int .i64 xp, .int .i64 1, .int .i64 0, .int .i64 0, .int .i64 0, .int .i64 0] 28 (0, 0))) = V17 at T18 E ⊢
              generalize V15.heap.size = eb at E ⊢
              refine wpAnyH_ready (rs := [15]) (by kernel_rfl) (by simp) ?_
              refine AllReadyH.cons (o := { dst := some 63, op := Go.Op.call { callee := Go.Callee.builtin Go.Builtin.append, args := #[Go.Operand.tmp 54, Go.Operand.tmp 62], argTypes := #[29, 29] }, type := 29, pos := "l17_make.go:241", after := #[{ on := 6, ground := Go.Ground.data }, { on := 14, ground := Go.Ground.data }, { on := 12, ground := Go.Ground.chain }], guard := none }) rfl (fun K hK => ?_) (AllReadyH.nil)
              · rw [if_pos (by rfl)]
                obtain ⟨⟨zz, hzz⟩, _, _⟩ := T18.out.r k hk
                have HZ9 : Hid (V17.ownsRow w.heap.size 28 6 (c k).pv (c k).pn (rowPA6 zz (c k).pn)) := hzz
                rw [HE.out] at hzz
                refine oper_append (Operand.tmp 54) (Operand.tmp 62) 29 rfl w.heap.size 28 i4 (.agg #[.int .i64 0, .int .i64 0, .int .i64 0, .int .i64 0, .int .i64 0, .int .i64 0]) 6 48 Try.underlying29 hi4 hz40 hz41 hz42 rfl (by decide) (.slice (some ⟨pg, 0, none⟩) (c k).pn pc) (c k).pn (rowPA6 zz (c k).pn) rfl hzz ⟨eb, 0, none⟩ 1 1 [.int .i64 xp, .int .i64 1, .int .i64 0, .int .i64 0, .int .i64 0, .int .i64 0] rfl rfl (cb_src E.out) (fun u hu => by simp at hu; rcases hu with rfl | rfl | rfl | rfl | rfl | rfl <;> rfl) (by have := HPN.out k hk; unfold maxLen; omega) (by have := HPN.out k hk; omega) T18.out.m.2.size ?_
                intro v7 V19 hown hgr _
                obtain ⟨g7, c7, rfl, _⟩ := ownsRow_some hown (by omega)
                rw [← HE.out] at hgr
                have TA := hid (T18.out.grow (p := ⟨xp, 1, 0, 0, 0, 0⟩) hk hown hgr (HPN.out k hk) (fun j q hj hq => HAP.out k j q hk hj hq))
                have Y : Hid (V19.cell? ⟨g, k * 5 + 3, none⟩ = some (.slice (some ⟨pg, 0, none⟩) (c k).pn pc) ∧ V19.frozen? ⟨g, k * 5 + 3, none⟩ = false) := hid (by
          have ho3 : V19.ownsRow w.heap.size 31 5 (.slice (some ⟨g, 0, none⟩) n cap) n (rowIV c n) := arow_block T18.out.o (fun q hq => grown_block hgr (T18.out.o.lt q hq).2 (fun e => part_apart HZ9.out T18.out.o q e hq))
          have a3 := (rowIV_get c n k hk).2.2.2.1
          rw [HE.out] at a3
          exact ⟨(own_cell ho3 a3).1, (own_cell ho3 a3).2 _⟩)
                clear hown hgr hzz HZ9
                refine hK.out _ _ trivial (fun hHeld => ?_)
                clear hK K
                try simp only [Act.put, List.setIfInBounds_toArray, List.set_cons_zero, List.set_cons_succ]
                refine wpAnyH_take (i := 16) (oi := { dst := some 64, op := Go.Op.indexAddr 32 (Go.Operand.tmp 48) (Go.Operand.tmp 49), type := 0, pos := "l17_make.go:241", after := #[{ on := 0, ground := Go.Ground.data }, { on := 1, ground := Go.Ground.data }, { on := 0, ground := Go.Ground.phase }, { on := 1, ground := Go.Ground.phase }, { on := 2, ground := Go.Ground.phase }, { on := 3, ground := Go.Ground.phase }, { on := 4, ground := Go.Ground.phase }, { on := 5, ground := Go.Ground.phase }, { on := 6, ground := Go.Ground.phase }, { on := 7, ground := Go.Ground.phase }, { on := 8, ground := Go.Ground.phase }, { on := 9, ground := Go.Ground.phase }, { on := 10, ground := Go.Ground.phase }, { on := 11, ground := Go.Ground.phase }, { on := 12, ground := Go.Ground.phase }, { on := 13, ground := Go.Ground.phase }, { on := 14, ground := Go.Ground.phase }, { on := 15, ground := Go.Ground.phase }], guard := none }) (v := ?_) rfl (by kernel_rfl) (by kernel_rfl) (by kernel_rfl) (fun _ _ _ h => h) (Or.inl ⟨by rfl, ?_⟩) (by assumption) ?_
                rotate_left
                · (intro w hSw; (try dsimp only at hSw); go_simp <;> try with_reducible rfl)
                try simp only [Act.put, List.setIfInBounds_toArray, List.set_cons_zero, List.set_cons_succ]
                refine wpAnyH_take (i := 17) (oi := { dst := some 65, op := Go.Op.fieldAddr 31 (Go.Operand.tmp 64) 3, type := 0, pos := "l17_make.go:241", after := #[{ on := 16, ground := Go.Ground.data }, { on := 0, ground := Go.Ground.phase }, { on := 1, ground := Go.Ground.phase }, { on := 2, ground := Go.Ground.phase }, { on := 3, ground := Go.Ground.phase }, { on := 4, ground := Go.Ground.phase }, { on := 5, ground := Go.Ground.phase }, { on := 6, ground := Go.Ground.phase }, { on := 7, ground := Go.Ground.phase }, { on := 8, ground := Go.Ground.phase }, { on := 9, ground := Go.Ground.phase }, { on := 10, ground := Go.Ground.phase }, { on := 11, ground := Go.Ground.phase }, { on := 12, ground := Go.Ground.phase }, { on := 13, ground := Go.Ground.phase }, { on := 14, ground := Go.Ground.phase }, { on := 15, ground := Go.Ground.phase }], guard := none }) (v := ?_) rfl (by kernel_rfl) (by kernel_rfl) (by kernel_rfl) (fun _ _ _ h => h) (Or.inl ⟨by rfl, ?_⟩) (by assumption) ?_
                rotate_left
                · (intro w hSw; (try dsimp only at hSw); go_simp <;> try with_reducible rfl)
                try simp only [Act.put, List.setIfInBounds_toArray, List.set_cons_zero, List.set_cons_succ]
                have y3 := Y.out.1
                have yf := Y.out.2
                refine wpAnyH_ready (rs := [18]) (by kernel_rfl) (by simp) ?_
                refine AllReadyH.cons (o := { dst := none, op := Go.Op.store 29 (Go.Operand.tmp 65) (Go.Operand.tmp 63), type := 0, pos := "l17_make.go:241", after := #[{ on := 17, ground := Go.Ground.data }, { on := 15, ground := Go.Ground.data }, { on := 15, ground := Go.Ground.chain }, { on := 0, ground := Go.Ground.phase }, { on := 1, ground := Go.Ground.phase }, { on := 2, ground := Go.Ground.phase }, { on := 3, ground := Go.Ground.phase }, { on := 4, ground := Go.Ground.phase }, { on := 5, ground := Go.Ground.phase }, { on := 6, ground := Go.Ground.phase }, { on := 7, ground := Go.Ground.phase }, { on := 8, ground := Go.Ground.phase }, { on := 9, ground := Go.Ground.phase }, { on := 10, ground := Go.Ground.phase }, { on := 11, ground := Go.Ground.phase }, { on := 12, ground := Go.Ground.phase }, { on := 13, ground := Go.Ground.phase }, { on := 14, ground := Go.Ground.phase }, { on := 15, ground := Go.Ground.phase }], guard := none }) rfl (fun K hK => ?_) (AllReadyH.nil)
                go_simp
                refine hK.out _ _ trivial (fun hHeld => ?_)
                clear hK K y3 yf
                try simp only [Act.put, List.setIfInBounds_toArray, List.set_cons_zero, List.set_cons_succ]
                refine wpAnyH_done (by kernel_rfl) ?_ _
                refine NoPanic.normal ?_
                clear hHeld
                go_wp2
                go_returns
                exact SpP.of TA.out hn2
          · go_simp
            have T21 := hid (T16.out.turn ((Moved.refl T16.out.m.1).alloc (.cells #[.int .i64 xp, .int .i64 1, .int .i64 0, .int .i64 0, .int .i64 0, .int .i64 0] 28 (0, 0))))
            have E := hid (CB.new (w := V15) #[.int .i64 xp, .int .i64 1, .int .i64 0, .int .i64 0, .int .i64 0, .int .i64 0] 28)
            refine hK.out _ _ trivial (fun hHeld => ?_)
            clear hK K
            try simp only [Act.put, List.setIfInBounds_toArray, List.set_cons_zero, List.set_cons_succ]
            generalize (V15.alloc (.cells #[.int .i64 xp, .int .i64 1, .int .i64 0, .int .i64 0, .int .i64 0, .int .i64 0] 28 (0, 0))) = V20 at T21 E ⊢
            generalize V15.heap.size = eb at E ⊢
            refine wpAnyH_ready (rs := [6]) (by kernel_rfl) (by simp) ?_
            refine AllReadyH.cons (o := { dst := some 54, op := Go.Op.load 29 (Go.Operand.tmp 53), type := 29, pos := "l17_make.go:241", after := #[{ on := 5, ground := Go.Ground.data }], guard := none }) rfl (fun K hK => ?_) (AllReadyH.nil)
            · have y3 : V20.cell? ⟨g, k * 5 + 3, none⟩ = some (.slice (some ⟨pg, 0, none⟩) (c k).pn pc) := (by have := (T21.out.cells hk).1.2.2.2.1; rw [HE.out] at this; exact this)
              go_simp
              refine hK.out _ _ trivial (fun hHeld => ?_)
              clear hK K y3
              try simp only [Act.put, List.setIfInBounds_toArray, List.set_cons_zero, List.set_cons_succ]
              refine wpAnyH_ready (rs := [15]) (by kernel_rfl) (by simp) ?_
              refine AllReadyH.cons (o := { dst := some 63, op := Go.Op.call { callee := Go.Callee.builtin Go.Builtin.append, args := #[Go.Operand.tmp 54, Go.Operand.tmp 62], argTypes := #[29, 29] }, type := 29, pos := "l17_make.go:241", after := #[{ on := 6, ground := Go.Ground.data }, { on := 14, ground := Go.Ground.data }, { on := 12, ground := Go.Ground.chain }], guard := none }) rfl (fun K hK => ?_) (AllReadyH.nil)
              · rw [if_pos (by rfl)]
                obtain ⟨⟨zz, hzz⟩, _, _⟩ := T21.out.r k hk
                have HZ9 : Hid (V20.ownsRow w.heap.size 28 6 (c k).pv (c k).pn (rowPA6 zz (c k).pn)) := hzz
                rw [HE.out] at hzz
                refine oper_append (Operand.tmp 54) (Operand.tmp 62) 29 rfl w.heap.size 28 i4 (.agg #[.int .i64 0, .int .i64 0, .int .i64 0, .int .i64 0, .int .i64 0, .int .i64 0]) 6 48 Try.underlying29 hi4 hz40 hz41 hz42 rfl (by decide) (.slice (some ⟨pg, 0, none⟩) (c k).pn pc) (c k).pn (rowPA6 zz (c k).pn) rfl hzz ⟨eb, 0, none⟩ 1 1 [.int .i64 xp, .int .i64 1, .int .i64 0, .int .i64 0, .int .i64 0, .int .i64 0] rfl rfl (cb_src E.out) (fun u hu => by simp at hu; rcases hu with rfl | rfl | rfl | rfl | rfl | rfl <;> rfl) (by have := HPN.out k hk; unfold maxLen; omega) (by have := HPN.out k hk; omega) T21.out.m.2.size ?_
                intro v7 V22 hown hgr _
                obtain ⟨g7, c7, rfl, _⟩ := ownsRow_some hown (by omega)
                rw [← HE.out] at hgr
                have TA := hid (T21.out.grow (p := ⟨xp, 1, 0, 0, 0, 0⟩) hk hown hgr (HPN.out k hk) (fun j q hj hq => HAP.out k j q hk hj hq))
                have Y : Hid (V22.cell? ⟨g, k * 5 + 3, none⟩ = some (.slice (some ⟨pg, 0, none⟩) (c k).pn pc) ∧ V22.frozen? ⟨g, k * 5 + 3, none⟩ = false) := hid (by
          have ho3 : V22.ownsRow w.heap.size 31 5 (.slice (some ⟨g, 0, none⟩) n cap) n (rowIV c n) := arow_block T21.out.o (fun q hq => grown_block hgr (T21.out.o.lt q hq).2 (fun e => part_apart HZ9.out T21.out.o q e hq))
          have a3 := (rowIV_get c n k hk).2.2.2.1
          rw [HE.out] at a3
          exact ⟨(own_cell ho3 a3).1, (own_cell ho3 a3).2 _⟩)
                clear hown hgr hzz HZ9
                refine hK.out _ _ trivial (fun hHeld => ?_)
                clear hK K
                try simp only [Act.put, List.setIfInBounds_toArray, List.set_cons_zero, List.set_cons_succ]
                refine wpAnyH_take (i := 16) (oi := { dst := some 64, op := Go.Op.indexAddr 32 (Go.Operand.tmp 48) (Go.Operand.tmp 49), type := 0, pos := "l17_make.go:241", after := #[{ on := 0, ground := Go.Ground.data }, { on := 1, ground := Go.Ground.data }, { on := 0, ground := Go.Ground.phase }, { on := 1, ground := Go.Ground.phase }, { on := 2, ground := Go.Ground.phase }, { on := 3, ground := Go.Ground.phase }, { on := 4, ground := Go.Ground.phase }, { on := 5, ground := Go.Ground.phase }, { on := 6, ground := Go.Ground.phase }, { on := 7, ground := Go.Ground.phase }, { on := 8, ground := Go.Ground.phase }, { on := 9, ground := Go.Ground.phase }, { on := 10, ground := Go.Ground.phase }, { on := 11, ground := Go.Ground.phase }, { on := 12, ground := Go.Ground.phase }, { on := 13, ground := Go.Ground.phase }, { on := 14, ground := Go.Ground.phase }, { on := 15, ground := Go.Ground.phase }], guard := none }) (v := ?_) rfl (by kernel_rfl) (by kernel_rfl) (by kernel_rfl) (fun _ _ _ h => h) (Or.inl ⟨by rfl, ?_⟩) (by assumption) ?_
                rotate_left
                · (intro w hSw; (try dsimp only at hSw); go_simp <;> try with_reducible rfl)
                try simp only [Act.put, List.setIfInBounds_toArray, List.set_cons_zero, List.set_cons_succ]
                refine wpAnyH_take (i := 17) (oi := { dst := some 65, op := Go.Op.fieldAddr 31 (Go.Operand.tmp 64) 3, type := 0, pos := "l17_make.go:241", after := #[{ on := 16, ground := Go.Ground.data }, { on := 0, ground := Go.Ground.phase }, { on := 1, ground := Go.Ground.phase }, { on := 2, ground := Go.Ground.phase }, { on := 3, ground := Go.Ground.phase }, { on := 4, ground := Go.Ground.phase }, { on := 5, ground := Go.Ground.phase }, { on := 6, ground := Go.Ground.phase }, { on := 7, ground := Go.Ground.phase }, { on := 8, ground := Go.Ground.phase }, { on := 9, ground := Go.Ground.phase }, { on := 10, ground := Go.Ground.phase }, { on := 11, ground := Go.Ground.phase }, { on := 12, ground := Go.Ground.phase }, { on := 13, ground := Go.Ground.phase }, { on := 14, ground := Go.Ground.phase }, { on := 15, ground := Go.Ground.phase }], guard := none }) (v := ?_) rfl (by kernel_rfl) (by kernel_rfl) (by kernel_rfl) (fun _ _ _ h => h) (Or.inl ⟨by rfl, ?_⟩) (by assumption) ?_
                rotate_left
                · (intro w hSw; (try dsimp only at hSw); go_simp <;> try with_reducible rfl)
                try simp only [Act.put, List.setIfInBounds_toArray, List.set_cons_zero, List.set_cons_succ]
                have y3 := Y.out.1
                have yf := Y.out.2
                refine wpAnyH_ready (rs := [18]) (by kernel_rfl) (by simp) ?_
                refine AllReadyH.cons (o := { dst := none, op := Go.Op.store 29 (Go.Operand.tmp 65) (Go.Operand.tmp 63), type := 0, pos := "l17_make.go:241", after := #[{ on := 17, ground := Go.Ground.data }, { on := 15, ground := Go.Ground.data }, { on := 15, ground := Go.Ground.chain }, { on := 0, ground := Go.Ground.phase }, { on := 1, ground := Go.Ground.phase }, { on := 2, ground := Go.Ground.phase }, { on := 3, ground := Go.Ground.phase }, { on := 4, ground := Go.Ground.phase }, { on := 5, ground := Go.Ground.phase }, { on := 6, ground := Go.Ground.phase }, { on := 7, ground := Go.Ground.phase }, { on := 8, ground := Go.Ground.phase }, { on := 9, ground := Go.Ground.phase }, { on := 10, ground := Go.Ground.phase }, { on := 11, ground := Go.Ground.phase }, { on := 12, ground := Go.Ground.phase }, { on := 13, ground := Go.Ground.phase }, { on := 14, ground := Go.Ground.phase }, { on := 15, ground := Go.Ground.phase }], guard := none }) rfl (fun K hK => ?_) (AllReadyH.nil)
                go_simp
                refine hK.out _ _ trivial (fun hHeld => ?_)
                clear hK K y3 yf
                try simp only [Act.put, List.setIfInBounds_toArray, List.set_cons_zero, List.set_cons_succ]
                refine wpAnyH_done (by kernel_rfl) ?_ _
                refine NoPanic.normal ?_
                clear hHeld
                go_wp2
                go_returns
                exact SpP.of TA.out hn2
    · have HB3 : Hid (b < w3.heap.size) := HS.out.m.1.lt
      replace HS := hid (HS.out.turn ((Moved.refl HS.out.m.1).drew))
      clear c0 c1 c2 c3 c4 f0 f1 f2 f3
      have HA : w3.drew.cell? ⟨g, k * 5 + 3, none⟩ = some (.slice (some ⟨pg, 0, none⟩) (c k).pn pc) := (by have := (HS.out.cells hk).1.2.2.2.1; rw [HE.out] at this; exact this)
      refine wp_region_noPanic ?_
      refine wp_region_held_drew (S := fun w' => w'.cell? ⟨g, k * 5 + 3, none⟩ = some (.slice (some ⟨pg, 0, none⟩) (c k).pn pc)) (by kernel_rfl) (by exact HA) (fun hHeld => ?_)
      clear HA
      refine wpAnyH_take (i := 0) (oi := { dst := some 75, op := Go.Op.move (Go.Operand.tmp 1), type := 32, pos := "l17_make.go:244", after := #[], guard := none }) (v := ?_) rfl (by kernel_rfl) (by kernel_rfl) (by kernel_rfl) (fun _ _ _ h => h) (Or.inl ⟨by rfl, ?_⟩) (by assumption) ?_
      rotate_left
      · (intro w hSw; (try dsimp only at hSw); go_simp <;> try with_reducible rfl)
      try simp only [Act.put, List.setIfInBounds_toArray, List.set_cons_zero, List.set_cons_succ]
      refine wpAnyH_take (i := 1) (oi := { dst := some 76, op := Go.Op.move (Go.Operand.tmp 5), type := 3, pos := "l17_make.go:244", after := #[], guard := none }) (v := ?_) rfl (by kernel_rfl) (by kernel_rfl) (by kernel_rfl) (fun _ _ _ h => h) (Or.inl ⟨by rfl, ?_⟩) (by assumption) ?_
      rotate_left
      · (intro w hSw; (try dsimp only at hSw); go_simp <;> try with_reducible rfl)
      try simp only [Act.put, List.setIfInBounds_toArray, List.set_cons_zero, List.set_cons_succ]
      refine wpAnyH_take (i := 2) (oi := { dst := some 77, op := Go.Op.indexAddr 32 (Go.Operand.tmp 75) (Go.Operand.tmp 76), type := 0, pos := "l17_make.go:244", after := #[{ on := 0, ground := Go.Ground.data }, { on := 1, ground := Go.Ground.data }], guard := none }) (v := ?_) rfl (by kernel_rfl) (by kernel_rfl) (by kernel_rfl) (fun _ _ _ h => h) (Or.inl ⟨by rfl, ?_⟩) (by assumption) ?_
      rotate_left
      · (intro w hSw; (try dsimp only at hSw); go_simp <;> try with_reducible rfl)
      try simp only [Act.put, List.setIfInBounds_toArray, List.set_cons_zero, List.set_cons_succ]
      refine wpAnyH_take (i := 3) (oi := { dst := some 78, op := Go.Op.fieldAddr 31 (Go.Operand.tmp 77) 3, type := 0, pos := "l17_make.go:244", after := #[{ on := 2, ground := Go.Ground.data }], guard := none }) (v := ?_) rfl (by kernel_rfl) (by kernel_rfl) (by kernel_rfl) (fun _ _ _ h => h) (Or.inl ⟨by rfl, ?_⟩) (by assumption) ?_
      rotate_left
      · (intro w hSw; (try dsimp only at hSw); go_simp <;> try with_reducible rfl)
      try simp only [Act.put, List.setIfInBounds_toArray, List.set_cons_zero, List.set_cons_succ]
      refine wpAnyH_take (i := 4) (oi := { dst := some 79, op := Go.Op.load 29 (Go.Operand.tmp 78), type := 29, pos := "l17_make.go:244", after := #[{ on := 3, ground := Go.Ground.data }], guard := none }) (v := ?_) rfl (by kernel_rfl) (by kernel_rfl) (by kernel_rfl) (fun _ _ _ h => h) (Or.inl ⟨by rfl, ?_⟩) (by assumption) ?_
      rotate_left
      · (intro w hSw; (try dsimp only at hSw); go_simp <;> try with_reducible rfl)
      try simp only [Act.put, List.setIfInBounds_toArray, List.set_cons_zero, List.set_cons_succ]
      refine wpAnyH_take (i := 5) (oi := { dst := some 80, op := Go.Op.move (Go.Operand.tmp 0), type := 70, pos := "l17_make.go:244", after := #[], guard := none }) (v := ?_) rfl (by kernel_rfl) (by kernel_rfl) (by kernel_rfl) (fun _ _ _ h => h) (Or.inl ⟨by rfl, ?_⟩) (by assumption) ?_
      rotate_left
      · (intro w hSw; (try dsimp only at hSw); go_simp <;> try with_reducible rfl)
      try simp only [Act.put, List.setIfInBounds_toArray, List.set_cons_zero, List.set_cons_succ]
      refine wpAnyH_ready (rs := [6]) (by kernel_rfl) (by simp) ?_
      refine AllReadyH.cons (o := { dst := some 81, op := Go.Op.buildSlice 24 3 #[(0, Go.Operand.const (Go.Value.int Go.IntKind.i64 0)), (1, Go.Operand.const (Go.Value.int Go.IntKind.i64 1000000)), (2, Go.Operand.const (Go.Value.int Go.IntKind.i64 1000001))], type := 24, pos := "l17_make.go:244", after := #[], guard := none }) rfl (fun K hK => ?_) (AllReadyH.nil)
      replace HS := hid (HS.out.turn ((Moved.refl HS.out.m.1).alloc (.cells #[.int .i64 0, .int .i64 1000000, .int .i64 1000001] 3 (0, 0))))
      have HA : (w3.drew.alloc (.cells #[.int .i64 0, .int .i64 1000000, .int .i64 1000001] 3 (0, 0))).cell? ⟨g, k * 5 + 3, none⟩ = some (.slice (some ⟨pg, 0, none⟩) (c k).pn pc) := (by have := (HS.out.cells hk).1.2.2.2.1; rw [HE.out] at this; exact this)
      go_simp
      refine hK.out _ _ (by exact HA) (fun hHeld => ?_)
      clear hK K HA
      try simp only [Act.put, List.setIfInBounds_toArray, List.set_cons_zero, List.set_cons_succ]
      refine wpAnyH_ready (rs := [7]) (by kernel_rfl) (by simp) ?_
      refine AllReadyH.cons (o := { dst := some 82, op := Go.Op.call { callee := Go.Callee.value (Go.Operand.func 79), args := #[Go.Operand.tmp 80, Go.Operand.tmp 81], argTypes := #[70, 24] }, type := 3, pos := "l17_make.go:244", after := #[{ on := 5, ground := Go.Ground.data }, { on := 6, ground := Go.Ground.data }], guard := none }) rfl (fun K hK => ?_) (AllReadyH.nil)
      go_simp
      refine (pick_any b _ [0, 1000000, 1000001] _ _ _ HS.out.m.1 (IntRow.made (w := w3.drew) (by simpa using HB3.out) _ _ _ rfl) rfl (by decide) (by decide)).mono ?_
      rintro e w6 ⟨xp, rfl, _, m6⟩
      replace HS := hid (HS.out.turn m6)
      clear m6
      have HA : w6.cell? ⟨g, k * 5 + 3, none⟩ = some (.slice (some ⟨pg, 0, none⟩) (c k).pn pc) := (by have := (HS.out.cells hk).1.2.2.2.1; rw [HE.out] at this; exact this)
      first | refine hK.out _ _ (by exact HA) (fun hHeld => ?_) | (go_wp2_with fail; refine hK.out _ _ (by exact HA) (fun hHeld => ?_))
      clear hK K
      try simp only [Act.put, List.setIfInBounds_toArray, List.set_cons_zero, List.set_cons_succ]
      clear HA
      refine wpAnyH_take (i := 8) (oi := { dst := some 83, op := Go.Op.indexAddr 29 (Go.Operand.tmp 79) (Go.Operand.const (Go.Value.int Go.IntKind.i64 0)), type := 0, pos := "l17_make.go:244", after := #[{ on := 4, ground := Go.Ground.data }, { on := 0, ground := Go.Ground.phase }, { on := 1, ground := Go.Ground.phase }, { on := 2, ground := Go.Ground.phase }, { on := 3, ground := Go.Ground.phase }, { on := 4, ground := Go.Ground.phase }, { on := 5, ground := Go.Ground.phase }, { on := 6, ground := Go.Ground.phase }, { on := 7, ground := Go.Ground.phase }], guard := none }) (v := ?_) rfl (by kernel_rfl) (by kernel_rfl) (by kernel_rfl) (fun _ _ _ h => h) (Or.inl ⟨by rfl, ?_⟩) (by assumption) ?_
      rotate_left
      · (intro w hSw; (try dsimp only at hSw); go_simp <;> try with_reducible rfl)
      try simp only [Act.put, List.setIfInBounds_toArray, List.set_cons_zero, List.set_cons_succ]
      refine wpAnyH_take (i := 9) (oi := { dst := some 84, op := Go.Op.fieldAddr 28 (Go.Operand.tmp 83) 1, type := 0, pos := "l17_make.go:244", after := #[{ on := 8, ground := Go.Ground.data }, { on := 0, ground := Go.Ground.phase }, { on := 1, ground := Go.Ground.phase }, { on := 2, ground := Go.Ground.phase }, { on := 3, ground := Go.Ground.phase }, { on := 4, ground := Go.Ground.phase }, { on := 5, ground := Go.Ground.phase }, { on := 6, ground := Go.Ground.phase }, { on := 7, ground := Go.Ground.phase }], guard := none }) (v := ?_) rfl (by kernel_rfl) (by kernel_rfl) (by kernel_rfl) (fun _ _ _ h => h) (Or.inl ⟨by rfl, ?_⟩) (by assumption) ?_
      rotate_left
      · (intro w hSw; (try dsimp only at hSw); go_simp <;> try with_reducible rfl)
      try simp only [Act.put, List.setIfInBounds_toArray, List.set_cons_zero, List.set_cons_succ]
      refine wpAnyH_ready (rs := [10]) (by kernel_rfl) (by simp) ?_
      refine AllReadyH.cons (o := { dst := none, op := Go.Op.store 3 (Go.Operand.tmp 84) (Go.Operand.tmp 82), type := 0, pos := "l17_make.go:244", after := #[{ on := 9, ground := Go.Ground.data }, { on := 7, ground := Go.Ground.data }, { on := 7, ground := Go.Ground.chain }, { on := 0, ground := Go.Ground.phase }, { on := 1, ground := Go.Ground.phase }, { on := 2, ground := Go.Ground.phase }, { on := 3, ground := Go.Ground.phase }, { on := 4, ground := Go.Ground.phase }, { on := 5, ground := Go.Ground.phase }, { on := 6, ground := Go.Ground.phase }, { on := 7, ground := Go.Ground.phase }], guard := none }) rfl (fun K hK => ?_) (AllReadyH.nil)
      have HP : Hid ((w.heap.size ≤ pg ∧ pg ≠ g) ∧ (∃ xo, w6.cell? ⟨pg, 1, none⟩ = some (.int .i64 xo)) ∧ w6.frozen? ⟨pg, 1, none⟩ = false) := hid (by
          obtain ⟨⟨z1, h1⟩, _, _⟩ := HS.out.r k hk
          rw [HE.out] at h1
          have hx := (own_PAr h1).1.cell (j := 0) hp
          unfold AtPA at hx
          have hne := part_apart h1 HS.out.o pg rfl
          simp [Value.ownBlock] at hne
          exact ⟨⟨(h1.lt pg rfl).1, fun e => hne e.symm⟩, ⟨_, by have := hx.2.1; simpa using this⟩, (own_cell h1 (rowPA6_get z1 _ 0 hp).1).2 _⟩)
      obtain ⟨xo, p1⟩ := HP.out.2.1
      have pf := HP.out.2.2
      replace HS := hid (HS.out.part (o := 1) (y := xp) HP.out.1.1 (by simp [Value.ownBlock]; exact fun e => HP.out.1.2 e.symm))
      have HA : (w6.setCell ⟨pg, 1, none⟩ (.int .i64 xp)).cell? ⟨g, k * 5 + 3, none⟩ = some (.slice (some ⟨pg, 0, none⟩) (c k).pn pc) := (by have := (HS.out.cells hk).1.2.2.2.1; rw [HE.out] at this; exact this)
      go_simp
      refine hK.out _ _ (by exact HA) (fun hHeld => ?_)
      clear hK K HA p1 pf
      try simp only [Act.put, List.setIfInBounds_toArray, List.set_cons_zero, List.set_cons_succ]
      refine wpAnyH_done (by kernel_rfl) ?_ _
      refine NoPanic.normal ?_
      clear hHeld
      go_wp2
      go_returns
      exact SpP.of HS.out hn2
    · have HB3 : Hid (b < w3.heap.size) := HS.out.m.1.lt
      replace HS := hid (HS.out.turn ((Moved.refl HS.out.m.1).drew))
      clear c0 c1 c2 c3 c4 f0 f1 f2 f3
      have HA : w3.drew.cell? ⟨g, k * 5 + 3, none⟩ = some (.slice (some ⟨pg, 0, none⟩) (c k).pn pc) := (by have := (HS.out.cells hk).1.2.2.2.1; rw [HE.out] at this; exact this)
      refine wp_region_noPanic ?_
      refine wp_region_held_drew (S := fun w' => w'.cell? ⟨g, k * 5 + 3, none⟩ = some (.slice (some ⟨pg, 0, none⟩) (c k).pn pc)) (by kernel_rfl) (by exact HA) (fun hHeld => ?_)
      clear HA
      refine wpAnyH_take (i := 0) (oi := { dst := some 94, op := Go.Op.move (Go.Operand.tmp 1), type := 32, pos := "l17_make.go:248", after := #[], guard := none }) (v := ?_) rfl (by kernel_rfl) (by kernel_rfl) (by kernel_rfl) (fun _ _ _ h => h) (Or.inl ⟨by rfl, ?_⟩) (by assumption) ?_
      rotate_left
      · (intro w hSw; (try dsimp only at hSw); go_simp <;> try with_reducible rfl)
      try simp only [Act.put, List.setIfInBounds_toArray, List.set_cons_zero, List.set_cons_succ]
      refine wpAnyH_take (i := 1) (oi := { dst := some 95, op := Go.Op.move (Go.Operand.tmp 5), type := 3, pos := "l17_make.go:248", after := #[], guard := none }) (v := ?_) rfl (by kernel_rfl) (by kernel_rfl) (by kernel_rfl) (fun _ _ _ h => h) (Or.inl ⟨by rfl, ?_⟩) (by assumption) ?_
      rotate_left
      · (intro w hSw; (try dsimp only at hSw); go_simp <;> try with_reducible rfl)
      try simp only [Act.put, List.setIfInBounds_toArray, List.set_cons_zero, List.set_cons_succ]
      refine wpAnyH_take (i := 2) (oi := { dst := some 96, op := Go.Op.indexAddr 32 (Go.Operand.tmp 94) (Go.Operand.tmp 95), type := 0, pos := "l17_make.go:248", after := #[{ on := 0, ground := Go.Ground.data }, { on := 1, ground := Go.Ground.data }], guard := none }) (v := ?_) rfl (by kernel_rfl) (by kernel_rfl) (by kernel_rfl) (fun _ _ _ h => h) (Or.inl ⟨by rfl, ?_⟩) (by assumption) ?_
      rotate_left
      · (intro w hSw; (try dsimp only at hSw); go_simp <;> try with_reducible rfl)
      try simp only [Act.put, List.setIfInBounds_toArray, List.set_cons_zero, List.set_cons_succ]
      refine wpAnyH_take (i := 3) (oi := { dst := some 97, op := Go.Op.fieldAddr 31 (Go.Operand.tmp 96) 3, type := 0, pos := "l17_make.go:248", after := #[{ on := 2, ground := Go.Ground.data }], guard := none }) (v := ?_) rfl (by kernel_rfl) (by kernel_rfl) (by kernel_rfl) (fun _ _ _ h => h) (Or.inl ⟨by rfl, ?_⟩) (by assumption) ?_
      rotate_left
      · (intro w hSw; (try dsimp only at hSw); go_simp <;> try with_reducible rfl)
      try simp only [Act.put, List.setIfInBounds_toArray, List.set_cons_zero, List.set_cons_succ]
      refine wpAnyH_take (i := 4) (oi := { dst := some 98, op := Go.Op.load 29 (Go.Operand.tmp 97), type := 29, pos := "l17_make.go:248", after := #[{ on := 3, ground := Go.Ground.data }], guard := none }) (v := ?_) rfl (by kernel_rfl) (by kernel_rfl) (by kernel_rfl) (fun _ _ _ h => h) (Or.inl ⟨by rfl, ?_⟩) (by assumption) ?_
      rotate_left
      · (intro w hSw; (try dsimp only at hSw); go_simp <;> try with_reducible rfl)
      try simp only [Act.put, List.setIfInBounds_toArray, List.set_cons_zero, List.set_cons_succ]
      refine wpAnyH_take (i := 5) (oi := { dst := some 99, op := Go.Op.move (Go.Operand.tmp 0), type := 70, pos := "l17_make.go:248", after := #[], guard := none }) (v := ?_) rfl (by kernel_rfl) (by kernel_rfl) (by kernel_rfl) (fun _ _ _ h => h) (Or.inl ⟨by rfl, ?_⟩) (by assumption) ?_
      rotate_left
      · (intro w hSw; (try dsimp only at hSw); go_simp <;> try with_reducible rfl)
      try simp only [Act.put, List.setIfInBounds_toArray, List.set_cons_zero, List.set_cons_succ]
      refine wpAnyH_ready (rs := [6]) (by kernel_rfl) (by simp) ?_
      refine AllReadyH.cons (o := { dst := some 100, op := Go.Op.buildSlice 24 3 #[(0, Go.Operand.const (Go.Value.int Go.IntKind.i64 (-1))), (1, Go.Operand.const (Go.Value.int Go.IntKind.i64 100)), (2, Go.Operand.const (Go.Value.int Go.IntKind.i64 101))], type := 24, pos := "l17_make.go:248", after := #[], guard := none }) rfl (fun K hK => ?_) (AllReadyH.nil)
      replace HS := hid (HS.out.turn ((Moved.refl HS.out.m.1).alloc (.cells #[.int .i64 (-1), .int .i64 100, .int .i64 101] 3 (0, 0))))
      have HA : (w3.drew.alloc (.cells #[.int .i64 (-1), .int .i64 100, .int .i64 101] 3 (0, 0))).cell? ⟨g, k * 5 + 3, none⟩ = some (.slice (some ⟨pg, 0, none⟩) (c k).pn pc) := (by have := (HS.out.cells hk).1.2.2.2.1; rw [HE.out] at this; exact this)
      go_simp
      refine hK.out _ _ (by exact HA) (fun hHeld => ?_)
      clear hK K HA
      try simp only [Act.put, List.setIfInBounds_toArray, List.set_cons_zero, List.set_cons_succ]
      refine wpAnyH_ready (rs := [7]) (by kernel_rfl) (by simp) ?_
      refine AllReadyH.cons (o := { dst := some 101, op := Go.Op.call { callee := Go.Callee.value (Go.Operand.func 79), args := #[Go.Operand.tmp 99, Go.Operand.tmp 100], argTypes := #[70, 24] }, type := 3, pos := "l17_make.go:248", after := #[{ on := 5, ground := Go.Ground.data }, { on := 6, ground := Go.Ground.data }], guard := none }) rfl (fun K hK => ?_) (AllReadyH.nil)
      go_simp
      refine (pick_any b _ [-1, 100, 101] _ _ _ HS.out.m.1 (IntRow.made (w := w3.drew) (by simpa using HB3.out) _ _ _ rfl) rfl (by decide) (by decide)).mono ?_
      rintro e w6 ⟨xp, rfl, _, m6⟩
      replace HS := hid (HS.out.turn m6)
      clear m6
      have HA : w6.cell? ⟨g, k * 5 + 3, none⟩ = some (.slice (some ⟨pg, 0, none⟩) (c k).pn pc) := (by have := (HS.out.cells hk).1.2.2.2.1; rw [HE.out] at this; exact this)
      first | refine hK.out _ _ (by exact HA) (fun hHeld => ?_) | (go_wp2_with fail; refine hK.out _ _ (by exact HA) (fun hHeld => ?_))
      clear hK K
      try simp only [Act.put, List.setIfInBounds_toArray, List.set_cons_zero, List.set_cons_succ]
      clear HA
      refine wpAnyH_take (i := 8) (oi := { dst := some 102, op := Go.Op.indexAddr 29 (Go.Operand.tmp 98) (Go.Operand.const (Go.Value.int Go.IntKind.i64 0)), type := 0, pos := "l17_make.go:248", after := #[{ on := 4, ground := Go.Ground.data }, { on := 0, ground := Go.Ground.phase }, { on := 1, ground := Go.Ground.phase }, { on := 2, ground := Go.Ground.phase }, { on := 3, ground := Go.Ground.phase }, { on := 4, ground := Go.Ground.phase }, { on := 5, ground := Go.Ground.phase }, { on := 6, ground := Go.Ground.phase }, { on := 7, ground := Go.Ground.phase }], guard := none }) (v := ?_) rfl (by kernel_rfl) (by kernel_rfl) (by kernel_rfl) (fun _ _ _ h => h) (Or.inl ⟨by rfl, ?_⟩) (by assumption) ?_
      rotate_left
      · (intro w hSw; (try dsimp only at hSw); go_simp <;> try with_reducible rfl)
      try simp only [Act.put, List.setIfInBounds_toArray, List.set_cons_zero, List.set_cons_succ]
      refine wpAnyH_take (i := 9) (oi := { dst := some 103, op := Go.Op.fieldAddr 28 (Go.Operand.tmp 102) 2, type := 0, pos := "l17_make.go:248", after := #[{ on := 8, ground := Go.Ground.data }, { on := 0, ground := Go.Ground.phase }, { on := 1, ground := Go.Ground.phase }, { on := 2, ground := Go.Ground.phase }, { on := 3, ground := Go.Ground.phase }, { on := 4, ground := Go.Ground.phase }, { on := 5, ground := Go.Ground.phase }, { on := 6, ground := Go.Ground.phase }, { on := 7, ground := Go.Ground.phase }], guard := none }) (v := ?_) rfl (by kernel_rfl) (by kernel_rfl) (by kernel_rfl) (fun _ _ _ h => h) (Or.inl ⟨by rfl, ?_⟩) (by assumption) ?_
      rotate_left
      · (intro w hSw; (try dsimp only at hSw); go_simp <;> try with_reducible rfl)
      try simp only [Act.put, List.setIfInBounds_toArray, List.set_cons_zero, List.set_cons_succ]
      refine wpAnyH_ready (rs := [10]) (by kernel_rfl) (by simp) ?_
      refine AllReadyH.cons (o := { dst := none, op := Go.Op.store 3 (Go.Operand.tmp 103) (Go.Operand.tmp 101), type := 0, pos := "l17_make.go:248", after := #[{ on := 9, ground := Go.Ground.data }, { on := 7, ground := Go.Ground.data }, { on := 7, ground := Go.Ground.chain }, { on := 0, ground := Go.Ground.phase }, { on := 1, ground := Go.Ground.phase }, { on := 2, ground := Go.Ground.phase }, { on := 3, ground := Go.Ground.phase }, { on := 4, ground := Go.Ground.phase }, { on := 5, ground := Go.Ground.phase }, { on := 6, ground := Go.Ground.phase }, { on := 7, ground := Go.Ground.phase }], guard := none }) rfl (fun K hK => ?_) (AllReadyH.nil)
      have HP : Hid ((w.heap.size ≤ pg ∧ pg ≠ g) ∧ (∃ xo, w6.cell? ⟨pg, 2, none⟩ = some (.int .i64 xo)) ∧ w6.frozen? ⟨pg, 2, none⟩ = false) := hid (by
          obtain ⟨⟨z1, h1⟩, _, _⟩ := HS.out.r k hk
          rw [HE.out] at h1
          have hx := (own_PAr h1).1.cell (j := 0) hp
          unfold AtPA at hx
          have hne := part_apart h1 HS.out.o pg rfl
          simp [Value.ownBlock] at hne
          exact ⟨⟨(h1.lt pg rfl).1, fun e => hne e.symm⟩, ⟨_, by have := hx.2.2.1; simpa using this⟩, (own_cell h1 (rowPA6_get z1 _ 0 hp).1).2 _⟩)
      obtain ⟨xo, p1⟩ := HP.out.2.1
      have pf := HP.out.2.2
      replace HS := hid (HS.out.part (o := 2) (y := xp) HP.out.1.1 (by simp [Value.ownBlock]; exact fun e => HP.out.1.2 e.symm))
      have HA : (w6.setCell ⟨pg, 2, none⟩ (.int .i64 xp)).cell? ⟨g, k * 5 + 3, none⟩ = some (.slice (some ⟨pg, 0, none⟩) (c k).pn pc) := (by have := (HS.out.cells hk).1.2.2.2.1; rw [HE.out] at this; exact this)
      go_simp
      refine hK.out _ _ (by exact HA) (fun hHeld => ?_)
      clear hK K HA p1 pf
      try simp only [Act.put, List.setIfInBounds_toArray, List.set_cons_zero, List.set_cons_succ]
      refine wpAnyH_done (by kernel_rfl) ?_ _
      refine NoPanic.normal ?_
      clear hHeld
      go_wp2
      go_returns
      exact SpP.of HS.out hn2
    · go_returns
      exact SpP.of (c := c) ⟨HS.out.m.alloc _, ⟨rfl, .inr ⟨w3.heap.size, 0, #[], rfl, HS.out.m.2.size, (CB.new #[] 31), by omega, by unfold maxLen; omega, rfl, rfl⟩⟩, fun j hj => by omega, HS.out.lo⟩ (by omega)
  · have hp2 : ¬ (0 : Int) < ((c k).pn : Int) := by omega
    go_wp2_with (go_at_call 60; clear tk3; refine (below_any b _ _ HS.out.m.1).mono ?_; rintro e w3 ⟨y, rfl, ya, yb, _, m⟩; replace yb := yb (by omega); replace HS := hid (HS.out.turn m); clear m; obtain ⟨⟨c0, c1, c2, c3, c4⟩, hf⟩ := HS.out.cells hk; rw [HE.out] at c3; have f0 := hf (k * 5); have f1 := hf (k * 5 + 1); have f2 := hf (k * 5 + 2); have f3 := hf (k * 5 + 3); clear hf; rcases (show y = 0 ∨ y = 1 ∨ y = 2 ∨ y = 3 ∨ y = 4 ∨ y = 5 ∨ y = 6 by omega) with rfl | rfl | rfl | rfl | rfl | rfl | rfl)
    · go_wp2_with (go_at_call 102; refine (pickS_any b w3.heap.size 3 _ _ (HS.out.m.1.alloc _) (CB.new _ _) (by have := HS.out.m.1.lt; omega) (by omega) (fun j hj => by rcases (by omega : j = 0 ∨ j = 1 ∨ j = 2) with rfl | rfl | rfl <;> exact ⟨_, rfl, by decide⟩)).mono ?_; rintro e w6 ⟨⟨t, rfl, ht⟩, m6⟩; have HT : Hid (t.size ≤ 40) := ht; clear ht; replace HS := hid ((HS.out.turn ((Moved.refl HS.out.m.1).alloc _)).turn m6); clear m6; clear c0 c1 c2 c3 c4 f0 f1 f2 f3; obtain ⟨⟨c0, c1, c2, c3, c4⟩, hf⟩ := HS.out.cells hk; rw [HE.out] at c3; have f0 := hf (k * 5); have f1 := hf (k * 5 + 1); have f2 := hf (k * 5 + 2); have f3 := hf (k * 5 + 3); clear hf)
      go_returns
      exact SpP.of (HS.out.word (t := 0) (x := { c k with nm := t }) hk (by omega) rfl (by obtain ⟨q1, q2, q3⟩ := HS.out.r k hk; exact ⟨q1, q2, ⟨HT.out, q3.2⟩⟩)) hn2
    · go_wp2_with (go_at_call 79; refine (pick_any b _ [0, 1000000, 1000001] _ _ _ (HS.out.m.1.alloc _) (IntRow.made HS.out.m.1.lt _ _ _ rfl) rfl (by decide) (by decide)).mono ?_; rintro e w6 ⟨xp, rfl, _, m6⟩; replace HS := hid ((HS.out.turn ((Moved.refl HS.out.m.1).alloc _)).turn m6); clear m6; clear c0 c1 c2 c3 c4 f0 f1 f2 f3; obtain ⟨⟨c0, c1, c2, c3, c4⟩, hf⟩ := HS.out.cells hk; rw [HE.out] at c3; have f0 := hf (k * 5); have f1 := hf (k * 5 + 1); have f2 := hf (k * 5 + 2); have f3 := hf (k * 5 + 3); clear hf)
      go_returns
      exact SpP.of (HS.out.word (t := 1) (x := { c k with ba := xp }) hk (by omega) rfl (by obtain ⟨q1, q2, q3⟩ := HS.out.r k hk; exact ⟨q1, q2, q3⟩)) hn2
    · go_returns
      exact SpP.of (HS.out.word (t := 2) (x := { c k with ph := !(c k).ph }) hk (by omega) rfl (by obtain ⟨q1, q2, q3⟩ := HS.out.r k hk; exact ⟨q1, q2, q3⟩)) hn2
    · clear c0 c1 c2 c3 c4 f0 f1 f2 f3
      have TD := hid (HS.out.turn ((Moved.refl HS.out.m.1).drew))
      refine wp_region_noPanic ?_
      refine wp_region_held_drew (S := fun _ => True) (by kernel_rfl) (by exact trivial) (fun hHeld => ?_)
      generalize hVD : w3.drew = VD at TD hHeld ⊢
      clear hVD
      refine wpAnyH_take (i := 0) (oi := { dst := some 48, op := Go.Op.move (Go.Operand.tmp 1), type := 32, pos := "l17_make.go:241", after := #[], guard := none }) (v := ?_) rfl (by kernel_rfl) (by kernel_rfl) (by kernel_rfl) (fun _ _ _ h => h) (Or.inl ⟨by rfl, ?_⟩) (by assumption) ?_
      rotate_left
      · (intro w hSw; (try dsimp only at hSw); go_simp <;> try with_reducible rfl)
      try simp only [Act.put, List.setIfInBounds_toArray, List.set_cons_zero, List.set_cons_succ]
      refine wpAnyH_take (i := 1) (oi := { dst := some 49, op := Go.Op.move (Go.Operand.tmp 5), type := 3, pos := "l17_make.go:241", after := #[], guard := none }) (v := ?_) rfl (by kernel_rfl) (by kernel_rfl) (by kernel_rfl) (fun _ _ _ h => h) (Or.inl ⟨by rfl, ?_⟩) (by assumption) ?_
      rotate_left
      · (intro w hSw; (try dsimp only at hSw); go_simp <;> try with_reducible rfl)
      try simp only [Act.put, List.setIfInBounds_toArray, List.set_cons_zero, List.set_cons_succ]
      refine wpAnyH_take (i := 2) (oi := { dst := some 50, op := Go.Op.move (Go.Operand.tmp 1), type := 32, pos := "l17_make.go:241", after := #[], guard := none }) (v := ?_) rfl (by kernel_rfl) (by kernel_rfl) (by kernel_rfl) (fun _ _ _ h => h) (Or.inl ⟨by rfl, ?_⟩) (by assumption) ?_
      rotate_left
      · (intro w hSw; (try dsimp only at hSw); go_simp <;> try with_reducible rfl)
      try simp only [Act.put, List.setIfInBounds_toArray, List.set_cons_zero, List.set_cons_succ]
      refine wpAnyH_take (i := 3) (oi := { dst := some 51, op := Go.Op.move (Go.Operand.tmp 5), type := 3, pos := "l17_make.go:241", after := #[], guard := none }) (v := ?_) rfl (by kernel_rfl) (by kernel_rfl) (by kernel_rfl) (fun _ _ _ h => h) (Or.inl ⟨by rfl, ?_⟩) (by assumption) ?_
      rotate_left
      · (intro w hSw; (try dsimp only at hSw); go_simp <;> try with_reducible rfl)
      try simp only [Act.put, List.setIfInBounds_toArray, List.set_cons_zero, List.set_cons_succ]
      refine wpAnyH_take (i := 4) (oi := { dst := some 52, op := Go.Op.indexAddr 32 (Go.Operand.tmp 50) (Go.Operand.tmp 51), type := 0, pos := "l17_make.go:241", after := #[{ on := 2, ground := Go.Ground.data }, { on := 3, ground := Go.Ground.data }], guard := none }) (v := ?_) rfl (by kernel_rfl) (by kernel_rfl) (by kernel_rfl) (fun _ _ _ h => h) (Or.inl ⟨by rfl, ?_⟩) (by assumption) ?_
      rotate_left
      · (intro w hSw; (try dsimp only at hSw); go_simp <;> try with_reducible rfl)
      try simp only [Act.put, List.setIfInBounds_toArray, List.set_cons_zero, List.set_cons_succ]
      refine wpAnyH_take (i := 5) (oi := { dst := some 53, op := Go.Op.fieldAddr 31 (Go.Operand.tmp 52) 3, type := 0, pos := "l17_make.go:241", after := #[{ on := 4, ground := Go.Ground.data }], guard := none }) (v := ?_) rfl (by kernel_rfl) (by kernel_rfl) (by kernel_rfl) (fun _ _ _ h => h) (Or.inl ⟨by rfl, ?_⟩) (by assumption) ?_
      rotate_left
      · (intro w hSw; (try dsimp only at hSw); go_simp <;> try with_reducible rfl)
      try simp only [Act.put, List.setIfInBounds_toArray, List.set_cons_zero, List.set_cons_succ]
      refine wpAnyH_take (i := 7) (oi := { dst := some 55, op := Go.Op.move (Go.Operand.tmp 0), type := 70, pos := "l17_make.go:241", after := #[], guard := none }) (v := ?_) rfl (by kernel_rfl) (by kernel_rfl) (by kernel_rfl) (fun _ _ _ h => h) (Or.inl ⟨by rfl, ?_⟩) (by assumption) ?_
      rotate_left
      · (intro w hSw; (try dsimp only at hSw); go_simp <;> try with_reducible rfl)
      try simp only [Act.put, List.setIfInBounds_toArray, List.set_cons_zero, List.set_cons_succ]
      refine wpAnyH_take (i := 8) (oi := { dst := some 56, op := Go.Op.move (Go.Operand.tmp 5), type := 3, pos := "l17_make.go:241", after := #[], guard := none }) (v := ?_) rfl (by kernel_rfl) (by kernel_rfl) (by kernel_rfl) (fun _ _ _ h => h) (Or.inl ⟨by rfl, ?_⟩) (by assumption) ?_
      rotate_left
      · (intro w hSw; (try dsimp only at hSw); go_simp <;> try with_reducible rfl)
      try simp only [Act.put, List.setIfInBounds_toArray, List.set_cons_zero, List.set_cons_succ]
      refine wpAnyH_take (i := 9) (oi := { dst := some 57, op := Go.Op.move (Go.Operand.tmp 1), type := 32, pos := "l17_make.go:241", after := #[], guard := none }) (v := ?_) rfl (by kernel_rfl) (by kernel_rfl) (by kernel_rfl) (fun _ _ _ h => h) (Or.inl ⟨by rfl, ?_⟩) (by assumption) ?_
      rotate_left
      · (intro w hSw; (try dsimp only at hSw); go_simp <;> try with_reducible rfl)
      try simp only [Act.put, List.setIfInBounds_toArray, List.set_cons_zero, List.set_cons_succ]
      refine wpAnyH_take (i := 10) (oi := { dst := some 58, op := Go.Op.call { callee := Go.Callee.builtin Go.Builtin.len, args := #[Go.Operand.tmp 57], argTypes := #[32] }, type := 3, pos := "l17_make.go:241", after := #[{ on := 9, ground := Go.Ground.data }], guard := none }) (v := ?_) rfl (by kernel_rfl) (by kernel_rfl) (by kernel_rfl) (fun _ _ _ h => h) (Or.inl ⟨by rfl, ?_⟩) (by assumption) ?_
      rotate_left
      · (intro w hSw; (try dsimp only at hSw); go_simp <;> try with_reducible rfl)
      try simp only [Act.put, List.setIfInBounds_toArray, List.set_cons_zero, List.set_cons_succ]
      refine wpAnyH_ready (rs := [6, 11]) (by kernel_rfl) (by simp) ?_
      refine AllReadyH.cons (o := { dst := some 54, op := Go.Op.load 29 (Go.Operand.tmp 53), type := 29, pos := "l17_make.go:241", after := #[{ on := 5, ground := Go.Ground.data }], guard := none }) rfl (fun K hK => ?_) (AllReadyH.cons (o := { dst := some 59, op := Go.Op.buildSlice 24 3 #[(0, Go.Operand.tmp 56), (1, Go.Operand.const (Go.Value.int Go.IntKind.i64 0)), (2, Go.Operand.tmp 58)], type := 24, pos := "l17_make.go:241", after := #[{ on := 8, ground := Go.Ground.data }, { on := 10, ground := Go.Ground.data }], guard := none }) rfl (fun K hK => ?_) (AllReadyH.nil))
      · have y3 : VD.cell? ⟨g, k * 5 + 3, none⟩ = some (.slice pa (c k).pn pc) := (by have := (TD.out.cells hk).1.2.2.2.1; rw [HE.out] at this; exact this)
        go_simp
        refine hK.out _ _ trivial (fun hHeld => ?_)
        clear hK K y3
        try simp only [Act.put, List.setIfInBounds_toArray, List.set_cons_zero, List.set_cons_succ]
        refine wpAnyH_ready (rs := [11]) (by kernel_rfl) (by simp) ?_
        refine AllReadyH.cons (o := { dst := some 59, op := Go.Op.buildSlice 24 3 #[(0, Go.Operand.tmp 56), (1, Go.Operand.const (Go.Value.int Go.IntKind.i64 0)), (2, Go.Operand.tmp 58)], type := 24, pos := "l17_make.go:241", after := #[{ on := 8, ground := Go.Ground.data }, { on := 10, ground := Go.Ground.data }], guard := none }) rfl (fun K hK => ?_) (AllReadyH.nil)
        · have T2 := hid (TD.out.turn ((Moved.refl TD.out.m.1).alloc (.cells #[.int .i64 (k : Int), .int .i64 0, .int .i64 (n : Int)] 3 (0, 0))))
          have IR9 := hid (IntRow.made (w := VD) (b := b) TD.out.m.1.lt #[.int .i64 (k : Int), .int .i64 0, .int .i64 (n : Int)] 3 [(k : Int), 0, (n : Int)] rfl)
          go_simp
          refine hK.out _ _ trivial (fun hHeld => ?_)
          clear hK K
          try simp only [Act.put, List.setIfInBounds_toArray, List.set_cons_zero, List.set_cons_succ]
          generalize (VD.alloc (.cells #[.int .i64 (k : Int), .int .i64 0, .int .i64 (n : Int)] 3 (0, 0))) = V1 at T2 IR9 ⊢
          generalize VD.heap.size = ib at IR9 ⊢
          refine wpAnyH_ready (rs := [12]) (by kernel_rfl) (by simp) ?_
          refine AllReadyH.cons (o := { dst := some 60, op := Go.Op.call { callee := Go.Callee.value (Go.Operand.func 79), args := #[Go.Operand.tmp 55, Go.Operand.tmp 59], argTypes := #[70, 24] }, type := 3, pos := "l17_make.go:241", after := #[{ on := 7, ground := Go.Ground.data }, { on := 11, ground := Go.Ground.data }], guard := none }) rfl (fun K hK => ?_) (AllReadyH.nil)
          · go_simp
            refine (pick_any b _ [(k : Int), 0, (n : Int)] _ _ _ T2.out.m.1 IR9.out rfl (by simp) (by simp)).mono ?_
            rintro e V3 ⟨xp, rfl, _, m6⟩
            have T4 := hid (T2.out.turn m6)
            clear m6
            refine hK.out _ _ trivial (fun hHeld => ?_)
            clear hK K
            try simp only [Act.put, List.setIfInBounds_toArray, List.set_cons_zero, List.set_cons_succ]
            refine wpAnyH_take (i := 13) (oi := { dst := some 61, op := Go.Op.build 28 #[(0, Go.Operand.tmp 60), (1, Go.Operand.const (Go.Value.int Go.IntKind.i64 1))], type := 28, pos := "l17_make.go:241", after := #[{ on := 12, ground := Go.Ground.data }], guard := none }) (v := ?_) rfl (by kernel_rfl) (by kernel_rfl) (by kernel_rfl) (fun _ _ _ h => h) (Or.inl ⟨by rfl, ?_⟩) (by assumption) ?_
            rotate_left
            · (intro w hSw; (try dsimp only at hSw); go_simp <;> try with_reducible rfl)
            try simp only [Act.put, List.setIfInBounds_toArray, List.set_cons_zero, List.set_cons_succ]
            refine wpAnyH_ready (rs := [14]) (by kernel_rfl) (by simp) ?_
            refine AllReadyH.cons (o := { dst := some 62, op := Go.Op.buildSlice 29 1 #[(0, Go.Operand.tmp 61)], type := 29, pos := "l17_make.go:241", after := #[{ on := 13, ground := Go.Ground.data }], guard := none }) rfl (fun K hK => ?_) (AllReadyH.nil)
            · go_simp
              have T6 := hid (T4.out.turn ((Moved.refl T4.out.m.1).alloc (.cells #[.int .i64 xp, .int .i64 1, .int .i64 0, .int .i64 0, .int .i64 0, .int .i64 0] 28 (0, 0))))
              have E := hid (CB.new (w := V3) #[.int .i64 xp, .int .i64 1, .int .i64 0, .int .i64 0, .int .i64 0, .int .i64 0] 28)
              refine hK.out _ _ trivial (fun hHeld => ?_)
              clear hK K
              try simp only [Act.put, List.setIfInBounds_toArray, List.set_cons_zero, List.set_cons_succ]
              generalize (V3.alloc (.cells #[.int .i64 xp, .int .i64 1, .int .i64 0, .int .i64 0, .int .i64 0, .int .i64 0] 28 (0, 0))) = V5 at T6 E ⊢
              generalize V3.heap.size = eb at E ⊢
              refine wpAnyH_ready (rs := [15]) (by kernel_rfl) (by simp) ?_
              refine AllReadyH.cons (o := { dst := some 63, op := Go.Op.call { callee := Go.Callee.builtin Go.Builtin.append, args := #[Go.Operand.tmp 54, Go.Operand.tmp 62], argTypes := #[29, 29] }, type := 29, pos := "l17_make.go:241", after := #[{ on := 6, ground := Go.Ground.data }, { on := 14, ground := Go.Ground.data }, { on := 12, ground := Go.Ground.chain }], guard := none }) rfl (fun K hK => ?_) (AllReadyH.nil)
              · rw [if_pos (by rfl)]
                obtain ⟨⟨zz, hzz⟩, _, _⟩ := T6.out.r k hk
                have HZ9 : Hid (V5.ownsRow w.heap.size 28 6 (c k).pv (c k).pn (rowPA6 zz (c k).pn)) := hzz
                rw [HE.out] at hzz
                refine oper_append (Operand.tmp 54) (Operand.tmp 62) 29 rfl w.heap.size 28 i4 (.agg #[.int .i64 0, .int .i64 0, .int .i64 0, .int .i64 0, .int .i64 0, .int .i64 0]) 6 48 Try.underlying29 hi4 hz40 hz41 hz42 rfl (by decide) (.slice pa (c k).pn pc) (c k).pn (rowPA6 zz (c k).pn) rfl hzz ⟨eb, 0, none⟩ 1 1 [.int .i64 xp, .int .i64 1, .int .i64 0, .int .i64 0, .int .i64 0, .int .i64 0] rfl rfl (cb_src E.out) (fun u hu => by simp at hu; rcases hu with rfl | rfl | rfl | rfl | rfl | rfl <;> rfl) (by have := HPN.out k hk; unfold maxLen; omega) (by have := HPN.out k hk; omega) T6.out.m.2.size ?_
                intro v7 V7 hown hgr _
                obtain ⟨g7, c7, rfl, _⟩ := ownsRow_some hown (by omega)
                rw [← HE.out] at hgr
                have TA := hid (T6.out.grow (p := ⟨xp, 1, 0, 0, 0, 0⟩) hk hown hgr (HPN.out k hk) (fun j q hj hq => HAP.out k j q hk hj hq))
                have Y : Hid (V7.cell? ⟨g, k * 5 + 3, none⟩ = some (.slice pa (c k).pn pc) ∧ V7.frozen? ⟨g, k * 5 + 3, none⟩ = false) := hid (by
          have ho3 : V7.ownsRow w.heap.size 31 5 (.slice (some ⟨g, 0, none⟩) n cap) n (rowIV c n) := arow_block T6.out.o (fun q hq => grown_block hgr (T6.out.o.lt q hq).2 (fun e => part_apart HZ9.out T6.out.o q e hq))
          have a3 := (rowIV_get c n k hk).2.2.2.1
          rw [HE.out] at a3
          exact ⟨(own_cell ho3 a3).1, (own_cell ho3 a3).2 _⟩)
                clear hown hgr hzz HZ9
                refine hK.out _ _ trivial (fun hHeld => ?_)
                clear hK K
                try simp only [Act.put, List.setIfInBounds_toArray, List.set_cons_zero, List.set_cons_succ]
                refine wpAnyH_take (i := 16) (oi := { dst := some 64, op := Go.Op.indexAddr 32 (Go.Operand.tmp 48) (Go.Operand.tmp 49), type := 0, pos := "l17_make.go:241", after := #[{ on := 0, ground := Go.Ground.data }, { on := 1, ground := Go.Ground.data }, { on := 0, ground := Go.Ground.phase }, { on := 1, ground := Go.Ground.phase }, { on := 2, ground := Go.Ground.phase }, { on := 3, ground := Go.Ground.phase }, { on := 4, ground := Go.Ground.phase }, { on := 5, ground := Go.Ground.phase }, { on := 6, ground := Go.Ground.phase }, { on := 7, ground := Go.Ground.phase }, { on := 8, ground := Go.Ground.phase }, { on := 9, ground := Go.Ground.phase }, { on := 10, ground := Go.Ground.phase }, { on := 11, ground := Go.Ground.phase }, { on := 12, ground := Go.Ground.phase }, { on := 13, ground := Go.Ground.phase }, { on := 14, ground := Go.Ground.phase }, { on := 15, ground := Go.Ground.phase }], guard := none }) (v := ?_) rfl (by kernel_rfl) (by kernel_rfl) (by kernel_rfl) (fun _ _ _ h => h) (Or.inl ⟨by rfl, ?_⟩) (by assumption) ?_
                rotate_left
                · (intro w hSw; (try dsimp only at hSw); go_simp <;> try with_reducible rfl)
                try simp only [Act.put, List.setIfInBounds_toArray, List.set_cons_zero, List.set_cons_succ]
                refine wpAnyH_take (i := 17) (oi := { dst := some 65, op := Go.Op.fieldAddr 31 (Go.Operand.tmp 64) 3, type := 0, pos := "l17_make.go:241", after := #[{ on := 16, ground := Go.Ground.data }, { on := 0, ground := Go.Ground.phase }, { on := 1, ground := Go.Ground.phase }, { on := 2, ground := Go.Ground.phase }, { on := 3, ground := Go.Ground.phase }, { on := 4, ground := Go.Ground.phase }, { on := 5, ground := Go.Ground.phase }, { on := 6, ground := Go.Ground.phase }, { on := 7, ground := Go.Ground.phase }, { on := 8, ground := Go.Ground.phase }, { on := 9, ground := Go.Ground.phase }, { on := 10, ground := Go.Ground.phase }, { on := 11, ground := Go.Ground.phase }, { on := 12, ground := Go.Ground.phase }, { on := 13, ground := Go.Ground.phase }, { on := 14, ground := Go.Ground.phase }, { on := 15, ground := Go.Ground.phase }], guard := none }) (v := ?_) rfl (by kernel_rfl) (by kernel_rfl) (by kernel_rfl) (fun _ _ _ h => h) (Or.inl ⟨by rfl, ?_⟩) (by assumption) ?_
                rotate_left
                · (intro w hSw; (try dsimp only at hSw); go_simp <;> try with_reducible rfl)
                try simp only [Act.put, List.setIfInBounds_toArray, List.set_cons_zero, List.set_cons_succ]
                have y3 := Y.out.1
                have yf := Y.out.2
                refine wpAnyH_ready (rs := [18]) (by kernel_rfl) (by simp) ?_
                refine AllReadyH.cons (o := { dst := none, op := Go.Op.store 29 (Go.Operand.tmp 65) (Go.Operand.tmp 63), type := 0, pos := "l17_make.go:241", after := #[{ on := 17, ground := Go.Ground.data }, { on := 15, ground := Go.Ground.data }, { on := 15, ground := Go.Ground.chain }, { on := 0, ground := Go.Ground.phase }, { on := 1, ground := Go.Ground.phase }, { on := 2, ground := Go.Ground.phase }, { on := 3, ground := Go.Ground.phase }, { on := 4, ground := Go.Ground.phase }, { on := 5, ground := Go.Ground.phase }, { on := 6, ground := Go.Ground.phase }, { on := 7, ground := Go.Ground.phase }, { on := 8, ground := Go.Ground.phase }, { on := 9, ground := Go.Ground.phase }, { on := 10, ground := Go.Ground.phase }, { on := 11, ground := Go.Ground.phase }, { on := 12, ground := Go.Ground.phase }, { on := 13, ground := Go.Ground.phase }, { on := 14, ground := Go.Ground.phase }, { on := 15, ground := Go.Ground.phase }], guard := none }) rfl (fun K hK => ?_) (AllReadyH.nil)
                go_simp
                refine hK.out _ _ trivial (fun hHeld => ?_)
                clear hK K y3 yf
                try simp only [Act.put, List.setIfInBounds_toArray, List.set_cons_zero, List.set_cons_succ]
                refine wpAnyH_done (by kernel_rfl) ?_ _
                refine NoPanic.normal ?_
                clear hHeld
                go_wp2
                go_returns
                exact SpP.of TA.out hn2
      · have T9 := hid (TD.out.turn ((Moved.refl TD.out.m.1).alloc (.cells #[.int .i64 (k : Int), .int .i64 0, .int .i64 (n : Int)] 3 (0, 0))))
        have IR9 := hid (IntRow.made (w := VD) (b := b) TD.out.m.1.lt #[.int .i64 (k : Int), .int .i64 0, .int .i64 (n : Int)] 3 [(k : Int), 0, (n : Int)] rfl)
        go_simp
        refine hK.out _ _ trivial (fun hHeld => ?_)
        clear hK K
        try simp only [Act.put, List.setIfInBounds_toArray, List.set_cons_zero, List.set_cons_succ]
        generalize (VD.alloc (.cells #[.int .i64 (k : Int), .int .i64 0, .int .i64 (n : Int)] 3 (0, 0))) = V8 at T9 IR9 ⊢
        generalize VD.heap.size = ib at IR9 ⊢
        refine wpAnyH_ready (rs := [6, 12]) (by kernel_rfl) (by simp) ?_
        refine AllReadyH.cons (o := { dst := some 54, op := Go.Op.load 29 (Go.Operand.tmp 53), type := 29, pos := "l17_make.go:241", after := #[{ on := 5, ground := Go.Ground.data }], guard := none }) rfl (fun K hK => ?_) (AllReadyH.cons (o := { dst := some 60, op := Go.Op.call { callee := Go.Callee.value (Go.Operand.func 79), args := #[Go.Operand.tmp 55, Go.Operand.tmp 59], argTypes := #[70, 24] }, type := 3, pos := "l17_make.go:241", after := #[{ on := 7, ground := Go.Ground.data }, { on := 11, ground := Go.Ground.data }], guard := none }) rfl (fun K hK => ?_) (AllReadyH.nil))
        · have y3 : V8.cell? ⟨g, k * 5 + 3, none⟩ = some (.slice pa (c k).pn pc) := (by have := (T9.out.cells hk).1.2.2.2.1; rw [HE.out] at this; exact this)
          go_simp
          refine hK.out _ _ trivial (fun hHeld => ?_)
          clear hK K y3
          try simp only [Act.put, List.setIfInBounds_toArray, List.set_cons_zero, List.set_cons_succ]
          refine wpAnyH_ready (rs := [12]) (by kernel_rfl) (by simp) ?_
          refine AllReadyH.cons (o := { dst := some 60, op := Go.Op.call { callee := Go.Callee.value (Go.Operand.func 79), args := #[Go.Operand.tmp 55, Go.Operand.tmp 59], argTypes := #[70, 24] }, type := 3, pos := "l17_make.go:241", after := #[{ on := 7, ground := Go.Ground.data }, { on := 11, ground := Go.Ground.data }], guard := none }) rfl (fun K hK => ?_) (AllReadyH.nil)
          · go_simp
            refine (pick_any b _ [(k : Int), 0, (n : Int)] _ _ _ T9.out.m.1 IR9.out rfl (by simp) (by simp)).mono ?_
            rintro e V10 ⟨xp, rfl, _, m6⟩
            have T11 := hid (T9.out.turn m6)
            clear m6
            refine hK.out _ _ trivial (fun hHeld => ?_)
            clear hK K
            try simp only [Act.put, List.setIfInBounds_toArray, List.set_cons_zero, List.set_cons_succ]
            refine wpAnyH_take (i := 13) (oi := { dst := some 61, op := Go.Op.build 28 #[(0, Go.Operand.tmp 60), (1, Go.Operand.const (Go.Value.int Go.IntKind.i64 1))], type := 28, pos := "l17_make.go:241", after := #[{ on := 12, ground := Go.Ground.data }], guard := none }) (v := ?_) rfl (by kernel_rfl) (by kernel_rfl) (by kernel_rfl) (fun _ _ _ h => h) (Or.inl ⟨by rfl, ?_⟩) (by assumption) ?_
            rotate_left
            · (intro w hSw; (try dsimp only at hSw); go_simp <;> try with_reducible rfl)
            try simp only [Act.put, List.setIfInBounds_toArray, List.set_cons_zero, List.set_cons_succ]
            refine wpAnyH_ready (rs := [14]) (by kernel_rfl) (by simp) ?_
            refine AllReadyH.cons (o := { dst := some 62, op := Go.Op.buildSlice 29 1 #[(0, Go.Operand.tmp 61)], type := 29, pos := "l17_make.go:241", after := #[{ on := 13, ground := Go.Ground.data }], guard := none }) rfl (fun K hK => ?_) (AllReadyH.nil)
            · go_simp
              have T13 := hid (T11.out.turn ((Moved.refl T11.out.m.1).alloc (.cells #[.int .i64 xp, .int .i64 1, .int .i64 0, .int .i64 0, .int .i64 0, .int .i64 0] 28 (0, 0))))
              have E := hid (CB.new (w := V10) #[.int .i64 xp, .int .i64 1, .int .i64 0, .int .i64 0, .int .i64 0, .int .i64 0] 28)
              refine hK.out _ _ trivial (fun hHeld => ?_)
              clear hK K
              try simp only [Act.put, List.setIfInBounds_toArray, List.set_cons_zero, List.set_cons_succ]
              generalize (V10.alloc (.cells #[.int .i64 xp, .int .i64 1, .int .i64 0, .int .i64 0, .int .i64 0, .int .i64 0] 28 (0, 0))) = V12 at T13 E ⊢
              generalize V10.heap.size = eb at E ⊢
              refine wpAnyH_ready (rs := [15]) (by kernel_rfl) (by simp) ?_
              refine AllReadyH.cons (o := { dst := some 63, op := Go.Op.call { callee := Go.Callee.builtin Go.Builtin.append, args := #[Go.Operand.tmp 54, Go.Operand.tmp 62], argTypes := #[29, 29] }, type := 29, pos := "l17_make.go:241", after := #[{ on := 6, ground := Go.Ground.data }, { on := 14, ground := Go.Ground.data }, { on := 12, ground := Go.Ground.chain }], guard := none }) rfl (fun K hK => ?_) (AllReadyH.nil)
              · rw [if_pos (by rfl)]
                obtain ⟨⟨zz, hzz⟩, _, _⟩ := T13.out.r k hk
                have HZ9 : Hid (V12.ownsRow w.heap.size 28 6 (c k).pv (c k).pn (rowPA6 zz (c k).pn)) := hzz
                rw [HE.out] at hzz
                refine oper_append (Operand.tmp 54) (Operand.tmp 62) 29 rfl w.heap.size 28 i4 (.agg #[.int .i64 0, .int .i64 0, .int .i64 0, .int .i64 0, .int .i64 0, .int .i64 0]) 6 48 Try.underlying29 hi4 hz40 hz41 hz42 rfl (by decide) (.slice pa (c k).pn pc) (c k).pn (rowPA6 zz (c k).pn) rfl hzz ⟨eb, 0, none⟩ 1 1 [.int .i64 xp, .int .i64 1, .int .i64 0, .int .i64 0, .int .i64 0, .int .i64 0] rfl rfl (cb_src E.out) (fun u hu => by simp at hu; rcases hu with rfl | rfl | rfl | rfl | rfl | rfl <;> rfl) (by have := HPN.out k hk; unfold maxLen; omega) (by have := HPN.out k hk; omega) T13.out.m.2.size ?_
                intro v7 V14 hown hgr _
                obtain ⟨g7, c7, rfl, _⟩ := ownsRow_some hown (by omega)
                rw [← HE.out] at hgr
                have TA := hid (T13.out.grow (p := ⟨xp, 1, 0, 0, 0, 0⟩) hk hown hgr (HPN.out k hk) (fun j q hj hq => HAP.out k j q hk hj hq))
                have Y : Hid (V14.cell? ⟨g, k * 5 + 3, none⟩ = some (.slice pa (c k).pn pc) ∧ V14.frozen? ⟨g, k * 5 + 3, none⟩ = false) := hid (by
          have ho3 : V14.ownsRow w.heap.size 31 5 (.slice (some ⟨g, 0, none⟩) n cap) n (rowIV c n) := arow_block T13.out.o (fun q hq => grown_block hgr (T13.out.o.lt q hq).2 (fun e => part_apart HZ9.out T13.out.o q e hq))
          have a3 := (rowIV_get c n k hk).2.2.2.1
          rw [HE.out] at a3
          exact ⟨(own_cell ho3 a3).1, (own_cell ho3 a3).2 _⟩)
                clear hown hgr hzz HZ9
                refine hK.out _ _ trivial (fun hHeld => ?_)
                clear hK K
                try simp only [Act.put, List.setIfInBounds_toArray, List.set_cons_zero, List.set_cons_succ]
                refine wpAnyH_take (i := 16) (oi := { dst := some 64, op := Go.Op.indexAddr 32 (Go.Operand.tmp 48) (Go.Operand.tmp 49), type := 0, pos := "l17_make.go:241", after := #[{ on := 0, ground := Go.Ground.data }, { on := 1, ground := Go.Ground.data }, { on := 0, ground := Go.Ground.phase }, { on := 1, ground := Go.Ground.phase }, { on := 2, ground := Go.Ground.phase }, { on := 3, ground := Go.Ground.phase }, { on := 4, ground := Go.Ground.phase }, { on := 5, ground := Go.Ground.phase }, { on := 6, ground := Go.Ground.phase }, { on := 7, ground := Go.Ground.phase }, { on := 8, ground := Go.Ground.phase }, { on := 9, ground := Go.Ground.phase }, { on := 10, ground := Go.Ground.phase }, { on := 11, ground := Go.Ground.phase }, { on := 12, ground := Go.Ground.phase }, { on := 13, ground := Go.Ground.phase }, { on := 14, ground := Go.Ground.phase }, { on := 15, ground := Go.Ground.phase }], guard := none }) (v := ?_) rfl (by kernel_rfl) (by kernel_rfl) (by kernel_rfl) (fun _ _ _ h => h) (Or.inl ⟨by rfl, ?_⟩) (by assumption) ?_
                rotate_left
                · (intro w hSw; (try dsimp only at hSw); go_simp <;> try with_reducible rfl)
                try simp only [Act.put, List.setIfInBounds_toArray, List.set_cons_zero, List.set_cons_succ]
                refine wpAnyH_take (i := 17) (oi := { dst := some 65, op := Go.Op.fieldAddr 31 (Go.Operand.tmp 64) 3, type := 0, pos := "l17_make.go:241", after := #[{ on := 16, ground := Go.Ground.data }, { on := 0, ground := Go.Ground.phase }, { on := 1, ground := Go.Ground.phase }, { on := 2, ground := Go.Ground.phase }, { on := 3, ground := Go.Ground.phase }, { on := 4, ground := Go.Ground.phase }, { on := 5, ground := Go.Ground.phase }, { on := 6, ground := Go.Ground.phase }, { on := 7, ground := Go.Ground.phase }, { on := 8, ground := Go.Ground.phase }, { on := 9, ground := Go.Ground.phase }, { on := 10, ground := Go.Ground.phase }, { on := 11, ground := Go.Ground.phase }, { on := 12, ground := Go.Ground.phase }, { on := 13, ground := Go.Ground.phase }, { on := 14, ground := Go.Ground.phase }, { on := 15, ground := Go.Ground.phase }], guard := none }) (v := ?_) rfl (by kernel_rfl) (by kernel_rfl) (by kernel_rfl) (fun _ _ _ h => h) (Or.inl ⟨by rfl, ?_⟩) (by assumption) ?_
                rotate_left
                · (intro w hSw; (try dsimp only at hSw); go_simp <;> try with_reducible rfl)
                try simp only [Act.put, List.setIfInBounds_toArray, List.set_cons_zero, List.set_cons_succ]
                have y3 := Y.out.1
                have yf := Y.out.2
                refine wpAnyH_ready (rs := [18]) (by kernel_rfl) (by simp) ?_
                refine AllReadyH.cons (o := { dst := none, op := Go.Op.store 29 (Go.Operand.tmp 65) (Go.Operand.tmp 63), type := 0, pos := "l17_make.go:241", after := #[{ on := 17, ground := Go.Ground.data }, { on := 15, ground := Go.Ground.data }, { on := 15, ground := Go.Ground.chain }, { on := 0, ground := Go.Ground.phase }, { on := 1, ground := Go.Ground.phase }, { on := 2, ground := Go.Ground.phase }, { on := 3, ground := Go.Ground.phase }, { on := 4, ground := Go.Ground.phase }, { on := 5, ground := Go.Ground.phase }, { on := 6, ground := Go.Ground.phase }, { on := 7, ground := Go.Ground.phase }, { on := 8, ground := Go.Ground.phase }, { on := 9, ground := Go.Ground.phase }, { on := 10, ground := Go.Ground.phase }, { on := 11, ground := Go.Ground.phase }, { on := 12, ground := Go.Ground.phase }, { on := 13, ground := Go.Ground.phase }, { on := 14, ground := Go.Ground.phase }, { on := 15, ground := Go.Ground.phase }], guard := none }) rfl (fun K hK => ?_) (AllReadyH.nil)
                go_simp
                refine hK.out _ _ trivial (fun hHeld => ?_)
                clear hK K y3 yf
                try simp only [Act.put, List.setIfInBounds_toArray, List.set_cons_zero, List.set_cons_succ]
                refine wpAnyH_done (by kernel_rfl) ?_ _
                refine NoPanic.normal ?_
                clear hHeld
                go_wp2
                go_returns
                exact SpP.of TA.out hn2
        · go_simp
          refine (pick_any b _ [(k : Int), 0, (n : Int)] _ _ _ T9.out.m.1 IR9.out rfl (by simp) (by simp)).mono ?_
          rintro e V15 ⟨xp, rfl, _, m6⟩
          have T16 := hid (T9.out.turn m6)
          clear m6
          refine hK.out _ _ trivial (fun hHeld => ?_)
          clear hK K
          try simp only [Act.put, List.setIfInBounds_toArray, List.set_cons_zero, List.set_cons_succ]
          refine wpAnyH_take (i := 13) (oi := { dst := some 61, op := Go.Op.build 28 #[(0, Go.Operand.tmp 60), (1, Go.Operand.const (Go.Value.int Go.IntKind.i64 1))], type := 28, pos := "l17_make.go:241", after := #[{ on := 12, ground := Go.Ground.data }], guard := none }) (v := ?_) rfl (by kernel_rfl) (by kernel_rfl) (by kernel_rfl) (fun _ _ _ h => h) (Or.inl ⟨by rfl, ?_⟩) (by assumption) ?_
          rotate_left
          · (intro w hSw; (try dsimp only at hSw); go_simp <;> try with_reducible rfl)
          try simp only [Act.put, List.setIfInBounds_toArray, List.set_cons_zero, List.set_cons_succ]
          refine wpAnyH_ready (rs := [6, 14]) (by kernel_rfl) (by simp) ?_
          refine AllReadyH.cons (o := { dst := some 54, op := Go.Op.load 29 (Go.Operand.tmp 53), type := 29, pos := "l17_make.go:241", after := #[{ on := 5, ground := Go.Ground.data }], guard := none }) rfl (fun K hK => ?_) (AllReadyH.cons (o := { dst := some 62, op := Go.Op.buildSlice 29 1 #[(0, Go.Operand.tmp 61)], type := 29, pos := "l17_make.go:241", after := #[{ on := 13, ground := Go.Ground.data }], guard := none }) rfl (fun K hK => ?_) (AllReadyH.nil))
          · have y3 : V15.cell? ⟨g, k * 5 + 3, none⟩ = some (.slice pa (c k).pn pc) := (by have := (T16.out.cells hk).1.2.2.2.1; rw [HE.out] at this; exact this)
            go_simp
            refine hK.out _ _ trivial (fun hHeld => ?_)
            clear hK K y3
            try simp only [Act.put, List.setIfInBounds_toArray, List.set_cons_zero, List.set_cons_succ]
            refine wpAnyH_ready (rs := [14]) (by kernel_rfl) (by simp) ?_
            refine AllReadyH.cons (o := { dst := some 62, op := Go.Op.buildSlice 29 1 #[(0, Go.Operand.tmp 61)], type := 29, pos := "l17_make.go:241", after := #[{ on := 13, ground := Go.Ground.data }], guard := none }) rfl (fun K hK => ?_) (AllReadyH.nil)
            · go_simp
              have T18 := hid (T16.out.turn ((Moved.refl T16.out.m.1).alloc (.cells #[.int .i64 xp, .int .i64 1, .int .i64 0, .int .i64 0, .int .i64 0, .int .i64 0] 28 (0, 0))))
              have E := hid (CB.new (w := V15) #[.int .i64 xp, .int .i64 1, .int .i64 0, .int .i64 0, .int .i64 0, .int .i64 0] 28)
              refine hK.out _ _ trivial (fun hHeld => ?_)
              clear hK K
              try simp only [Act.put, List.setIfInBounds_toArray, List.set_cons_zero, List.set_cons_succ]
              generalize (V15.alloc (.cells #[.int .i64 xp, .int .i64 1, .int .i64 0, .int .i64 0, .int .i64 0, .int .i64 0] 28 (0, 0))) = V17 at T18 E ⊢
              generalize V15.heap.size = eb at E ⊢
              refine wpAnyH_ready (rs := [15]) (by kernel_rfl) (by simp) ?_
              refine AllReadyH.cons (o := { dst := some 63, op := Go.Op.call { callee := Go.Callee.builtin Go.Builtin.append, args := #[Go.Operand.tmp 54, Go.Operand.tmp 62], argTypes := #[29, 29] }, type := 29, pos := "l17_make.go:241", after := #[{ on := 6, ground := Go.Ground.data }, { on := 14, ground := Go.Ground.data }, { on := 12, ground := Go.Ground.chain }], guard := none }) rfl (fun K hK => ?_) (AllReadyH.nil)
              · rw [if_pos (by rfl)]
                obtain ⟨⟨zz, hzz⟩, _, _⟩ := T18.out.r k hk
                have HZ9 : Hid (V17.ownsRow w.heap.size 28 6 (c k).pv (c k).pn (rowPA6 zz (c k).pn)) := hzz
                rw [HE.out] at hzz
                refine oper_append (Operand.tmp 54) (Operand.tmp 62) 29 rfl w.heap.size 28 i4 (.agg #[.int .i64 0, .int .i64 0, .int .i64 0, .int .i64 0, .int .i64 0, .int .i64 0]) 6 48 Try.underlying29 hi4 hz40 hz41 hz42 rfl (by decide) (.slice pa (c k).pn pc) (c k).pn (rowPA6 zz (c k).pn) rfl hzz ⟨eb, 0, none⟩ 1 1 [.int .i64 xp, .int .i64 1, .int .i64 0, .int .i64 0, .int .i64 0, .int .i64 0] rfl rfl (cb_src E.out) (fun u hu => by simp at hu; rcases hu with rfl | rfl | rfl | rfl | rfl | rfl <;> rfl) (by have := HPN.out k hk; unfold maxLen; omega) (by have := HPN.out k hk; omega) T18.out.m.2.size ?_
                intro v7 V19 hown hgr _
                obtain ⟨g7, c7, rfl, _⟩ := ownsRow_some hown (by omega)
                rw [← HE.out] at hgr
                have TA := hid (T18.out.grow (p := ⟨xp, 1, 0, 0, 0, 0⟩) hk hown hgr (HPN.out k hk) (fun j q hj hq => HAP.out k j q hk hj hq))
                have Y : Hid (V19.cell? ⟨g, k * 5 + 3, none⟩ = some (.slice pa (c k).pn pc) ∧ V19.frozen? ⟨g, k * 5 + 3, none⟩ = false) := hid (by
          have ho3 : V19.ownsRow w.heap.size 31 5 (.slice (some ⟨g, 0, none⟩) n cap) n (rowIV c n) := arow_block T18.out.o (fun q hq => grown_block hgr (T18.out.o.lt q hq).2 (fun e => part_apart HZ9.out T18.out.o q e hq))
          have a3 := (rowIV_get c n k hk).2.2.2.1
          rw [HE.out] at a3
          exact ⟨(own_cell ho3 a3).1, (own_cell ho3 a3).2 _⟩)
                clear hown hgr hzz HZ9
                refine hK.out _ _ trivial (fun hHeld => ?_)
                clear hK K
                try simp only [Act.put, List.setIfInBounds_toArray, List.set_cons_zero, List.set_cons_succ]
                refine wpAnyH_take (i := 16) (oi := { dst := some 64, op := Go.Op.indexAddr 32 (Go.Operand.tmp 48) (Go.Operand.tmp 49), type := 0, pos := "l17_make.go:241", after := #[{ on := 0, ground := Go.Ground.data }, { on := 1, ground := Go.Ground.data }, { on := 0, ground := Go.Ground.phase }, { on := 1, ground := Go.Ground.phase }, { on := 2, ground := Go.Ground.phase }, { on := 3, ground := Go.Ground.phase }, { on := 4, ground := Go.Ground.phase }, { on := 5, ground := Go.Ground.phase }, { on := 6, ground := Go.Ground.phase }, { on := 7, ground := Go.Ground.phase }, { on := 8, ground := Go.Ground.phase }, { on := 9, ground := Go.Ground.phase }, { on := 10, ground := Go.Ground.phase }, { on := 11, ground := Go.Ground.phase }, { on := 12, ground := Go.Ground.phase }, { on := 13, ground := Go.Ground.phase }, { on := 14, ground := Go.Ground.phase }, { on := 15, ground := Go.Ground.phase }], guard := none }) (v := ?_) rfl (by kernel_rfl) (by kernel_rfl) (by kernel_rfl) (fun _ _ _ h => h) (Or.inl ⟨by rfl, ?_⟩) (by assumption) ?_
                rotate_left
                · (intro w hSw; (try dsimp only at hSw); go_simp <;> try with_reducible rfl)
                try simp only [Act.put, List.setIfInBounds_toArray, List.set_cons_zero, List.set_cons_succ]
                refine wpAnyH_take (i := 17) (oi := { dst := some 65, op := Go.Op.fieldAddr 31 (Go.Operand.tmp 64) 3, type := 0, pos := "l17_make.go:241", after := #[{ on := 16, ground := Go.Ground.data }, { on := 0, ground := Go.Ground.phase }, { on := 1, ground := Go.Ground.phase }, { on := 2, ground := Go.Ground.phase }, { on := 3, ground := Go.Ground.phase }, { on := 4, ground := Go.Ground.phase }, { on := 5, ground := Go.Ground.phase }, { on := 6, ground := Go.Ground.phase }, { on := 7, ground := Go.Ground.phase }, { on := 8, ground := Go.Ground.phase }, { on := 9, ground := Go.Ground.phase }, { on := 10, ground := Go.Ground.phase }, { on := 11, ground := Go.Ground.phase }, { on := 12, ground := Go.Ground.phase }, { on := 13, ground := Go.Ground.phase }, { on := 14, ground := Go.Ground.phase }, { on := 15, ground := Go.Ground.phase }], guard := none }) (v := ?_) rfl (by kernel_rfl) (by kernel_rfl) (by kernel_rfl) (fun _ _ _ h => h) (Or.inl ⟨by rfl, ?_⟩) (by assumption) ?_
                rotate_left
                · (intro w hSw; (try dsimp only at hSw); go_simp <;> try with_reducible rfl)
                try simp only [Act.put, List.setIfInBounds_toArray, List.set_cons_zero, List.set_cons_succ]
                have y3 := Y.out.1
                have yf := Y.out.2
                refine wpAnyH_ready (rs := [18]) (by kernel_rfl) (by simp) ?_
                refine AllReadyH.cons (o := { dst := none, op := Go.Op.store 29 (Go.Operand.tmp 65) (Go.Operand.tmp 63), type := 0, pos := "l17_make.go:241", after := #[{ on := 17, ground := Go.Ground.data }, { on := 15, ground := Go.Ground.data }, { on := 15, ground := Go.Ground.chain }, { on := 0, ground := Go.Ground.phase }, { on := 1, ground := Go.Ground.phase }, { on := 2, ground := Go.Ground.phase }, { on := 3, ground := Go.Ground.phase }, { on := 4, ground := Go.Ground.phase }, { on := 5, ground := Go.Ground.phase }, { on := 6, ground := Go.Ground.phase }, { on := 7, ground := Go.Ground.phase }, { on := 8, ground := Go.Ground.phase }, { on := 9, ground := Go.Ground.phase }, { on := 10, ground := Go.Ground.phase }, { on := 11, ground := Go.Ground.phase }, { on := 12, ground := Go.Ground.phase }, { on := 13, ground := Go.Ground.phase }, { on := 14, ground := Go.Ground.phase }, { on := 15, ground := Go.Ground.phase }], guard := none }) rfl (fun K hK => ?_) (AllReadyH.nil)
                go_simp
                refine hK.out _ _ trivial (fun hHeld => ?_)
                clear hK K y3 yf
                try simp only [Act.put, List.setIfInBounds_toArray, List.set_cons_zero, List.set_cons_succ]
                refine wpAnyH_done (by kernel_rfl) ?_ _
                refine NoPanic.normal ?_
                clear hHeld
                go_wp2
                go_returns
                exact SpP.of TA.out hn2
          · go_simp
            have T21 := hid (T16.out.turn ((Moved.refl T16.out.m.1).alloc (.cells #[.int .i64 xp, .int .i64 1, .int .i64 0, .int .i64 0, .int .i64 0, .int .i64 0] 28 (0, 0))))
            have E := hid (CB.new (w := V15) #[.int .i64 xp, .int .i64 1, .int .i64 0, .int .i64 0, .int .i64 0, .int .i64 0] 28)
            refine hK.out _ _ trivial (fun hHeld => ?_)
            clear hK K
            try simp only [Act.put, List.setIfInBounds_toArray, List.set_cons_zero, List.set_cons_succ]
            generalize (V15.alloc (.cells #[.int .i64 xp, .int .i64 1, .int .i64 0, .int .i64 0, .int .i64 0, .int .i64 0] 28 (0, 0))) = V20 at T21 E ⊢
            generalize V15.heap.size = eb at E ⊢
            refine wpAnyH_ready (rs := [6]) (by kernel_rfl) (by simp) ?_
            refine AllReadyH.cons (o := { dst := some 54, op := Go.Op.load 29 (Go.Operand.tmp 53), type := 29, pos := "l17_make.go:241", after := #[{ on := 5, ground := Go.Ground.data }], guard := none }) rfl (fun K hK => ?_) (AllReadyH.nil)
            · have y3 : V20.cell? ⟨g, k * 5 + 3, none⟩ = some (.slice pa (c k).pn pc) := (by have := (T21.out.cells hk).1.2.2.2.1; rw [HE.out] at this; exact this)
              go_simp
              refine hK.out _ _ trivial (fun hHeld => ?_)
              clear hK K y3
              try simp only [Act.put, List.setIfInBounds_toArray, List.set_cons_zero, List.set_cons_succ]
              refine wpAnyH_ready (rs := [15]) (by kernel_rfl) (by simp) ?_
              refine AllReadyH.cons (o := { dst := some 63, op := Go.Op.call { callee := Go.Callee.builtin Go.Builtin.append, args := #[Go.Operand.tmp 54, Go.Operand.tmp 62], argTypes := #[29, 29] }, type := 29, pos := "l17_make.go:241", after := #[{ on := 6, ground := Go.Ground.data }, { on := 14, ground := Go.Ground.data }, { on := 12, ground := Go.Ground.chain }], guard := none }) rfl (fun K hK => ?_) (AllReadyH.nil)
              · rw [if_pos (by rfl)]
                obtain ⟨⟨zz, hzz⟩, _, _⟩ := T21.out.r k hk
                have HZ9 : Hid (V20.ownsRow w.heap.size 28 6 (c k).pv (c k).pn (rowPA6 zz (c k).pn)) := hzz
                rw [HE.out] at hzz
                refine oper_append (Operand.tmp 54) (Operand.tmp 62) 29 rfl w.heap.size 28 i4 (.agg #[.int .i64 0, .int .i64 0, .int .i64 0, .int .i64 0, .int .i64 0, .int .i64 0]) 6 48 Try.underlying29 hi4 hz40 hz41 hz42 rfl (by decide) (.slice pa (c k).pn pc) (c k).pn (rowPA6 zz (c k).pn) rfl hzz ⟨eb, 0, none⟩ 1 1 [.int .i64 xp, .int .i64 1, .int .i64 0, .int .i64 0, .int .i64 0, .int .i64 0] rfl rfl (cb_src E.out) (fun u hu => by simp at hu; rcases hu with rfl | rfl | rfl | rfl | rfl | rfl <;> rfl) (by have := HPN.out k hk; unfold maxLen; omega) (by have := HPN.out k hk; omega) T21.out.m.2.size ?_
                intro v7 V22 hown hgr _
                obtain ⟨g7, c7, rfl, _⟩ := ownsRow_some hown (by omega)
                rw [← HE.out] at hgr
                have TA := hid (T21.out.grow (p := ⟨xp, 1, 0, 0, 0, 0⟩) hk hown hgr (HPN.out k hk) (fun j q hj hq => HAP.out k j q hk hj hq))
                have Y : Hid (V22.cell? ⟨g, k * 5 + 3, none⟩ = some (.slice pa (c k).pn pc) ∧ V22.frozen? ⟨g, k * 5 + 3, none⟩ = false) := hid (by
          have ho3 : V22.ownsRow w.heap.size 31 5 (.slice (some ⟨g, 0, none⟩) n cap) n (rowIV c n) := arow_block T21.out.o (fun q hq => grown_block hgr (T21.out.o.lt q hq).2 (fun e => part_apart HZ9.out T21.out.o q e hq))
          have a3 := (rowIV_get c n k hk).2.2.2.1
          rw [HE.out] at a3
          exact ⟨(own_cell ho3 a3).1, (own_cell ho3 a3).2 _⟩)
                clear hown hgr hzz HZ9
                refine hK.out _ _ trivial (fun hHeld => ?_)
                clear hK K
                try simp only [Act.put, List.setIfInBounds_toArray, List.set_cons_zero, List.set_cons_succ]
                refine wpAnyH_take (i := 16) (oi := { dst := some 64, op := Go.Op.indexAddr 32 (Go.Operand.tmp 48) (Go.Operand.tmp 49), type := 0, pos := "l17_make.go:241", after := #[{ on := 0, ground := Go.Ground.data }, { on := 1, ground := Go.Ground.data }, { on := 0, ground := Go.Ground.phase }, { on := 1, ground := Go.Ground.phase }, { on := 2, ground := Go.Ground.phase }, { on := 3, ground := Go.Ground.phase }, { on := 4, ground := Go.Ground.phase }, { on := 5, ground := Go.Ground.phase }, { on := 6, ground := Go.Ground.phase }, { on := 7, ground := Go.Ground.phase }, { on := 8, ground := Go.Ground.phase }, { on := 9, ground := Go.Ground.phase }, { on := 10, ground := Go.Ground.phase }, { on := 11, ground := Go.Ground.phase }, { on := 12, ground := Go.Ground.phase }, { on := 13, ground := Go.Ground.phase }, { on := 14, ground := Go.Ground.phase }, { on := 15, ground := Go.Ground.phase }], guard := none }) (v := ?_) rfl (by kernel_rfl) (by kernel_rfl) (by kernel_rfl) (fun _ _ _ h => h) (Or.inl ⟨by rfl, ?_⟩) (by assumption) ?_
                rotate_left
                · (intro w hSw; (try dsimp only at hSw); go_simp <;> try with_reducible rfl)
                try simp only [Act.put, List.setIfInBounds_toArray, List.set_cons_zero, List.set_cons_succ]
                refine wpAnyH_take (i := 17) (oi := { dst := some 65, op := Go.Op.fieldAddr 31 (Go.Operand.tmp 64) 3, type := 0, pos := "l17_make.go:241", after := #[{ on := 16, ground := Go.Ground.data }, { on := 0, ground := Go.Ground.phase }, { on := 1, ground := Go.Ground.phase }, { on := 2, ground := Go.Ground.phase }, { on := 3, ground := Go.Ground.phase }, { on := 4, ground := Go.Ground.phase }, { on := 5, ground := Go.Ground.phase }, { on := 6, ground := Go.Ground.phase }, { on := 7, ground := Go.Ground.phase }, { on := 8, ground := Go.Ground.phase }, { on := 9, ground := Go.Ground.phase }, { on := 10, ground := Go.Ground.phase }, { on := 11, ground := Go.Ground.phase }, { on := 12, ground := Go.Ground.phase }, { on := 13, ground := Go.Ground.phase }, { on := 14, ground := Go.Ground.phase }, { on := 15, ground := Go.Ground.phase }], guard := none }) (v := ?_) rfl (by kernel_rfl) (by kernel_rfl) (by kernel_rfl) (fun _ _ _ h => h) (Or.inl ⟨by rfl, ?_⟩) (by assumption) ?_
                rotate_left
                · (intro w hSw; (try dsimp only at hSw); go_simp <;> try with_reducible rfl)
                try simp only [Act.put, List.setIfInBounds_toArray, List.set_cons_zero, List.set_cons_succ]
                have y3 := Y.out.1
                have yf := Y.out.2
                refine wpAnyH_ready (rs := [18]) (by kernel_rfl) (by simp) ?_
                refine AllReadyH.cons (o := { dst := none, op := Go.Op.store 29 (Go.Operand.tmp 65) (Go.Operand.tmp 63), type := 0, pos := "l17_make.go:241", after := #[{ on := 17, ground := Go.Ground.data }, { on := 15, ground := Go.Ground.data }, { on := 15, ground := Go.Ground.chain }, { on := 0, ground := Go.Ground.phase }, { on := 1, ground := Go.Ground.phase }, { on := 2, ground := Go.Ground.phase }, { on := 3, ground := Go.Ground.phase }, { on := 4, ground := Go.Ground.phase }, { on := 5, ground := Go.Ground.phase }, { on := 6, ground := Go.Ground.phase }, { on := 7, ground := Go.Ground.phase }, { on := 8, ground := Go.Ground.phase }, { on := 9, ground := Go.Ground.phase }, { on := 10, ground := Go.Ground.phase }, { on := 11, ground := Go.Ground.phase }, { on := 12, ground := Go.Ground.phase }, { on := 13, ground := Go.Ground.phase }, { on := 14, ground := Go.Ground.phase }, { on := 15, ground := Go.Ground.phase }], guard := none }) rfl (fun K hK => ?_) (AllReadyH.nil)
                go_simp
                refine hK.out _ _ trivial (fun hHeld => ?_)
                clear hK K y3 yf
                try simp only [Act.put, List.setIfInBounds_toArray, List.set_cons_zero, List.set_cons_succ]
                refine wpAnyH_done (by kernel_rfl) ?_ _
                refine NoPanic.normal ?_
                clear hHeld
                go_wp2
                go_returns
                exact SpP.of TA.out hn2
    · go_returns
      exact SpP.of HS.out hn2
    · go_returns
      exact SpP.of HS.out hn2
    · go_returns
      exact SpP.of (c := c) ⟨HS.out.m.alloc _, ⟨rfl, .inr ⟨w3.heap.size, 0, #[], rfl, HS.out.m.2.size, (CB.new #[] 31), by omega, by unfold maxLen; omega, rfl, rfl⟩⟩, fun j hj => by omega, HS.out.lo⟩ (by omega)
end Go.Proofs.Ytmbdeafpfdeigaa
