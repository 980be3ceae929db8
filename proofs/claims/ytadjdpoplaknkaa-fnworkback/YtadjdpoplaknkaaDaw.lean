/- The draw of what AddWork is asked for. -/
import Derived.Test.YtadjdpoplaknkaaDz
import Derived.Test.YtadjdpoplaknkaaDe
namespace Go.Proofs.Ytadjdpoplaknkaa
open Go.ChangeShapes Go.WideShapes Go.ChangeAt Go.RowKit
set_option linter.unusedVariables false
set_option linter.unusedSimpArgs false

structure Sa (w : World) (X : Nat) (off : Int) (ad : Option Addr) (n cap : Nat) (z : Nat → Int) (W : World) : Prop where
  cur : Cursor W (w.heap.size + 1)
  bel : Below w.heap.size w W
  zb : CB W w.heap.size #[.int .i64 0, .slice none 0 0] 26
  box : CB W X #[.int .i64 off, .slice ad n cap] 26
  ir : IR W ad n z
  far : w.heap.size + 1 < X
  adk : ∀ k o, ad = some ⟨k, o, none⟩ → w.heap.size + 1 < k
section
variable {w W W' : World} {X n cap : Nat} {off : Int} {ad : Option Addr} {z : Nat → Int}
theorem ir_turns {b : Nat} (h : IR W ad n z) (T : Turns b W W') (hk : ∀ k o, ad = some ⟨k, o, none⟩ → b < k) : IR W' ad n z := by
  rcases h with h0 | ⟨k, o, e, hlt, hc⟩
  · exact .inl h0
  · exact .inr ⟨k, o, e, Nat.lt_of_lt_of_le hlt T.size, fun j hj => by rw [T.cell hlt (Nat.ne_of_gt (hk k o e))]; exact hc j hj⟩
theorem Sa.moved (h : Sa w X off ad n cap z W) (m : Moved (w.heap.size + 1) W W') : Sa w X off ad n cap z W' :=
  ⟨m.1, h.bel.trans (m.2.below (by omega) h.bel.size), h.zb.turns m.2 (by omega), h.box.turns m.2 (by have := h.far; omega), ir_turns h.ir m.2 h.adk, h.far, h.adk⟩
theorem Sa.alloc (h : Sa w X off ad n cap z W) (o : Obj) : Sa w X off ad n cap z (W.alloc o) := ⟨h.cur.alloc o, h.bel.alloc h.bel.size o, h.zb.alloc o, h.box.alloc o, h.ir.alloc o, h.far, h.adk⟩
theorem Sa.drewS (h : Sa w X off ad n cap z W) : Sa w X off ad n cap z W.drew := ⟨h.cur.drew, h.bel.drew, h.zb, h.box, h.ir.drewN 1, h.far, h.adk⟩
theorem Sa.cells (h : Sa w X off ad n cap z W) : W.cell? ⟨X, 0, none⟩ = some (.int .i64 off) ∧ W.cell? ⟨X, 1, none⟩ = some (.slice ad n cap) := ⟨(h.box.cell 0).trans rfl, (h.box.cell 1).trans rfl⟩
theorem Sa.fin (h : Sa w X off ad n cap z W) : ∃ W9, W9 = (W.setCell ⟨w.heap.size, 0, none⟩ (.int .i64 off)).setCell ⟨w.heap.size, 1, none⟩ (.slice ad n cap) ∧ CB W9 w.heap.size #[.int .i64 off, .slice ad n cap] 26 ∧ Below w.heap.size w W9 ∧ IR W9 ad n z ∧ (W9.cell? ⟨X, 0, none⟩ = some (.int .i64 off) ∧ W9.cell? ⟨X, 1, none⟩ = some (.slice ad n cap)) := by
  have hf := h.far
  have B := (h.box.other (c := w.heap.size) (o := 0) (.int .i64 off) (by omega)).other (c := w.heap.size) (o := 1) (.slice ad n cap) (by omega)
  refine ⟨_, rfl, by simpa using (h.zb.set 0 (.int .i64 off)).set 1 (.slice ad n cap), (h.bel.setCell (by simp) _).setCell (by simp) _, ?_, (B.cell 0).trans rfl, (B.cell 1).trans rfl⟩
  rcases h.ir with h0 | ⟨k, o, e, hlt, hc⟩
  · exact .inl h0
  · subst e
    have hk := h.adk k o rfl
    exact ((IR.other (.inr ⟨k, o, rfl, hlt, hc⟩) _ (by omega)).other _ (by omega))
end
def DaPost (w : World) (e : Ending) (w' : World) : Prop := ∃ (off : Int) (ad : Option Addr) (n cap : Nat) (z : Nat → Int) (d k : Int), e = .returned (.tuple #[.agg #[.int .i64 off, .slice ad n cap], .int .i64 d, .int .i64 k]) ∧ n ≤ 5 ∧ IR w' ad n z ∧ Below w.heap.size w w'
theorem dap {w w' : World} {off : Int} {ad : Option Addr} {n cap : Nat} {z : Nat → Int} {d k : Int} (h1 : n ≤ 5) (h2 : IR w' ad n z) (h3 : Below w.heap.size w w') : DaPost w (.returned (.tuple #[.agg #[.int .i64 off, .slice ad n cap], .int .i64 d, .int .i64 k])) w' := ⟨off, ad, n, cap, z, d, k, rfl, h1, h2, h3⟩
theorem byte_alloc {w : World} {ad : Option Addr} {len : Nat} (h : ByteRow w w.heap.size ad len) (o : Obj) : ByteRow (w.alloc o) (w.alloc o).heap.size ad len := by
  rcases h with h0 | ⟨k, off, e, hb, hk, hc⟩
  · exact .inl h0
  · refine .inr ⟨k, off, e, by simp; omega, by simp; omega, fun j hj => ?_⟩
    obtain ⟨c, c0, c1, hcc⟩ := hc j hj
    exact ⟨c, c0, c1, by rw [World.cell?_of_block (w := w) (((Below.refl w.heap.size w).alloc (Nat.le_refl _) o).block k hk)]; exact hcc⟩

set_option maxRecDepth 20000 in
set_option maxHeartbeats 4000000 in
theorem drawAddWork_any (ba : Option Addr) (len bc : Nat) (w : World) (hl : len ≤ 9223372036854775000) (hr : ByteRow w w.heap.size ba len) :
    Calls Try.prog 11 #[.slice ba len bc] w fun e w' => DaPost w e w' := by
  have HR : Hid (ByteRow (w.alloc (.cells #[.int .i64 0, .slice none 0 0] 26 (0, 0))) (w.alloc (.cells #[.int .i64 0, .slice none 0 0] 26 (0, 0))).heap.size ba len) := byte_alloc hr _
  have hC0 := CB.new (w := w) #[.int .i64 0, .slice none 0 0] 26
  have hB0 : Below w.heap.size w (w.alloc (.cells #[.int .i64 0, .slice none 0 0] 26 (0, 0))) := (Below.refl _ _).alloc (Nat.le_refl _) _
  have hs0 : (w.alloc (.cells #[.int .i64 0, .slice none 0 0] 26 (0, 0))).heap.size = w.heap.size + 1 := by simp
  clear hr
  go_enter Try.func11, Try.ntmps11
  go_wp2_with (first
    | (go_at_call 30; refine (new_any _ _ _ _ hl HR.out).mono ?_; rw [hs0]; rintro e w1 ⟨rfl, c1, b1⟩; have Z1 : Hid (CB w1 w.heap.size #[.int .i64 0, .slice none 0 0] 26) := hC0.below b1 (by omega); have C1 : Hid (Cursor w1 (w.heap.size + 1)) := c1; have B1 : Hid (Below w.heap.size w w1) := hB0.trans (b1.mono (by omega)); clear c1 b1 hC0 hB0)
    | (go_at_call 31; refine (drawCal_any _ _ C1.out).mono ?_; rintro e w2 ⟨off, ad, n, cap, z, rfl, hn5, ir2, m2, hk2⟩; have SA0 : Hid (Sa w w2.heap.size off ad n cap z (w2.alloc (.cells #[.int .i64 off, .slice ad n cap] 26 (0, 0)))) := ⟨m2.1.alloc _, (B1.out.trans (m2.2.below (by omega) B1.out.size)).alloc (by have := (B1.out.trans (m2.2.below (by omega) B1.out.size)).size; exact this) _, (Z1.out.turns m2.2 (by omega)).alloc _, CB.new _ _, ir2.alloc _, m2.1.lt, fun k o e => by have := hk2 k o e; have := C1.out.lt; omega⟩; clear ir2 m2 hk2))
  have SA : Hid (Sa w w2.heap.size off ad n cap z (w2.alloc (.cells #[.int .i64 off, .slice ad n cap] 26 (0, 0))).drew) := SA0.out.drewS
  refine wp_region_held_drew (S := fun w' => w'.cell? ⟨w2.heap.size, 0, none⟩ = some (.int .i64 off) ∧ w'.cell? ⟨w2.heap.size, 1, none⟩ = some (.slice ad n cap)) (by kernel_rfl) (by exact SA.out.cells) (fun hHeld => ?_)
  refine wpAnyH_take (i := 0) (oi := { dst := some 11, op := Go.Op.load 26 (Go.Operand.tmp 6), type := 26, pos := "l02_days.go:290", after := #[], guard := none }) (v := ?_) rfl (by kernel_rfl) (by kernel_rfl) (by kernel_rfl) (fun _ _ _ h => h) (Or.inl ⟨by rfl, ?_⟩) (by assumption) ?_
  rotate_left
  · (intro w hSw; (try dsimp only at hSw); go_simp <;> try with_reducible rfl)
  try simp only [Act.put, List.setIfInBounds_toArray, List.set_cons_zero, List.set_cons_succ]
  refine wpAnyH_take (i := 1) (oi := { dst := some 12, op := Go.Op.move (Go.Operand.tmp 5), type := 48, pos := "l02_days.go:290", after := #[], guard := none }) (v := ?_) rfl (by kernel_rfl) (by kernel_rfl) (by kernel_rfl) (fun _ _ _ h => h) (Or.inl ⟨by rfl, ?_⟩) (by assumption) ?_
  rotate_left
  · (intro w hSw; (try dsimp only at hSw); go_simp <;> try with_reducible rfl)
  try simp only [Act.put, List.setIfInBounds_toArray, List.set_cons_zero, List.set_cons_succ]
  refine wpAnyH_take (i := 2) (oi := { dst := some 13, op := Go.Op.move (Go.Operand.tmp 5), type := 48, pos := "l02_days.go:290", after := #[], guard := none }) (v := ?_) rfl (by kernel_rfl) (by kernel_rfl) (by kernel_rfl) (fun _ _ _ h => h) (Or.inl ⟨by rfl, ?_⟩) (by assumption) ?_
  rotate_left
  · (intro w hSw; (try dsimp only at hSw); go_simp <;> try with_reducible rfl)
  try simp only [Act.put, List.setIfInBounds_toArray, List.set_cons_zero, List.set_cons_succ]
  refine wpAnyH_take (i := 5) (oi := { dst := some 16, op := Go.Op.move (Go.Operand.tmp 5), type := 48, pos := "l02_days.go:290", after := #[], guard := none }) (v := ?_) rfl (by kernel_rfl) (by kernel_rfl) (by kernel_rfl) (fun _ _ _ h => h) (Or.inl ⟨by rfl, ?_⟩) (by assumption) ?_
  rotate_left
  · (intro w hSw; (try dsimp only at hSw); go_simp <;> try with_reducible rfl)
  try simp only [Act.put, List.setIfInBounds_toArray, List.set_cons_zero, List.set_cons_succ]
  refine wpAnyH_take (i := 6) (oi := { dst := some 17, op := Go.Op.move (Go.Operand.tmp 5), type := 48, pos := "l02_days.go:290", after := #[], guard := none }) (v := ?_) rfl (by kernel_rfl) (by kernel_rfl) (by kernel_rfl) (fun _ _ _ h => h) (Or.inl ⟨by rfl, ?_⟩) (by assumption) ?_
  rotate_left
  · (intro w hSw; (try dsimp only at hSw); go_simp <;> try with_reducible rfl)
  try simp only [Act.put, List.setIfInBounds_toArray, List.set_cons_zero, List.set_cons_succ]
  refine wpAnyH_ready (rs := [3, 9]) (by kernel_rfl) (by simp) ?_
  refine AllReadyH.cons (o := { dst := some 14, op := Go.Op.call { callee := Go.Callee.value (Go.Operand.func 33), args := #[Go.Operand.tmp 13], argTypes := #[48] }, type := 3, pos := "l02_days.go:290", after := #[{ on := 2, ground := Go.Ground.data }], guard := none }) rfl (fun K hK => ?_) (AllReadyH.cons (o := { dst := some 20, op := Go.Op.buildSlice 24 4 #[(0, Go.Operand.const (Go.Value.int Go.IntKind.i64 2000)), (1, Go.Operand.const (Go.Value.int Go.IntKind.i64 (-2000))), (2, Go.Operand.const (Go.Value.int Go.IntKind.i64 2001)), (3, Go.Operand.const (Go.Value.int Go.IntKind.i64 (-2001)))], type := 24, pos := "l02_days.go:290", after := #[], guard := none }) rfl (fun K hK => ?_) (AllReadyH.nil))
  · go_simp
    refine (drawDay_any _ _ SA.out.cur).mono ?_
    rintro e w3 ⟨y3, rfl, yl, yh, m3⟩
    replace SA : Hid (Sa w w2.heap.size off ad n cap z w3) := SA.out.moved m3
    clear m3
    first | refine hK.out _ _ (by exact SA.out.cells) (fun hHeld => ?_) | (go_wp2_with fail; refine hK.out _ _ (by exact SA.out.cells) (fun hHeld => ?_))
    clear hK K
    try simp only [Act.put, List.setIfInBounds_toArray, List.set_cons_zero, List.set_cons_succ]
    refine wpAnyH_ready (rs := [4, 9]) (by kernel_rfl) (by simp) ?_
    refine AllReadyH.cons (o := { dst := some 15, op := Go.Op.call { callee := Go.Callee.value (Go.Operand.func 32), args := #[Go.Operand.tmp 12, Go.Operand.tmp 14], argTypes := #[48, 3] }, type := 3, pos := "l02_days.go:290", after := #[{ on := 1, ground := Go.Ground.data }, { on := 3, ground := Go.Ground.data }, { on := 3, ground := Go.Ground.chain }], guard := none }) rfl (fun K hK => ?_) (AllReadyH.cons (o := { dst := some 20, op := Go.Op.buildSlice 24 4 #[(0, Go.Operand.const (Go.Value.int Go.IntKind.i64 2000)), (1, Go.Operand.const (Go.Value.int Go.IntKind.i64 (-2000))), (2, Go.Operand.const (Go.Value.int Go.IntKind.i64 2001)), (3, Go.Operand.const (Go.Value.int Go.IntKind.i64 (-2001)))], type := 24, pos := "l02_days.go:290", after := #[], guard := none }) rfl (fun K hK => ?_) (AllReadyH.nil))
    · go_simp
      refine (badDay_any _ _ _ SA.out.cur yl yh).mono ?_
      rintro e w4 ⟨y4, rfl, _, m4⟩
      replace SA : Hid (Sa w w2.heap.size off ad n cap z w4) := SA.out.moved m4
      clear m4
      first | refine hK.out _ _ (by exact SA.out.cells) (fun hHeld => ?_) | (go_wp2_with fail; refine hK.out _ _ (by exact SA.out.cells) (fun hHeld => ?_))
      clear hK K
      try simp only [Act.put, List.setIfInBounds_toArray, List.set_cons_zero, List.set_cons_succ]
      refine wpAnyH_ready (rs := [7, 9]) (by kernel_rfl) (by simp) ?_
      refine AllReadyH.cons (o := { dst := some 18, op := Go.Op.call { callee := Go.Callee.value (Go.Operand.func 35), args := #[Go.Operand.tmp 17, Go.Operand.const (Go.Value.int Go.IntKind.i64 30)], argTypes := #[48, 3] }, type := 3, pos := "l02_days.go:290", after := #[{ on := 6, ground := Go.Ground.data }, { on := 4, ground := Go.Ground.chain }], guard := none }) rfl (fun K hK => ?_) (AllReadyH.cons (o := { dst := some 20, op := Go.Op.buildSlice 24 4 #[(0, Go.Operand.const (Go.Value.int Go.IntKind.i64 2000)), (1, Go.Operand.const (Go.Value.int Go.IntKind.i64 (-2000))), (2, Go.Operand.const (Go.Value.int Go.IntKind.i64 2001)), (3, Go.Operand.const (Go.Value.int Go.IntKind.i64 (-2001)))], type := 24, pos := "l02_days.go:290", after := #[], guard := none }) rfl (fun K hK => ?_) (AllReadyH.nil))
      · go_simp
        refine (below_any _ _ _ SA.out.cur).mono ?_
        rintro e w5 ⟨y5, rfl, y50, y51, _, m5⟩
        replace SA : Hid (Sa w w2.heap.size off ad n cap z w5) := SA.out.moved m5
        clear m5
        have y52 := y51 (by decide)
        first | refine hK.out _ _ (by exact SA.out.cells) (fun hHeld => ?_) | (go_wp2_with fail; refine hK.out _ _ (by exact SA.out.cells) (fun hHeld => ?_))
        clear hK K
        try simp only [Act.put, List.setIfInBounds_toArray, List.set_cons_zero, List.set_cons_succ]
        refine wpAnyH_take (i := 8) (oi := { dst := some 19, op := Go.Op.binOp Go.BinOp.sub 3 (Go.Operand.tmp 18) (Go.Operand.const (Go.Value.int Go.IntKind.i64 12)) 3, type := 3, pos := "l02_days.go:290", after := #[{ on := 7, ground := Go.Ground.data }], guard := none }) (v := ?_) rfl (by kernel_rfl) (by kernel_rfl) (by kernel_rfl) (fun _ _ _ h => h) (Or.inl ⟨by rfl, ?_⟩) (by assumption) ?_
        rotate_left
        · (intro w hSw; (try dsimp only at hSw); go_simp <;> try with_reducible rfl)
        try simp only [Act.put, List.setIfInBounds_toArray, List.set_cons_zero, List.set_cons_succ]
        refine wpAnyH_ready (rs := [9]) (by kernel_rfl) (by simp) ?_
        refine AllReadyH.cons (o := { dst := some 20, op := Go.Op.buildSlice 24 4 #[(0, Go.Operand.const (Go.Value.int Go.IntKind.i64 2000)), (1, Go.Operand.const (Go.Value.int Go.IntKind.i64 (-2000))), (2, Go.Operand.const (Go.Value.int Go.IntKind.i64 2001)), (3, Go.Operand.const (Go.Value.int Go.IntKind.i64 (-2001)))], type := 24, pos := "l02_days.go:290", after := #[], guard := none }) rfl (fun K hK => ?_) (AllReadyH.nil)
        go_simp
        have HI : Hid (IntRow (w5.alloc (.cells #[.int .i64 2000, .int .i64 (-2000), .int .i64 2001, .int .i64 (-2001)] 3 (0, 0))) (w.heap.size + 1) (some ⟨w5.heap.size, 0, none⟩) [2000, -2000, 2001, -2001]) := IntRow.made (w := w5) SA.out.cur.lt #[.int .i64 2000, .int .i64 (-2000), .int .i64 2001, .int .i64 (-2001)] 3 [2000, -2000, 2001, -2001] rfl
        replace SA : Hid (Sa w w2.heap.size off ad n cap z (w5.alloc (.cells #[.int .i64 2000, .int .i64 (-2000), .int .i64 2001, .int .i64 (-2001)] 3 (0, 0)))) := SA.out.alloc _
        first | refine hK.out _ _ (by exact SA.out.cells) (fun hHeld => ?_) | (go_wp2_with fail; refine hK.out _ _ (by exact SA.out.cells) (fun hHeld => ?_))
        clear hK K
        try simp only [Act.put, List.setIfInBounds_toArray, List.set_cons_zero, List.set_cons_succ]
        refine wpAnyH_ready (rs := [10]) (by kernel_rfl) (by simp) ?_
        refine AllReadyH.cons (o := { dst := some 21, op := Go.Op.call { callee := Go.Callee.value (Go.Operand.func 34), args := #[Go.Operand.tmp 16, Go.Operand.tmp 19, Go.Operand.tmp 20], argTypes := #[48, 3, 24] }, type := 3, pos := "l02_days.go:290", after := #[{ on := 5, ground := Go.Ground.data }, { on := 8, ground := Go.Ground.data }, { on := 9, ground := Go.Ground.data }, { on := 7, ground := Go.Ground.chain }], guard := none }) rfl (fun K hK => ?_) (AllReadyH.nil)
        go_simp
        refine (spoil_any _ _ (some ⟨w5.heap.size, 0, none⟩) [2000, -2000, 2001, -2001] 4 4 _ SA.out.cur HI.out rfl (by decide) (by decide)).mono ?_
        rintro e w6 ⟨y6, rfl, _, m6⟩
        replace SA : Hid (Sa w w2.heap.size off ad n cap z w6) := SA.out.moved m6
        clear m6
        first | refine hK.out _ _ (by exact SA.out.cells) (fun hHeld => ?_) | (go_wp2_with fail; refine hK.out _ _ (by exact SA.out.cells) (fun hHeld => ?_))
        clear hK K
        try simp only [Act.put, List.setIfInBounds_toArray, List.set_cons_zero, List.set_cons_succ]
        refine wpAnyH_ready (rs := [11]) (by kernel_rfl) (by simp) ?_
        refine AllReadyH.cons (o := { dst := none, op := Go.Op.store 26 (Go.Operand.tmp 2) (Go.Operand.tmp 11), type := 0, pos := "l02_days.go:290", after := #[{ on := 0, ground := Go.Ground.data }, { on := 10, ground := Go.Ground.chain }, { on := 0, ground := Go.Ground.phase }, { on := 1, ground := Go.Ground.textOnly Go.Departure.lateStores }, { on := 2, ground := Go.Ground.textOnly Go.Departure.lateStores }, { on := 3, ground := Go.Ground.textOnly Go.Departure.lateStoresUnsure }, { on := 4, ground := Go.Ground.textOnly Go.Departure.lateStoresUnsure }, { on := 5, ground := Go.Ground.textOnly Go.Departure.lateStores }, { on := 6, ground := Go.Ground.textOnly Go.Departure.lateStores }, { on := 7, ground := Go.Ground.textOnly Go.Departure.lateStoresUnsure }, { on := 8, ground := Go.Ground.textOnly Go.Departure.lateStores }, { on := 9, ground := Go.Ground.textOnly Go.Departure.lateStores }, { on := 10, ground := Go.Ground.textOnly Go.Departure.lateStoresUnsure }], guard := none }) rfl (fun K hK => ?_) (AllReadyH.nil)
        have t0 := SA.out.zb.cell 0
        have t1 := SA.out.zb.cell 1
        have f0 := SA.out.zb.fr 0
        have f1 := SA.out.zb.fr 1
        simp at t0 t1
        go_simp
        obtain ⟨W9, hW9, C9, B9, IR9, S9⟩ := SA.out.fin
        first | refine hK.out _ _ (by exact (hW9 ▸ S9)) (fun hHeld => ?_) | (go_wp2_with fail; refine hK.out _ _ (by exact (hW9 ▸ S9)) (fun hHeld => ?_))
        clear hK K
        try simp only [Act.put, List.setIfInBounds_toArray, List.set_cons_zero, List.set_cons_succ]
        refine wpAnyH_take (i := 12) (oi := { dst := some 3, op := Go.Op.assign (Go.Operand.tmp 15), type := 3, pos := "l02_days.go:290", after := #[{ on := 4, ground := Go.Ground.data }, { on := 11, ground := Go.Ground.chain }, { on := 0, ground := Go.Ground.phase }, { on := 1, ground := Go.Ground.phase }, { on := 2, ground := Go.Ground.phase }, { on := 3, ground := Go.Ground.phase }, { on := 4, ground := Go.Ground.phase }, { on := 5, ground := Go.Ground.textOnly Go.Departure.lateStores }, { on := 6, ground := Go.Ground.textOnly Go.Departure.lateStores }, { on := 7, ground := Go.Ground.textOnly Go.Departure.lateStoresUnsure }, { on := 8, ground := Go.Ground.textOnly Go.Departure.lateStores }, { on := 9, ground := Go.Ground.textOnly Go.Departure.lateStores }, { on := 10, ground := Go.Ground.textOnly Go.Departure.lateStoresUnsure }, { on := 11, ground := Go.Ground.phase }], guard := none }) (v := ?_) rfl (by kernel_rfl) (by kernel_rfl) (by kernel_rfl) (fun _ _ _ h => h) (Or.inl ⟨by rfl, ?_⟩) (by assumption) ?_
        rotate_left
        · (intro w hSw; (try dsimp only at hSw); go_simp <;> try with_reducible rfl)
        try simp only [Act.put, List.setIfInBounds_toArray, List.set_cons_zero, List.set_cons_succ]
        refine wpAnyH_take (i := 13) (oi := { dst := some 4, op := Go.Op.assign (Go.Operand.tmp 21), type := 3, pos := "l02_days.go:290", after := #[{ on := 10, ground := Go.Ground.data }, { on := 12, ground := Go.Ground.chain }, { on := 0, ground := Go.Ground.phase }, { on := 1, ground := Go.Ground.phase }, { on := 2, ground := Go.Ground.phase }, { on := 3, ground := Go.Ground.phase }, { on := 4, ground := Go.Ground.phase }, { on := 5, ground := Go.Ground.phase }, { on := 6, ground := Go.Ground.phase }, { on := 7, ground := Go.Ground.phase }, { on := 8, ground := Go.Ground.phase }, { on := 9, ground := Go.Ground.phase }, { on := 10, ground := Go.Ground.phase }, { on := 11, ground := Go.Ground.phase }, { on := 12, ground := Go.Ground.phase }], guard := none }) (v := ?_) rfl (by kernel_rfl) (by kernel_rfl) (by kernel_rfl) (fun _ _ _ h => h) (Or.inl ⟨by rfl, ?_⟩) (by assumption) ?_
        rotate_left
        · (intro w hSw; (try dsimp only at hSw); go_simp <;> try with_reducible rfl)
        try simp only [Act.put, List.setIfInBounds_toArray, List.set_cons_zero, List.set_cons_succ]
        refine wpAnyH_done (by kernel_rfl) ?_ _
        rw [← hW9]
        have e0 := C9.cell 0
        have e1 := C9.cell 1
        simp at e0 e1
        clear t0 t1 f0 f1 hHeld
        go_wp2
        refine bodyPost_ret (by simp [results, Try.results11, go_sem, e0, e1]; try rfl) rfl ?_
        exact dap hn5 IR9 B9
      · go_simp
        have HI : Hid (IntRow (w4.alloc (.cells #[.int .i64 2000, .int .i64 (-2000), .int .i64 2001, .int .i64 (-2001)] 3 (0, 0))) (w.heap.size + 1) (some ⟨w4.heap.size, 0, none⟩) [2000, -2000, 2001, -2001]) := IntRow.made (w := w4) SA.out.cur.lt #[.int .i64 2000, .int .i64 (-2000), .int .i64 2001, .int .i64 (-2001)] 3 [2000, -2000, 2001, -2001] rfl
        replace SA : Hid (Sa w w2.heap.size off ad n cap z (w4.alloc (.cells #[.int .i64 2000, .int .i64 (-2000), .int .i64 2001, .int .i64 (-2001)] 3 (0, 0)))) := SA.out.alloc _
        first | refine hK.out _ _ (by exact SA.out.cells) (fun hHeld => ?_) | (go_wp2_with fail; refine hK.out _ _ (by exact SA.out.cells) (fun hHeld => ?_))
        clear hK K
        try simp only [Act.put, List.setIfInBounds_toArray, List.set_cons_zero, List.set_cons_succ]
        refine wpAnyH_ready (rs := [7]) (by kernel_rfl) (by simp) ?_
        refine AllReadyH.cons (o := { dst := some 18, op := Go.Op.call { callee := Go.Callee.value (Go.Operand.func 35), args := #[Go.Operand.tmp 17, Go.Operand.const (Go.Value.int Go.IntKind.i64 30)], argTypes := #[48, 3] }, type := 3, pos := "l02_days.go:290", after := #[{ on := 6, ground := Go.Ground.data }, { on := 4, ground := Go.Ground.chain }], guard := none }) rfl (fun K hK => ?_) (AllReadyH.nil)
        go_simp
        refine (below_any _ _ _ SA.out.cur).mono ?_
        rintro e w5 ⟨y5, rfl, y50, y51, _, m5⟩
        replace HI : Hid (IntRow w5 (w.heap.size + 1) (some ⟨w4.heap.size, 0, none⟩) [2000, -2000, 2001, -2001]) := HI.out.turns m5.2
        replace SA : Hid (Sa w w2.heap.size off ad n cap z w5) := SA.out.moved m5
        clear m5
        have y52 := y51 (by decide)
        first | refine hK.out _ _ (by exact SA.out.cells) (fun hHeld => ?_) | (go_wp2_with fail; refine hK.out _ _ (by exact SA.out.cells) (fun hHeld => ?_))
        clear hK K
        try simp only [Act.put, List.setIfInBounds_toArray, List.set_cons_zero, List.set_cons_succ]
        refine wpAnyH_take (i := 8) (oi := { dst := some 19, op := Go.Op.binOp Go.BinOp.sub 3 (Go.Operand.tmp 18) (Go.Operand.const (Go.Value.int Go.IntKind.i64 12)) 3, type := 3, pos := "l02_days.go:290", after := #[{ on := 7, ground := Go.Ground.data }], guard := none }) (v := ?_) rfl (by kernel_rfl) (by kernel_rfl) (by kernel_rfl) (fun _ _ _ h => h) (Or.inl ⟨by rfl, ?_⟩) (by assumption) ?_
        rotate_left
        · (intro w hSw; (try dsimp only at hSw); go_simp <;> try with_reducible rfl)
        try simp only [Act.put, List.setIfInBounds_toArray, List.set_cons_zero, List.set_cons_succ]
        refine wpAnyH_ready (rs := [10]) (by kernel_rfl) (by simp) ?_
        refine AllReadyH.cons (o := { dst := some 21, op := Go.Op.call { callee := Go.Callee.value (Go.Operand.func 34), args := #[Go.Operand.tmp 16, Go.Operand.tmp 19, Go.Operand.tmp 20], argTypes := #[48, 3, 24] }, type := 3, pos := "l02_days.go:290", after := #[{ on := 5, ground := Go.Ground.data }, { on := 8, ground := Go.Ground.data }, { on := 9, ground := Go.Ground.data }, { on := 7, ground := Go.Ground.chain }], guard := none }) rfl (fun K hK => ?_) (AllReadyH.nil)
        go_simp
        refine (spoil_any _ _ (some ⟨w4.heap.size, 0, none⟩) [2000, -2000, 2001, -2001] 4 4 _ SA.out.cur HI.out rfl (by decide) (by decide)).mono ?_
        rintro e w6 ⟨y6, rfl, _, m6⟩
        replace SA : Hid (Sa w w2.heap.size off ad n cap z w6) := SA.out.moved m6
        clear m6
        first | refine hK.out _ _ (by exact SA.out.cells) (fun hHeld => ?_) | (go_wp2_with fail; refine hK.out _ _ (by exact SA.out.cells) (fun hHeld => ?_))
        clear hK K
        try simp only [Act.put, List.setIfInBounds_toArray, List.set_cons_zero, List.set_cons_succ]
        refine wpAnyH_ready (rs := [11]) (by kernel_rfl) (by simp) ?_
        refine AllReadyH.cons (o := { dst := none, op := Go.Op.store 26 (Go.Operand.tmp 2) (Go.Operand.tmp 11), type := 0, pos := "l02_days.go:290", after := #[{ on := 0, ground := Go.Ground.data }, { on := 10, ground := Go.Ground.chain }, { on := 0, ground := Go.Ground.phase }, { on := 1, ground := Go.Ground.textOnly Go.Departure.lateStores }, { on := 2, ground := Go.Ground.textOnly Go.Departure.lateStores }, { on := 3, ground := Go.Ground.textOnly Go.Departure.lateStoresUnsure }, { on := 4, ground := Go.Ground.textOnly Go.Departure.lateStoresUnsure }, { on := 5, ground := Go.Ground.textOnly Go.Departure.lateStores }, { on := 6, ground := Go.Ground.textOnly Go.Departure.lateStores }, { on := 7, ground := Go.Ground.textOnly Go.Departure.lateStoresUnsure }, { on := 8, ground := Go.Ground.textOnly Go.Departure.lateStores }, { on := 9, ground := Go.Ground.textOnly Go.Departure.lateStores }, { on := 10, ground := Go.Ground.textOnly Go.Departure.lateStoresUnsure }], guard := none }) rfl (fun K hK => ?_) (AllReadyH.nil)
        have t0 := SA.out.zb.cell 0
        have t1 := SA.out.zb.cell 1
        have f0 := SA.out.zb.fr 0
        have f1 := SA.out.zb.fr 1
        simp at t0 t1
        go_simp
        obtain ⟨W9, hW9, C9, B9, IR9, S9⟩ := SA.out.fin
        first | refine hK.out _ _ (by exact (hW9 ▸ S9)) (fun hHeld => ?_) | (go_wp2_with fail; refine hK.out _ _ (by exact (hW9 ▸ S9)) (fun hHeld => ?_))
        clear hK K
        try simp only [Act.put, List.setIfInBounds_toArray, List.set_cons_zero, List.set_cons_succ]
        refine wpAnyH_take (i := 12) (oi := { dst := some 3, op := Go.Op.assign (Go.Operand.tmp 15), type := 3, pos := "l02_days.go:290", after := #[{ on := 4, ground := Go.Ground.data }, { on := 11, ground := Go.Ground.chain }, { on := 0, ground := Go.Ground.phase }, { on := 1, ground := Go.Ground.phase }, { on := 2, ground := Go.Ground.phase }, { on := 3, ground := Go.Ground.phase }, { on := 4, ground := Go.Ground.phase }, { on := 5, ground := Go.Ground.textOnly Go.Departure.lateStores }, { on := 6, ground := Go.Ground.textOnly Go.Departure.lateStores }, { on := 7, ground := Go.Ground.textOnly Go.Departure.lateStoresUnsure }, { on := 8, ground := Go.Ground.textOnly Go.Departure.lateStores }, { on := 9, ground := Go.Ground.textOnly Go.Departure.lateStores }, { on := 10, ground := Go.Ground.textOnly Go.Departure.lateStoresUnsure }, { on := 11, ground := Go.Ground.phase }], guard := none }) (v := ?_) rfl (by kernel_rfl) (by kernel_rfl) (by kernel_rfl) (fun _ _ _ h => h) (Or.inl ⟨by rfl, ?_⟩) (by assumption) ?_
        rotate_left
        · (intro w hSw; (try dsimp only at hSw); go_simp <;> try with_reducible rfl)
        try simp only [Act.put, List.setIfInBounds_toArray, List.set_cons_zero, List.set_cons_succ]
        refine wpAnyH_take (i := 13) (oi := { dst := some 4, op := Go.Op.assign (Go.Operand.tmp 21), type := 3, pos := "l02_days.go:290", after := #[{ on := 10, ground := Go.Ground.data }, { on := 12, ground := Go.Ground.chain }, { on := 0, ground := Go.Ground.phase }, { on := 1, ground := Go.Ground.phase }, { on := 2, ground := Go.Ground.phase }, { on := 3, ground := Go.Ground.phase }, { on := 4, ground := Go.Ground.phase }, { on := 5, ground := Go.Ground.phase }, { on := 6, ground := Go.Ground.phase }, { on := 7, ground := Go.Ground.phase }, { on := 8, ground := Go.Ground.phase }, { on := 9, ground := Go.Ground.phase }, { on := 10, ground := Go.Ground.phase }, { on := 11, ground := Go.Ground.phase }, { on := 12, ground := Go.Ground.phase }], guard := none }) (v := ?_) rfl (by kernel_rfl) (by kernel_rfl) (by kernel_rfl) (fun _ _ _ h => h) (Or.inl ⟨by rfl, ?_⟩) (by assumption) ?_
        rotate_left
        · (intro w hSw; (try dsimp only at hSw); go_simp <;> try with_reducible rfl)
        try simp only [Act.put, List.setIfInBounds_toArray, List.set_cons_zero, List.set_cons_succ]
        refine wpAnyH_done (by kernel_rfl) ?_ _
        rw [← hW9]
        have e0 := C9.cell 0
        have e1 := C9.cell 1
        simp at e0 e1
        clear t0 t1 f0 f1 hHeld
        go_wp2
        refine bodyPost_ret (by simp [results, Try.results11, go_sem, e0, e1]; try rfl) rfl ?_
        exact dap hn5 IR9 B9
    · go_simp
      have HI : Hid (IntRow (w3.alloc (.cells #[.int .i64 2000, .int .i64 (-2000), .int .i64 2001, .int .i64 (-2001)] 3 (0, 0))) (w.heap.size + 1) (some ⟨w3.heap.size, 0, none⟩) [2000, -2000, 2001, -2001]) := IntRow.made (w := w3) SA.out.cur.lt #[.int .i64 2000, .int .i64 (-2000), .int .i64 2001, .int .i64 (-2001)] 3 [2000, -2000, 2001, -2001] rfl
      replace SA : Hid (Sa w w2.heap.size off ad n cap z (w3.alloc (.cells #[.int .i64 2000, .int .i64 (-2000), .int .i64 2001, .int .i64 (-2001)] 3 (0, 0)))) := SA.out.alloc _
      first | refine hK.out _ _ (by exact SA.out.cells) (fun hHeld => ?_) | (go_wp2_with fail; refine hK.out _ _ (by exact SA.out.cells) (fun hHeld => ?_))
      clear hK K
      try simp only [Act.put, List.setIfInBounds_toArray, List.set_cons_zero, List.set_cons_succ]
      refine wpAnyH_ready (rs := [4]) (by kernel_rfl) (by simp) ?_
      refine AllReadyH.cons (o := { dst := some 15, op := Go.Op.call { callee := Go.Callee.value (Go.Operand.func 32), args := #[Go.Operand.tmp 12, Go.Operand.tmp 14], argTypes := #[48, 3] }, type := 3, pos := "l02_days.go:290", after := #[{ on := 1, ground := Go.Ground.data }, { on := 3, ground := Go.Ground.data }, { on := 3, ground := Go.Ground.chain }], guard := none }) rfl (fun K hK => ?_) (AllReadyH.nil)
      go_simp
      refine (badDay_any _ _ _ SA.out.cur yl yh).mono ?_
      rintro e w4 ⟨y4, rfl, _, m4⟩
      replace HI : Hid (IntRow w4 (w.heap.size + 1) (some ⟨w3.heap.size, 0, none⟩) [2000, -2000, 2001, -2001]) := HI.out.turns m4.2
      replace SA : Hid (Sa w w2.heap.size off ad n cap z w4) := SA.out.moved m4
      clear m4
      first | refine hK.out _ _ (by exact SA.out.cells) (fun hHeld => ?_) | (go_wp2_with fail; refine hK.out _ _ (by exact SA.out.cells) (fun hHeld => ?_))
      clear hK K
      try simp only [Act.put, List.setIfInBounds_toArray, List.set_cons_zero, List.set_cons_succ]
      refine wpAnyH_ready (rs := [7]) (by kernel_rfl) (by simp) ?_
      refine AllReadyH.cons (o := { dst := some 18, op := Go.Op.call { callee := Go.Callee.value (Go.Operand.func 35), args := #[Go.Operand.tmp 17, Go.Operand.const (Go.Value.int Go.IntKind.i64 30)], argTypes := #[48, 3] }, type := 3, pos := "l02_days.go:290", after := #[{ on := 6, ground := Go.Ground.data }, { on := 4, ground := Go.Ground.chain }], guard := none }) rfl (fun K hK => ?_) (AllReadyH.nil)
      go_simp
      refine (below_any _ _ _ SA.out.cur).mono ?_
      rintro e w5 ⟨y5, rfl, y50, y51, _, m5⟩
      replace HI : Hid (IntRow w5 (w.heap.size + 1) (some ⟨w3.heap.size, 0, none⟩) [2000, -2000, 2001, -2001]) := HI.out.turns m5.2
      replace SA : Hid (Sa w w2.heap.size off ad n cap z w5) := SA.out.moved m5
      clear m5
      have y52 := y51 (by decide)
      first | refine hK.out _ _ (by exact SA.out.cells) (fun hHeld => ?_) | (go_wp2_with fail; refine hK.out _ _ (by exact SA.out.cells) (fun hHeld => ?_))
      clear hK K
      try simp only [Act.put, List.setIfInBounds_toArray, List.set_cons_zero, List.set_cons_succ]
      refine wpAnyH_take (i := 8) (oi := { dst := some 19, op := Go.Op.binOp Go.BinOp.sub 3 (Go.Operand.tmp 18) (Go.Operand.const (Go.Value.int Go.IntKind.i64 12)) 3, type := 3, pos := "l02_days.go:290", after := #[{ on := 7, ground := Go.Ground.data }], guard := none }) (v := ?_) rfl (by kernel_rfl) (by kernel_rfl) (by kernel_rfl) (fun _ _ _ h => h) (Or.inl ⟨by rfl, ?_⟩) (by assumption) ?_
      rotate_left
      · (intro w hSw; (try dsimp only at hSw); go_simp <;> try with_reducible rfl)
      try simp only [Act.put, List.setIfInBounds_toArray, List.set_cons_zero, List.set_cons_succ]
      refine wpAnyH_ready (rs := [10]) (by kernel_rfl) (by simp) ?_
      refine AllReadyH.cons (o := { dst := some 21, op := Go.Op.call { callee := Go.Callee.value (Go.Operand.func 34), args := #[Go.Operand.tmp 16, Go.Operand.tmp 19, Go.Operand.tmp 20], argTypes := #[48, 3, 24] }, type := 3, pos := "l02_days.go:290", after := #[{ on := 5, ground := Go.Ground.data }, { on := 8, ground := Go.Ground.data }, { on := 9, ground := Go.Ground.data }, { on := 7, ground := Go.Ground.chain }], guard := none }) rfl (fun K hK => ?_) (AllReadyH.nil)
      go_simp
      refine (spoil_any _ _ (some ⟨w3.heap.size, 0, none⟩) [2000, -2000, 2001, -2001] 4 4 _ SA.out.cur HI.out rfl (by decide) (by decide)).mono ?_
      rintro e w6 ⟨y6, rfl, _, m6⟩
      replace SA : Hid (Sa w w2.heap.size off ad n cap z w6) := SA.out.moved m6
      clear m6
      first | refine hK.out _ _ (by exact SA.out.cells) (fun hHeld => ?_) | (go_wp2_with fail; refine hK.out _ _ (by exact SA.out.cells) (fun hHeld => ?_))
      clear hK K
      try simp only [Act.put, List.setIfInBounds_toArray, List.set_cons_zero, List.set_cons_succ]
      refine wpAnyH_ready (rs := [11]) (by kernel_rfl) (by simp) ?_
      refine AllReadyH.cons (o := { dst := none, op := Go.Op.store 26 (Go.Operand.tmp 2) (Go.Operand.tmp 11), type := 0, pos := "l02_days.go:290", after := #[{ on := 0, ground := Go.Ground.data }, { on := 10, ground := Go.Ground.chain }, { on := 0, ground := Go.Ground.phase }, { on := 1, ground := Go.Ground.textOnly Go.Departure.lateStores }, { on := 2, ground := Go.Ground.textOnly Go.Departure.lateStores }, { on := 3, ground := Go.Ground.textOnly Go.Departure.lateStoresUnsure }, { on := 4, ground := Go.Ground.textOnly Go.Departure.lateStoresUnsure }, { on := 5, ground := Go.Ground.textOnly Go.Departure.lateStores }, { on := 6, ground := Go.Ground.textOnly Go.Departure.lateStores }, { on := 7, ground := Go.Ground.textOnly Go.Departure.lateStoresUnsure }, { on := 8, ground := Go.Ground.textOnly Go.Departure.lateStores }, { on := 9, ground := Go.Ground.textOnly Go.Departure.lateStores }, { on := 10, ground := Go.Ground.textOnly Go.Departure.lateStoresUnsure }], guard := none }) rfl (fun K hK => ?_) (AllReadyH.nil)
      have t0 := SA.out.zb.cell 0
      have t1 := SA.out.zb.cell 1
      have f0 := SA.out.zb.fr 0
      have f1 := SA.out.zb.fr 1
      simp at t0 t1
      go_simp
      obtain ⟨W9, hW9, C9, B9, IR9, S9⟩ := SA.out.fin
      first | refine hK.out _ _ (by exact (hW9 ▸ S9)) (fun hHeld => ?_) | (go_wp2_with fail; refine hK.out _ _ (by exact (hW9 ▸ S9)) (fun hHeld => ?_))
      clear hK K
      try simp only [Act.put, List.setIfInBounds_toArray, List.set_cons_zero, List.set_cons_succ]
      refine wpAnyH_take (i := 12) (oi := { dst := some 3, op := Go.Op.assign (Go.Operand.tmp 15), type := 3, pos := "l02_days.go:290", after := #[{ on := 4, ground := Go.Ground.data }, { on := 11, ground := Go.Ground.chain }, { on := 0, ground := Go.Ground.phase }, { on := 1, ground := Go.Ground.phase }, { on := 2, ground := Go.Ground.phase }, { on := 3, ground := Go.Ground.phase }, { on := 4, ground := Go.Ground.phase }, { on := 5, ground := Go.Ground.textOnly Go.Departure.lateStores }, { on := 6, ground := Go.Ground.textOnly Go.Departure.lateStores }, { on := 7, ground := Go.Ground.textOnly Go.Departure.lateStoresUnsure }, { on := 8, ground := Go.Ground.textOnly Go.Departure.lateStores }, { on := 9, ground := Go.Ground.textOnly Go.Departure.lateStores }, { on := 10, ground := Go.Ground.textOnly Go.Departure.lateStoresUnsure }, { on := 11, ground := Go.Ground.phase }], guard := none }) (v := ?_) rfl (by kernel_rfl) (by kernel_rfl) (by kernel_rfl) (fun _ _ _ h => h) (Or.inl ⟨by rfl, ?_⟩) (by assumption) ?_
      rotate_left
      · (intro w hSw; (try dsimp only at hSw); go_simp <;> try with_reducible rfl)
      try simp only [Act.put, List.setIfInBounds_toArray, List.set_cons_zero, List.set_cons_succ]
      refine wpAnyH_take (i := 13) (oi := { dst := some 4, op := Go.Op.assign (Go.Operand.tmp 21), type := 3, pos := "l02_days.go:290", after := #[{ on := 10, ground := Go.Ground.data }, { on := 12, ground := Go.Ground.chain }, { on := 0, ground := Go.Ground.phase }, { on := 1, ground := Go.Ground.phase }, { on := 2, ground := Go.Ground.phase }, { on := 3, ground := Go.Ground.phase }, { on := 4, ground := Go.Ground.phase }, { on := 5, ground := Go.Ground.phase }, { on := 6, ground := Go.Ground.phase }, { on := 7, ground := Go.Ground.phase }, { on := 8, ground := Go.Ground.phase }, { on := 9, ground := Go.Ground.phase }, { on := 10, ground := Go.Ground.phase }, { on := 11, ground := Go.Ground.phase }, { on := 12, ground := Go.Ground.phase }], guard := none }) (v := ?_) rfl (by kernel_rfl) (by kernel_rfl) (by kernel_rfl) (fun _ _ _ h => h) (Or.inl ⟨by rfl, ?_⟩) (by assumption) ?_
      rotate_left
      · (intro w hSw; (try dsimp only at hSw); go_simp <;> try with_reducible rfl)
      try simp only [Act.put, List.setIfInBounds_toArray, List.set_cons_zero, List.set_cons_succ]
      refine wpAnyH_done (by kernel_rfl) ?_ _
      rw [← hW9]
      have e0 := C9.cell 0
      have e1 := C9.cell 1
      simp at e0 e1
      clear t0 t1 f0 f1 hHeld
      go_wp2
      refine bodyPost_ret (by simp [results, Try.results11, go_sem, e0, e1]; try rfl) rfl ?_
      exact dap hn5 IR9 B9
  · go_simp
    have HI : Hid (IntRow ((w2.alloc (.cells #[.int .i64 off, .slice ad n cap] 26 (0, 0))).alloc (.cells #[.int .i64 2000, .int .i64 (-2000), .int .i64 2001, .int .i64 (-2001)] 3 (0, 0))).drew (w.heap.size + 1) (some ⟨w2.heap.size + 1, 0, none⟩) [2000, -2000, 2001, -2001]) := (row_at (by simp) (IntRow.made (w := w2.alloc (.cells #[.int .i64 off, .slice ad n cap] 26 (0, 0))) (SA0.out.cur.lt) #[.int .i64 2000, .int .i64 (-2000), .int .i64 2001, .int .i64 (-2001)] 3 [2000, -2000, 2001, -2001] rfl)).turns (Turns.refl _ _).drew
    replace SA : Hid (Sa w w2.heap.size off ad n cap z ((w2.alloc (.cells #[.int .i64 off, .slice ad n cap] 26 (0, 0))).alloc (.cells #[.int .i64 2000, .int .i64 (-2000), .int .i64 2001, .int .i64 (-2001)] 3 (0, 0))).drew) := (SA0.out.alloc _).drewS
    first | refine hK.out _ _ (by exact SA.out.cells) (fun hHeld => ?_) | (go_wp2_with fail; refine hK.out _ _ (by exact SA.out.cells) (fun hHeld => ?_))
    clear hK K
    try simp only [Act.put, List.setIfInBounds_toArray, List.set_cons_zero, List.set_cons_succ]
    refine wpAnyH_ready (rs := [3]) (by kernel_rfl) (by simp) ?_
    refine AllReadyH.cons (o := { dst := some 14, op := Go.Op.call { callee := Go.Callee.value (Go.Operand.func 33), args := #[Go.Operand.tmp 13], argTypes := #[48] }, type := 3, pos := "l02_days.go:290", after := #[{ on := 2, ground := Go.Ground.data }], guard := none }) rfl (fun K hK => ?_) (AllReadyH.nil)
    go_simp
    refine (drawDay_any _ _ SA.out.cur).mono ?_
    rintro e w3 ⟨y3, rfl, yl, yh, m3⟩
    replace HI : Hid (IntRow w3 (w.heap.size + 1) (some ⟨w2.heap.size + 1, 0, none⟩) [2000, -2000, 2001, -2001]) := HI.out.turns m3.2
    replace SA : Hid (Sa w w2.heap.size off ad n cap z w3) := SA.out.moved m3
    clear m3
    first | refine hK.out _ _ (by exact SA.out.cells) (fun hHeld => ?_) | (go_wp2_with fail; refine hK.out _ _ (by exact SA.out.cells) (fun hHeld => ?_))
    clear hK K
    try simp only [Act.put, List.setIfInBounds_toArray, List.set_cons_zero, List.set_cons_succ]
    refine wpAnyH_ready (rs := [4]) (by kernel_rfl) (by simp) ?_
    refine AllReadyH.cons (o := { dst := some 15, op := Go.Op.call { callee := Go.Callee.value (Go.Operand.func 32), args := #[Go.Operand.tmp 12, Go.Operand.tmp 14], argTypes := #[48, 3] }, type := 3, pos := "l02_days.go:290", after := #[{ on := 1, ground := Go.Ground.data }, { on := 3, ground := Go.Ground.data }, { on := 3, ground := Go.Ground.chain }], guard := none }) rfl (fun K hK => ?_) (AllReadyH.nil)
    go_simp
    refine (badDay_any _ _ _ SA.out.cur yl yh).mono ?_
    rintro e w4 ⟨y4, rfl, _, m4⟩
    replace HI : Hid (IntRow w4 (w.heap.size + 1) (some ⟨w2.heap.size + 1, 0, none⟩) [2000, -2000, 2001, -2001]) := HI.out.turns m4.2
    replace SA : Hid (Sa w w2.heap.size off ad n cap z w4) := SA.out.moved m4
    clear m4
    first | refine hK.out _ _ (by exact SA.out.cells) (fun hHeld => ?_) | (go_wp2_with fail; refine hK.out _ _ (by exact SA.out.cells) (fun hHeld => ?_))
    clear hK K
    try simp only [Act.put, List.setIfInBounds_toArray, List.set_cons_zero, List.set_cons_succ]
    refine wpAnyH_ready (rs := [7]) (by kernel_rfl) (by simp) ?_
    refine AllReadyH.cons (o := { dst := some 18, op := Go.Op.call { callee := Go.Callee.value (Go.Operand.func 35), args := #[Go.Operand.tmp 17, Go.Operand.const (Go.Value.int Go.IntKind.i64 30)], argTypes := #[48, 3] }, type := 3, pos := "l02_days.go:290", after := #[{ on := 6, ground := Go.Ground.data }, { on := 4, ground := Go.Ground.chain }], guard := none }) rfl (fun K hK => ?_) (AllReadyH.nil)
    go_simp
    refine (below_any _ _ _ SA.out.cur).mono ?_
    rintro e w5 ⟨y5, rfl, y50, y51, _, m5⟩
    replace HI : Hid (IntRow w5 (w.heap.size + 1) (some ⟨w2.heap.size + 1, 0, none⟩) [2000, -2000, 2001, -2001]) := HI.out.turns m5.2
    replace SA : Hid (Sa w w2.heap.size off ad n cap z w5) := SA.out.moved m5
    clear m5
    have y52 := y51 (by decide)
    first | refine hK.out _ _ (by exact SA.out.cells) (fun hHeld => ?_) | (go_wp2_with fail; refine hK.out _ _ (by exact SA.out.cells) (fun hHeld => ?_))
    clear hK K
    try simp only [Act.put, List.setIfInBounds_toArray, List.set_cons_zero, List.set_cons_succ]
    refine wpAnyH_take (i := 8) (oi := { dst := some 19, op := Go.Op.binOp Go.BinOp.sub 3 (Go.Operand.tmp 18) (Go.Operand.const (Go.Value.int Go.IntKind.i64 12)) 3, type := 3, pos := "l02_days.go:290", after := #[{ on := 7, ground := Go.Ground.data }], guard := none }) (v := ?_) rfl (by kernel_rfl) (by kernel_rfl) (by kernel_rfl) (fun _ _ _ h => h) (Or.inl ⟨by rfl, ?_⟩) (by assumption) ?_
    rotate_left
    · (intro w hSw; (try dsimp only at hSw); go_simp <;> try with_reducible rfl)
    try simp only [Act.put, List.setIfInBounds_toArray, List.set_cons_zero, List.set_cons_succ]
    refine wpAnyH_ready (rs := [10]) (by kernel_rfl) (by simp) ?_
    refine AllReadyH.cons (o := { dst := some 21, op := Go.Op.call { callee := Go.Callee.value (Go.Operand.func 34), args := #[Go.Operand.tmp 16, Go.Operand.tmp 19, Go.Operand.tmp 20], argTypes := #[48, 3, 24] }, type := 3, pos := "l02_days.go:290", after := #[{ on := 5, ground := Go.Ground.data }, { on := 8, ground := Go.Ground.data }, { on := 9, ground := Go.Ground.data }, { on := 7, ground := Go.Ground.chain }], guard := none }) rfl (fun K hK => ?_) (AllReadyH.nil)
    go_simp
    refine (spoil_any _ _ (some ⟨w2.heap.size + 1, 0, none⟩) [2000, -2000, 2001, -2001] 4 4 _ SA.out.cur HI.out rfl (by decide) (by decide)).mono ?_
    rintro e w6 ⟨y6, rfl, _, m6⟩
    replace SA : Hid (Sa w w2.heap.size off ad n cap z w6) := SA.out.moved m6
    clear m6
    first | refine hK.out _ _ (by exact SA.out.cells) (fun hHeld => ?_) | (go_wp2_with fail; refine hK.out _ _ (by exact SA.out.cells) (fun hHeld => ?_))
    clear hK K
    try simp only [Act.put, List.setIfInBounds_toArray, List.set_cons_zero, List.set_cons_succ]
    refine wpAnyH_ready (rs := [11]) (by kernel_rfl) (by simp) ?_
    refine AllReadyH.cons (o := { dst := none, op := Go.Op.store 26 (Go.Operand.tmp 2) (Go.Operand.tmp 11), type := 0, pos := "l02_days.go:290", after := #[{ on := 0, ground := Go.Ground.data }, { on := 10, ground := Go.Ground.chain }, { on := 0, ground := Go.Ground.phase }, { on := 1, ground := Go.Ground.textOnly Go.Departure.lateStores }, { on := 2, ground := Go.Ground.textOnly Go.Departure.lateStores }, { on := 3, ground := Go.Ground.textOnly Go.Departure.lateStoresUnsure }, { on := 4, ground := Go.Ground.textOnly Go.Departure.lateStoresUnsure }, { on := 5, ground := Go.Ground.textOnly Go.Departure.lateStores }, { on := 6, ground := Go.Ground.textOnly Go.Departure.lateStores }, { on := 7, ground := Go.Ground.textOnly Go.Departure.lateStoresUnsure }, { on := 8, ground := Go.Ground.textOnly Go.Departure.lateStores }, { on := 9, ground := Go.Ground.textOnly Go.Departure.lateStores }, { on := 10, ground := Go.Ground.textOnly Go.Departure.lateStoresUnsure }], guard := none }) rfl (fun K hK => ?_) (AllReadyH.nil)
    have t0 := SA.out.zb.cell 0
    have t1 := SA.out.zb.cell 1
    have f0 := SA.out.zb.fr 0
    have f1 := SA.out.zb.fr 1
    simp at t0 t1
    go_simp
    obtain ⟨W9, hW9, C9, B9, IR9, S9⟩ := SA.out.fin
    first | refine hK.out _ _ (by exact (hW9 ▸ S9)) (fun hHeld => ?_) | (go_wp2_with fail; refine hK.out _ _ (by exact (hW9 ▸ S9)) (fun hHeld => ?_))
    clear hK K
    try simp only [Act.put, List.setIfInBounds_toArray, List.set_cons_zero, List.set_cons_succ]
    refine wpAnyH_take (i := 12) (oi := { dst := some 3, op := Go.Op.assign (Go.Operand.tmp 15), type := 3, pos := "l02_days.go:290", after := #[{ on := 4, ground := Go.Ground.data }, { on := 11, ground := Go.Ground.chain }, { on := 0, ground := Go.Ground.phase }, { on := 1, ground := Go.Ground.phase }, { on := 2, ground := Go.Ground.phase }, { on := 3, ground := Go.Ground.phase }, { on := 4, ground := Go.Ground.phase }, { on := 5, ground := Go.Ground.textOnly Go.Departure.lateStores }, { on := 6, ground := Go.Ground.textOnly Go.Departure.lateStores }, { on := 7, ground := Go.Ground.textOnly Go.Departure.lateStoresUnsure }, { on := 8, ground := Go.Ground.textOnly Go.Departure.lateStores }, { on := 9, ground := Go.Ground.textOnly Go.Departure.lateStores }, { on := 10, ground := Go.Ground.textOnly Go.Departure.lateStoresUnsure }, { on := 11, ground := Go.Ground.phase }], guard := none }) (v := ?_) rfl (by kernel_rfl) (by kernel_rfl) (by kernel_rfl) (fun _ _ _ h => h) (Or.inl ⟨by rfl, ?_⟩) (by assumption) ?_
    rotate_left
    · (intro w hSw; (try dsimp only at hSw); go_simp <;> try with_reducible rfl)
    try simp only [Act.put, List.setIfInBounds_toArray, List.set_cons_zero, List.set_cons_succ]
    refine wpAnyH_take (i := 13) (oi := { dst := some 4, op := Go.Op.assign (Go.Operand.tmp 21), type := 3, pos := "l02_days.go:290", after := #[{ on := 10, ground := Go.Ground.data }, { on := 12, ground := Go.Ground.chain }, { on := 0, ground := Go.Ground.phase }, { on := 1, ground := Go.Ground.phase }, { on := 2, ground := Go.Ground.phase }, { on := 3, ground := Go.Ground.phase }, { on := 4, ground := Go.Ground.phase }, { on := 5, ground := Go.Ground.phase }, { on := 6, ground := Go.Ground.phase }, { on := 7, ground := Go.Ground.phase }, { on := 8, ground := Go.Ground.phase }, { on := 9, ground := Go.Ground.phase }, { on := 10, ground := Go.Ground.phase }, { on := 11, ground := Go.Ground.phase }, { on := 12, ground := Go.Ground.phase }], guard := none }) (v := ?_) rfl (by kernel_rfl) (by kernel_rfl) (by kernel_rfl) (fun _ _ _ h => h) (Or.inl ⟨by rfl, ?_⟩) (by assumption) ?_
    rotate_left
    · (intro w hSw; (try dsimp only at hSw); go_simp <;> try with_reducible rfl)
    try simp only [Act.put, List.setIfInBounds_toArray, List.set_cons_zero, List.set_cons_succ]
    refine wpAnyH_done (by kernel_rfl) ?_ _
    rw [← hW9]
    have e0 := C9.cell 0
    have e1 := C9.cell 1
    simp at e0 e1
    clear t0 t1 f0 f1 hHeld
    go_wp2
    refine bodyPost_ret (by simp [results, Try.results11, go_sem, e0, e1]; try rfl) rfl ?_
    exact dap hn5 IR9 B9

end Go.Proofs.Ytadjdpoplaknkaa
