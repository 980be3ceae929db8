/- An account is hung into the tree, in the program. -/
import Derived.Test.YtapailihjlfkgaaDoorTu
namespace Go.Proofs.YtapailihjlfkgaaDoor
open Go.ChangeShapes Go.WideShapes Go.ChangeAt Go.RowKit
open Go.Maps (Keyed)
set_option linter.unusedVariables false
set_option linter.unusedSimpArgs false

theorem key9 : Keyed Tryd.prog 9 := Go.Maps.string_keyed Tryd.underlying9

theorem oper_update_mt {P : Program} {w : World} {o : Oper} {a : Act} {K : Act → World → Prop} {Q : Exit → Act → World → Prop} (m x v : Operand) (t : TypeId) (hop : o.op = Op.mapUpdate t m x v)
    (k e : TypeId) (KK : Keyed P k) (hk : P.underlying k = some .string) (ht : P.underlying t = some (.map k e)) (z : Value) (b n : Nat) (F : ByteArray → Option Value)
    (hm : a.eval m = .map (some b)) (hown : MT P k z w b n F) (hn : n < maxLen) (key : ByteArray) (val : Value) (hx : a.eval x = .string key) (hv : a.eval v = val) (hw : key.size ≤ maxLen)
    (hK : ∀ w', MT P k z w' b (n + 1) (fun y => if y = key then some val else F y) → w.grownBy w' (some b) → K (a.put o.dst undef) w') : Oper.wp P o a w K Q := by
  obtain ⟨w', hrun, r1, r2⟩ := hown.update KK hk ht hn key hw val
  unfold Oper.wp
  simp [execOp, hop, hm, hx, hv, hrun, Result.andThen]
  exact hK w' r1 r2

theorem oper_look_mt {P : Program} {w : World} {o : Oper} {a : Act} {K : Act → World → Prop} {Q : Exit → Act → World → Prop} (m x : Operand) (t : TypeId) (hop : o.op = Op.lookup t m x true)
    (k e : TypeId) (KK : Keyed P k) (hk : P.underlying k = some .string) (ht : P.underlying t = some (.map k e)) (z : Value) (hz : (zeroValue e).run P w = .ok z w) (b n : Nat) (F : ByteArray → Option Value)
    (hm : a.eval m = .map (some b)) (hown : MT P k z w b n F) (key : ByteArray) (hx : a.eval x = .string key) (hw : key.size ≤ maxLen) (v : Value) (ok : Bool) (hF : (F key).getD z = v) (hO : (F key).isSome = ok)
    (hK : K (a.put o.dst (.tuple #[v, .bool ok])) w) : Oper.wp P o a w K Q := by
  have hrun := hown.look KK hk ht hz key hw
  rw [hF, hO] at hrun
  unfold Oper.wp
  simp [execOp, hop, hm, hx, hrun, Result.andThen]
  exact hK

set_option maxRecDepth 100000 in
theorem info60 : ∃ i, Tryd.prog.info? 179 = some i ∧ i.zero = some (.pointer none) ∧ i.size = 1 ∧ i.bytes = 8 := by
  obtain ⟨i0, hi⟩ : ∃ i, Tryd.prog.info? 179 = some i := ⟨_, rfl⟩
  have hz0 : i0.zero = some (.pointer none) := by
    have : (Tryd.prog.info? 179).bind (·.zero) = some (.pointer none) := by kernel_rfl
    rw [hi] at this; exact this
  have hz1 : i0.size = 1 := by
    have : (Tryd.prog.info? 179).map (·.size) = some 1 := by kernel_rfl
    rw [hi] at this; simpa using this
  have hz2 : i0.bytes = 8 := by
    have : (Tryd.prog.info? 179).map (·.bytes) = some 8 := by kernel_rfl
    rw [hi] at this; simpa using this
  exact ⟨i0, hi, hz0, hz1, hz2⟩

theorem cell_one_at {w : World} {b : Nat} {x : Value} {t : TypeId} (hb : w.heap.size = b) : ∀ j u, [x][j]? = some u → (w.alloc (.cells #[x] t (0, 0))).cell? ((⟨b, 0, none⟩ : Addr).add j) = some u := by
  intro j u hj
  match j, hj with
  | 0, hj => simp at hj; subst hj; exact ((CB.newAt hb #[x] t).cell 0).trans rfl
  | j + 1, hj => simp at hj
theorem CB.ne {w : World} {b : Nat} {cs : Array Value} {t : TypeId} {base : Nat} {e : TypeId} {size : Nat} {v : Value} {n : Nat} {xs : List Value} (H : CB w b cs t) (h : w.ownsRow base e size v n xs) (ht : t ≠ e) : some b ≠ v.ownBlock := by
  intro hg
  obtain ⟨cur, hc⟩ := row_cells h hg.symm
  unfold CB at H
  rw [H] at hc
  simp at hc
  exact ht hc.2
theorem MT.ne {P : Program} {k : TypeId} {z : Value} {w : World} {b n : Nat} {F : ByteArray → Option Value} (h : MT P k z w b n F) {base : Nat} {e : TypeId} {size : Nat} {v : Value} {m : Nat} {xs : List Value} (hr : w.ownsRow base e size v m xs) : some b ≠ v.ownBlock := by
  intro hg
  obtain ⟨cur, hc⟩ := row_cells hr hg.symm
  obtain ⟨es, cl, hm⟩ := h.isMap
  rw [hm] at hc
  simp at hc
theorem CB.ne2 {w : World} {b b' : Nat} {cs cs' : Array Value} {t t' : TypeId} (H : CB w b cs t) (H' : CB w b' cs' t') (ht : t ≠ t') : b ≠ b' := by
  intro e
  subst e
  unfold CB at H H'
  rw [H] at H'
  simp at H'
  exact ht H'.2
theorem MT.ne2 {P : Program} {k : TypeId} {z : Value} {w : World} {b n : Nat} {F : ByteArray → Option Value} (h : MT P k z w b n F) {b' : Nat} {cs : Array Value} {t : TypeId} (H : CB w b' cs t) : b' ≠ b := by
  intro e
  subst e
  obtain ⟨es, cl, hm⟩ := h.isMap
  unfold CB at H
  rw [hm] at H
  simp at H
theorem CB.grown {w w' : World} {b : Nat} {cs : Array Value} {t : TypeId} {row : Option Nat} (H : CB w b cs t) (hg : w.grownBy w' row) (hne : some b ≠ row) : CB w' b cs t := by
  have hlt := H.lt
  unfold CB at H ⊢
  rw [hg.block b hlt hne]; exact H
theorem CB.drewI {w : World} {b : Nat} {cs : Array Value} {t : TypeId} (H : CB w b cs t) : CB w.drew b cs t := H
theorem grow_cell {w w' : World} {row : Option Nat} {b o : Nat} {v : Value} (hg : w.grownBy w' row) (hne : some b ≠ row) (hc : w.cell? ⟨b, o, none⟩ = some v) : w'.cell? ⟨b, o, none⟩ = some v := by
  have hlt : b < w.heap.size := World.block_lt_of_cell? w ⟨b, o, none⟩ hc
  rw [World.cell?_of_block (w := w) (hg.block b hlt hne)]; exact hc
theorem row_set {w : World} {base : Nat} {e : TypeId} {size : Nat} {v : Value} {n : Nat} {xs : List Value} (h : w.ownsRow base e size v n xs) {b o : Nat} (hne : some b ≠ v.ownBlock) (u : Value) : (w.setCell ⟨b, o, none⟩ u).ownsRow base e size v n xs :=
  row_block h (fun g hg => Below.heap_setCell _ _ _ _ (by show g ≠ b; intro e; subst e; exact hne hg.symm))
theorem MT.set {P : Program} {k : TypeId} {z : Value} {w : World} {b n : Nat} {F : ByteArray → Option Value} (h : MT P k z w b n F) {b' o : Nat} (hne : b' ≠ b) (u : Value) : MT P k z (w.setCell ⟨b', o, none⟩ u) b n F :=
  h.block (Below.heap_setCell _ _ _ _ (by show b ≠ b'; omega))
theorem heap_set {w : World} {b o x : Nat} {u : Value} (hne : x ≠ b) : (w.setCell ⟨b, o, none⟩ u).heap[x]? = w.heap[x]? := Below.heap_setCell _ _ _ _ (by show x ≠ b; exact hne)

set_option maxHeartbeats 4000000 in
set_option maxRecDepth 20000 in
theorem hang_any (T mp base n s0 : Nat) (c : Nat → C3) (N : Nat → Nat) (S : Nat → Value) (ns : Value) (w : World) (h : TR Tryd.prog w base T mp n c N S ns) (hbase : base ≤ w.heap.size) (hn : n < 120) (L : Low (par c) (n + 1)) (hs0 : (par c n + 1).toNat = s0) (hcode : (c n).code.size ≤ 20) (hd : dep (par c) s0 ≤ 9) :
    Calls Tryd.prog 127 #[.pointer (some ⟨T, 0, none⟩), .agg #[.string (c n).code, .int .i64 (c n).places, .int .i64 (c n).step], .pointer (some ⟨N s0, 0, none⟩)] w fun e w' => e = .returned undef ∧ (∃ N' S' ns', TR Tryd.prog w' base T mp (n + 1) c N' S' ns') ∧ Below base w w' ∧ w.heap.size ≤ w'.heap.size := by
  have hln := L n (by omega)
  have hs : s0 ≤ n := by omega
  obtain ⟨d, hdd⟩ : ∃ d : Int, (dep (par c) s0 : Int) = d := ⟨_, rfl⟩
  have hd1 : 0 ≤ d := by omega
  have hd2 : d ≤ 9 := by omega
  have HD : Hid ((dep (par c) s0 : Int) = d) := hdd
  have hwd : IntKind.i64.wrap d = d := IntWalk.i64_in _ (by omega)
  obtain ⟨adn, capn, rfl⟩ := row_form h.nodes
  have h1 := h.alloc (.cells #[.string (c n).code, .int .i64 (c n).places, .int .i64 (c n).step] 43 (0, 0))
  have hC1 := CB.new (w := w) #[.string (c n).code, .int .i64 (c n).places, .int .i64 (c n).step] 43
  have x0 : (w.alloc (.cells #[.string (c n).code, .int .i64 (c n).places, .int .i64 (c n).step] 43 (0, 0))).cell? ⟨w.heap.size, 0, none⟩ = some (.string (c n).code) := (hC1.cell 0).trans rfl
  have x1 : (w.alloc (.cells #[.string (c n).code, .int .i64 (c n).places, .int .i64 (c n).step] 43 (0, 0))).cell? ⟨w.heap.size, 1, none⟩ = some (.int .i64 (c n).places) := (hC1.cell 1).trans rfl
  have x2 : (w.alloc (.cells #[.string (c n).code, .int .i64 (c n).places, .int .i64 (c n).step] 43 (0, 0))).cell? ⟨w.heap.size, 2, none⟩ = some (.int .i64 (c n).step) := (hC1.cell 2).trans rfl
  have x3 := h1.top1
  have x4 := h1.depth hs
  rw [hdd] at x4
  have hC2 := (hC1.alloc (.cells #[.string (c n).code, .int .i64 (c n).places, .int .i64 (c n).step, .int .i64 (n : Int), .int .i64 d, .pointer (some ⟨N s0, 0, none⟩), .slice none 0 0] 182 (0, 0)))
  have h2 := h1.alloc (.cells #[.string (c n).code, .int .i64 (c n).places, .int .i64 (c n).step, .int .i64 (n : Int), .int .i64 d, .pointer (some ⟨N s0, 0, none⟩), .slice none 0 0] 182 (0, 0))
  have y0 := (hC2.cell 0).trans (show _ = some (.string (c n).code) from rfl)
  have y1 := (hC2.cell 1).trans (show _ = some (.int .i64 (c n).places) from rfl)
  have y2 := (hC2.cell 2).trans (show _ = some (.int .i64 (c n).step) from rfl)
  have y3 := h2.top1
  have y4 := h2.depth hs
  rw [hdd] at y4
  go_enter Tryd.func127, Tryd.ntmps127
  go_wp2
  refine wp_region_noPanic ?_
  refine wp_region_held_drew (S := fun w' => w'.cell? ⟨w.heap.size, 0, none⟩ = some (.string (c n).code) ∧ w'.cell? ⟨w.heap.size, 1, none⟩ = some (.int .i64 (c n).places) ∧ w'.cell? ⟨w.heap.size, 2, none⟩ = some (.int .i64 (c n).step) ∧ w'.cell? ⟨T, 1, none⟩ = some (.slice adn n capn) ∧ w'.cell? ⟨N s0, 4, none⟩ = some (.int .i64 (d - 1))) (by kernel_rfl) ?_ (fun hHeld => ?_)
  · exact ⟨x0, x1, x2, x3, x4⟩
  refine wpAnyH_take (i := 0) (oi := { dst := some 7, op := Go.Op.load 43 (Go.Operand.tmp 4), type := 43, pos := "l04_accounts.go:107", after := #[], guard := none }) (v := ?_) rfl (by kernel_rfl) (by kernel_rfl) (by kernel_rfl) (fun _ _ _ h => h) (Or.inl ⟨by rfl, ?_⟩) (by assumption) ?_
  rotate_left
  · (intro w hSw; (try dsimp only at hSw); go_simp <;> try with_reducible rfl)
  try simp only [Act.put, List.setIfInBounds_toArray, List.set_cons_zero, List.set_cons_succ]
  refine wpAnyH_take (i := 1) (oi := { dst := some 8, op := Go.Op.move (Go.Operand.tmp 0), type := 80, pos := "l04_accounts.go:107", after := #[], guard := none }) (v := ?_) rfl (by kernel_rfl) (by kernel_rfl) (by kernel_rfl) (fun _ _ _ h => h) (Or.inl ⟨by rfl, ?_⟩) (by assumption) ?_
  rotate_left
  · (intro w hSw; (try dsimp only at hSw); go_simp <;> try with_reducible rfl)
  try simp only [Act.put, List.setIfInBounds_toArray, List.set_cons_zero, List.set_cons_succ]
  refine wpAnyH_take (i := 2) (oi := { dst := some 9, op := Go.Op.nilCheck (Go.Operand.tmp 8), type := 0, pos := "l04_accounts.go:107", after := #[{ on := 1, ground := Go.Ground.data }], guard := none }) (v := ?_) rfl (by kernel_rfl) (by kernel_rfl) (by kernel_rfl) (fun _ _ _ h => h) (Or.inl ⟨by rfl, ?_⟩) (by assumption) ?_
  rotate_left
  · (intro w hSw; (try dsimp only at hSw); go_simp <;> try with_reducible rfl)
  try simp only [Act.put, List.setIfInBounds_toArray, List.set_cons_zero, List.set_cons_succ]
  refine wpAnyH_take (i := 3) (oi := { dst := some 10, op := Go.Op.fieldAddr 185 (Go.Operand.tmp 9) 1, type := 0, pos := "l04_accounts.go:107", after := #[{ on := 2, ground := Go.Ground.data }], guard := none }) (v := ?_) rfl (by kernel_rfl) (by kernel_rfl) (by kernel_rfl) (fun _ _ _ h => h) (Or.inl ⟨by rfl, ?_⟩) (by assumption) ?_
  rotate_left
  · (intro w hSw; (try dsimp only at hSw); go_simp <;> try with_reducible rfl)
  try simp only [Act.put, List.setIfInBounds_toArray, List.set_cons_zero, List.set_cons_succ]
  refine wpAnyH_take (i := 4) (oi := { dst := some 11, op := Go.Op.load 180 (Go.Operand.tmp 10), type := 180, pos := "l04_accounts.go:107", after := #[{ on := 3, ground := Go.Ground.data }], guard := none }) (v := ?_) rfl (by kernel_rfl) (by kernel_rfl) (by kernel_rfl) (fun _ _ _ h => h) (Or.inl ⟨by rfl, ?_⟩) (by assumption) ?_
  rotate_left
  · (intro w hSw; (try dsimp only at hSw); go_simp <;> try with_reducible rfl)
  try simp only [Act.put, List.setIfInBounds_toArray, List.set_cons_zero, List.set_cons_succ]
  refine wpAnyH_take (i := 5) (oi := { dst := some 12, op := Go.Op.call { callee := Go.Callee.builtin Go.Builtin.len, args := #[Go.Operand.tmp 11], argTypes := #[180] }, type := 3, pos := "l04_accounts.go:107", after := #[{ on := 4, ground := Go.Ground.data }], guard := none }) (v := ?_) rfl (by kernel_rfl) (by kernel_rfl) (by kernel_rfl) (fun _ _ _ h => h) (Or.inl ⟨by rfl, ?_⟩) (by assumption) ?_
  rotate_left
  · (intro w hSw; (try dsimp only at hSw); go_simp <;> try with_reducible rfl)
  try simp only [Act.put, List.setIfInBounds_toArray, List.set_cons_zero, List.set_cons_succ]
  refine wpAnyH_take (i := 6) (oi := { dst := some 13, op := Go.Op.move (Go.Operand.tmp 2), type := 179, pos := "l04_accounts.go:107", after := #[], guard := none }) (v := ?_) rfl (by kernel_rfl) (by kernel_rfl) (by kernel_rfl) (fun _ _ _ h => h) (Or.inl ⟨by rfl, ?_⟩) (by assumption) ?_
  rotate_left
  · (intro w hSw; (try dsimp only at hSw); go_simp <;> try with_reducible rfl)
  try simp only [Act.put, List.setIfInBounds_toArray, List.set_cons_zero, List.set_cons_succ]
  refine wpAnyH_take (i := 7) (oi := { dst := some 14, op := Go.Op.nilCheck (Go.Operand.tmp 13), type := 0, pos := "l04_accounts.go:107", after := #[{ on := 6, ground := Go.Ground.data }], guard := none }) (v := ?_) rfl (by kernel_rfl) (by kernel_rfl) (by kernel_rfl) (fun _ _ _ h => h) (Or.inl ⟨by rfl, ?_⟩) (by assumption) ?_
  rotate_left
  · (intro w hSw; (try dsimp only at hSw); go_simp <;> try with_reducible rfl)
  try simp only [Act.put, List.setIfInBounds_toArray, List.set_cons_zero, List.set_cons_succ]
  refine wpAnyH_take (i := 8) (oi := { dst := some 15, op := Go.Op.fieldAddr 182 (Go.Operand.tmp 14) 2, type := 0, pos := "l04_accounts.go:107", after := #[{ on := 7, ground := Go.Ground.data }], guard := none }) (v := ?_) rfl (by kernel_rfl) (by kernel_rfl) (by kernel_rfl) (fun _ _ _ h => h) (Or.inl ⟨by rfl, ?_⟩) (by assumption) ?_
  rotate_left
  · (intro w hSw; (try dsimp only at hSw); go_simp <;> try with_reducible rfl)
  try simp only [Act.put, List.setIfInBounds_toArray, List.set_cons_zero, List.set_cons_succ]
  refine wpAnyH_take (i := 9) (oi := { dst := some 16, op := Go.Op.load 3 (Go.Operand.tmp 15), type := 3, pos := "l04_accounts.go:107", after := #[{ on := 8, ground := Go.Ground.data }], guard := none }) (v := ?_) rfl (by kernel_rfl) (by kernel_rfl) (by kernel_rfl) (fun _ _ _ h => h) (Or.inl ⟨by rfl, ?_⟩) (by assumption) ?_
  rotate_left
  · (intro w hSw; (try dsimp only at hSw); go_simp <;> try with_reducible rfl)
  try simp only [Act.put, List.setIfInBounds_toArray, List.set_cons_zero, List.set_cons_succ]
  refine wpAnyH_take (i := 10) (oi := { dst := some 17, op := Go.Op.binOp Go.BinOp.add 3 (Go.Operand.tmp 16) (Go.Operand.const (Go.Value.int Go.IntKind.i64 1)) 3, type := 3, pos := "l04_accounts.go:107", after := #[{ on := 9, ground := Go.Ground.data }], guard := none }) (v := ?_) rfl (by kernel_rfl) (by kernel_rfl) (by kernel_rfl) (fun _ _ _ h => h) (Or.inl ⟨by rfl, ?_⟩) (by assumption) ?_
  rotate_left
  · (intro w hSw; (try dsimp only at hSw); go_simp <;> try with_reducible rfl)
  try simp only [Act.put, List.setIfInBounds_toArray, List.set_cons_zero, List.set_cons_succ]
  refine wpAnyH_take (i := 11) (oi := { dst := some 18, op := Go.Op.move (Go.Operand.tmp 2), type := 179, pos := "l04_accounts.go:107", after := #[], guard := none }) (v := ?_) rfl (by kernel_rfl) (by kernel_rfl) (by kernel_rfl) (fun _ _ _ h => h) (Or.inl ⟨by rfl, ?_⟩) (by assumption) ?_
  rotate_left
  · (intro w hSw; (try dsimp only at hSw); go_simp <;> try with_reducible rfl)
  try simp only [Act.put, List.setIfInBounds_toArray, List.set_cons_zero, List.set_cons_succ]
  refine wpAnyH_take (i := 12) (oi := { dst := some 19, op := Go.Op.build 182 #[(0, Go.Operand.tmp 7), (1, Go.Operand.tmp 12), (2, Go.Operand.tmp 17), (3, Go.Operand.tmp 18)], type := 182, pos := "l04_accounts.go:107", after := #[{ on := 0, ground := Go.Ground.data }, { on := 5, ground := Go.Ground.data }, { on := 10, ground := Go.Ground.data }, { on := 11, ground := Go.Ground.data }], guard := none }) (v := ?_) rfl (by kernel_rfl) (by kernel_rfl) (by kernel_rfl) (fun _ _ _ h => h) (Or.inl ⟨by rfl, ?_⟩) (by assumption) ?_
  rotate_left
  · (intro w hSw; (try dsimp only at hSw); go_simp <;> try with_reducible rfl)
  try simp only [Act.put, List.setIfInBounds_toArray, List.set_cons_zero, List.set_cons_succ]
  refine wpAnyH_ready (rs := [13]) (by kernel_rfl) (by simp) ?_
  refine AllReadyH.cons (o := { dst := some 20, op := Go.Op.box 182 (Go.Operand.tmp 19), type := 179, pos := "l04_accounts.go:107", after := #[{ on := 12, ground := Go.Ground.data }], guard := none }) rfl (fun K hK => ?_) AllReadyH.nil
  go_simp
  refine hK.out _ _ ⟨y0, y1, y2, y3, y4⟩ (fun hHeld => ?_)
  clear hK K
  try simp only [Act.put, List.setIfInBounds_toArray, List.set_cons_zero, List.set_cons_succ]
  refine wpAnyH_take (i := 14) (oi := { dst := some 6, op := Go.Op.assign (Go.Operand.tmp 20), type := 179, pos := "l04_accounts.go:107", after := #[{ on := 13, ground := Go.Ground.data }, { on := 0, ground := Go.Ground.phase }, { on := 1, ground := Go.Ground.phase }, { on := 2, ground := Go.Ground.phase }, { on := 3, ground := Go.Ground.phase }, { on := 4, ground := Go.Ground.phase }, { on := 5, ground := Go.Ground.phase }, { on := 6, ground := Go.Ground.phase }, { on := 7, ground := Go.Ground.phase }, { on := 8, ground := Go.Ground.phase }, { on := 9, ground := Go.Ground.phase }, { on := 10, ground := Go.Ground.phase }, { on := 11, ground := Go.Ground.phase }, { on := 12, ground := Go.Ground.phase }, { on := 13, ground := Go.Ground.phase }], guard := none }) (v := ?_) rfl (by kernel_rfl) (by kernel_rfl) (by kernel_rfl) (fun _ _ _ h => h) (Or.inl ⟨by rfl, ?_⟩) (by assumption) ?_
  rotate_left
  · (intro w hSw; (try dsimp only at hSw); go_simp <;> try with_reducible rfl)
  try simp only [Act.put, List.setIfInBounds_toArray, List.set_cons_zero, List.set_cons_succ]
  refine wpAnyH_done (by kernel_rfl) ?_ _
  refine NoPanic.normal ?_
  obtain ⟨W2, hW2, T2, A2, B2, K2, Z2, Y2⟩ : ∃ W2, W2 = ((w.alloc (.cells #[.string (c n).code, .int .i64 (c n).places, .int .i64 (c n).step] 43 (0, 0))).alloc (.cells #[.string (c n).code, .int .i64 (c n).places, .int .i64 (c n).step, .int .i64 (n : Int), .int .i64 d, .pointer (some ⟨N s0, 0, none⟩), .slice none 0 0] 182 (0, 0))).drew ∧ TR Tryd.prog W2 base T mp n c N S (.slice adn n capn) ∧ CB W2 (w.heap.size + 1) #[.string (c n).code, .int .i64 (c n).places, .int .i64 (c n).step, .int .i64 (n : Int), .int .i64 d, .pointer (some ⟨N s0, 0, none⟩), .slice none 0 0] 182 ∧ CB W2 w.heap.size #[.string (c n).code, .int .i64 (c n).places, .int .i64 (c n).step] 43 ∧ (∀ x, x < w.heap.size → W2.heap[x]? = w.heap[x]?) ∧ W2.heap.size = w.heap.size + 2 ∧ Below base w W2 :=
    ⟨_, rfl, h2.drew, (CB.newAt (by simp) _ _).drewI, hC2.drewI, fun x hx => (heap_alloc_old _ _ (by simp; omega)).trans (heap_alloc_old _ _ hx), by show (World.alloc _ _).heap.size = _; simp, (((Below.refl _ _).alloc hbase _).alloc (by simp; omega) _).drew⟩
  rw [← hW2]
  clear hW2 h1 h2 hC1 hC2 x0 x1 x2 x3 x4 y0 y1 y2 y3 y4
  obtain ⟨i0, hi, hz0, hz1, hz2⟩ := info60
  have hlc := chL_len (par c) n s0
  have pr := T2.parts s0 hs
  have n6 := T2.partsC hs
  have f6 := (T2.node s0 hs).fr 6
  have HT : Hid (TR Tryd.prog W2 base T mp n c N S (.slice adn n capn)) := T2
  have HA : Hid (CB W2 (w.heap.size + 1) #[.string (c n).code, .int .i64 (c n).places, .int .i64 (c n).step, .int .i64 (n : Int), .int .i64 d, .pointer (some ⟨N s0, 0, none⟩), .slice none 0 0] 182) := A2
  have HB : Hid (CB W2 w.heap.size #[.string (c n).code, .int .i64 (c n).places, .int .i64 (c n).step] 43) := B2
  have HK : Hid (∀ x, x < w.heap.size → W2.heap[x]? = w.heap[x]?) := K2
  have HL : Hid (Low (par c) (n + 1)) := L
  have H0 : Hid (TR Tryd.prog w base T mp n c N S (.slice adn n capn)) := h
  have HP : Hid (W2.ownsRow base 179 1 (S s0) (chL (par c) n s0).length (ptrs N (chL (par c) n s0))) := pr
  have neN : Hid (some (N s0) ≠ (S s0).ownBlock) := (T2.node s0 hs).ne pr (by decide)
  have neT : Hid (some T ≠ (S s0).ownBlock) := T2.top.ne pr (by decide)
  have neA : Hid (some (w.heap.size + 1) ≠ (S s0).ownBlock) := A2.ne pr (by decide)
  have neB : Hid (some w.heap.size ≠ (S s0).ownBlock) := B2.ne pr (by decide)
  have neM : Hid (some mp ≠ (S s0).ownBlock) := T2.map.ne pr
  have HZ : Hid (W2.heap.size = w.heap.size + 2) := Z2
  have HY : Hid (Below base w W2) := Y2
  have tk1 : True := trivial
  clear T2 A2 B2 K2 L h pr Z2 Y2
  go_wp2_with (first
    | (at_builtin; have := tk1; clear this tk1
       refine wpList_append_own_at _ rfl _ _ 180 rfl base 179 i0 (.pointer none) 1 8 Tryd.underlying180 hi hz0 hz1 hz2 rfl (by decide) (S s0) (chL (par c) n s0).length (ptrs N (chL (par c) n s0)) rfl (HP.out.alloc _) ⟨W2.heap.size, 0, none⟩ 1 1 [.pointer (some ⟨w.heap.size + 1, 0, none⟩)] rfl rfl (cell_one_at rfl) (fun u hu => by simp at hu; subst hu; rfl) (by unfold maxLen; omega) (by omega) (by have := HZ.out; simp; omega) ?_
       intro v W4 hown4 hgrow4 _ hloc4
       obtain ⟨adv, capv, rfl⟩ := row_form hown4
       have Z2 := HZ.out
       have Y4 : Hid (Below base w W4) := (HY.out.alloc (by omega) _).grown hgrow4 (by simp; omega) (fun g hg => (HP.out.lt g hg).1)
       have g3 : ∀ x, x < W2.heap.size → some x ≠ (S s0).ownBlock → W4.heap[x]? = W2.heap[x]? := fun x hx hne => (hgrow4.block x (by simp; omega) hne).trans (heap_alloc_old _ _ hx)
       have z4 : w.heap.size + 3 ≤ W4.heap.size := by have := hgrow4.size; simp at this; omega
       have t4 := (HT.out.top.alloc _).grown hgrow4 neT.out
       have u4 := (HT.out.node s0 hs).alloc _ |>.grown hgrow4 neN.out
       have a4 := (HA.out.alloc _).grown hgrow4 neA.out
       have b4 := (HB.out.alloc _).grown hgrow4 neB.out
       have m4 := (HT.out.map.kept (World.grownBy_alloc _ _ none) (by simp)).kept hgrow4 neM.out
       have r4 : W4.ownsRow base 179 1 (.slice adn n capn) n (ptrs N (List.range n)) := row_block HT.out.nodes (fun g hg => g3 g (HT.out.nodes.lt g hg).2 (fun e => (HT.out.far s0 hs).elim (fun q => by rw [q] at e; cases e) (fun q => q (e.symm.trans hg.symm))))
       have ne4 : some (N s0) ≠ Value.ownBlock (.slice adn n capn) := u4.ne r4 (by decide)
       have r5 := row_set r4 (o := 6) ne4 (.slice adv ((chL (par c) n s0).length + 1) capv)
       have c41 : W4.cell? ⟨T, 1, none⟩ = some (.slice adn n capn) := (t4.cell 1).trans rfl
       have f41 : W4.frozen? ⟨T, 1, none⟩ = false := t4.fr 1
       have n46 : W4.cell? ⟨N s0, 6, none⟩ = some (S s0) := (u4.cell 6).trans (by cases s0 <;> rfl)
       have f46 : W4.frozen? ⟨N s0, 6, none⟩ = false := u4.fr 6
       have G3 : Hid (∀ x, x < W2.heap.size → some x ≠ (S s0).ownBlock → W4.heap[x]? = W2.heap[x]?) := g3
       have T4 : Hid (CB W4 T #[pn (N n), (.slice adn n capn), .map (some mp)] 185) := t4
       have U4 : Hid (CB W4 (N s0) (nodeCs c N S s0) 182) := u4
       have A4 : Hid (CB W4 (w.heap.size + 1) #[.string (c n).code, .int .i64 (c n).places, .int .i64 (c n).step, .int .i64 (n : Int), .int .i64 d, .pointer (some ⟨N s0, 0, none⟩), .slice none 0 0] 182) := a4
       have B4 : Hid (CB W4 w.heap.size #[.string (c n).code, .int .i64 (c n).places, .int .i64 (c n).step] 43) := b4
       have M4 : Hid (MT Tryd.prog 9 (.pointer none) W4 mp n (fun x => (codeAt c n x).map (fun i => pn (N (i + 1))))) := m4
       have R5 : Hid ((W4.setCell ⟨N s0, 6, none⟩ (.slice adv ((chL (par c) n s0).length + 1) capv)).ownsRow base 179 1 (.slice adn n capn) n (ptrs N (List.range n))) := r5
       have O4 : Hid (W4.ownsRow base 179 1 (.slice adv ((chL (par c) n s0).length + 1) capv) ((chL (par c) n s0).length + 1) (ptrs N (chL (par c) n s0) ++ [.pointer (some ⟨w.heap.size + 1, 0, none⟩)])) := hown4
       have V4 : Hid (Value.ownBlock (.slice adv ((chL (par c) n s0).length + 1) capv) = (S s0).ownBlock ∨ Value.ownBlock (.slice adv ((chL (par c) n s0).length + 1) capv) = some (W2.alloc (.cells #[.pointer (some ⟨w.heap.size + 1, 0, none⟩)] 179 (0, 0))).heap.size) := hloc4
       have E4 : Hid (some (N s0) ≠ Value.ownBlock (.slice adn n capn)) := ne4
       clear g3 t4 u4 a4 b4 m4 r4 ne4 r5 hown4 hgrow4 hloc4 n6 f6 Z2)
    | (at_builtin; have := R5
       refine wpList_append_own_at _ rfl _ _ 180 rfl base 179 i0 (.pointer none) 1 8 Tryd.underlying180 hi hz0 hz1 hz2 rfl (by decide) (.slice adn n capn) n (ptrs N (List.range n)) rfl (R5.out.alloc _) ⟨W4.heap.size, 0, none⟩ 1 1 [.pointer (some ⟨w.heap.size + 1, 0, none⟩)] rfl rfl (cell_one_at (by simp)) (fun u hu => by simp at hu; subst hu; rfl) (by unfold maxLen; omega) (by omega) (by simp; omega) ?_
       intro nsv W7 hown7 hgrow7 _ hloc7
       obtain ⟨adm, capm, rfl⟩ := row_form hown7
       have hN0 : N s0 < w.heap.size := (H0.out.node s0 hs).lt
       have Y7 : Hid (Below base w W7) := ((Y4.out.setCell (H0.out.low.2.2 s0 hs) (.slice adv ((chL (par c) n s0).length + 1) capv)).alloc (by simp; omega) _).grown hgrow7 (by simp; omega) (fun g hg => (H0.out.nodes.lt g hg).1)
       have hTN : T ≠ N s0 := T4.out.ne2 U4.out (by decide)
       have t7 := (T4.out.other (.slice adv ((chL (par c) n s0).length + 1) capv) (o := 6) hTN).alloc (.cells #[.pointer (some ⟨w.heap.size + 1, 0, none⟩)] 179 (0, 0)) |>.grown hgrow7 ((T4.out.other (.slice adv ((chL (par c) n s0).length + 1) capv) (o := 6) hTN).ne R5.out (by decide))
       have u7 := (U4.out.set 6 (.slice adv ((chL (par c) n s0).length + 1) capv)).alloc (.cells #[.pointer (some ⟨w.heap.size + 1, 0, none⟩)] 179 (0, 0)) |>.grown hgrow7 E4.out
       have a7 := (A4.out.other (.slice adv ((chL (par c) n s0).length + 1) capv) (o := 6) (by omega : w.heap.size + 1 ≠ N s0)).alloc (.cells #[.pointer (some ⟨w.heap.size + 1, 0, none⟩)] 179 (0, 0)) |>.grown hgrow7 ((A4.out.other (.slice adv ((chL (par c) n s0).length + 1) capv) (o := 6) (by omega : w.heap.size + 1 ≠ N s0)).ne R5.out (by decide))
       have b7 := (B4.out.other (.slice adv ((chL (par c) n s0).length + 1) capv) (o := 6) (by omega : w.heap.size ≠ N s0)).alloc (.cells #[.pointer (some ⟨w.heap.size + 1, 0, none⟩)] 179 (0, 0)) |>.grown hgrow7 ((B4.out.other (.slice adv ((chL (par c) n s0).length + 1) capv) (o := 6) (by omega : w.heap.size ≠ N s0)).ne R5.out (by decide))
       have m5 := M4.out.set (o := 6) (M4.out.ne2 U4.out) (.slice adv ((chL (par c) n s0).length + 1) capv)
       have m7 := (m5.kept (World.grownBy_alloc _ (.cells #[.pointer (some ⟨w.heap.size + 1, 0, none⟩)] 179 (0, 0)) none) (by simp)).kept hgrow7 (m5.ne R5.out)
       have hnl : ∀ g, Value.ownBlock (.slice adn n capn) = some g → g < w.heap.size := fun g hg => (H0.out.nodes.lt g hg).2
       have hvn : Value.ownBlock (.slice adv ((chL (par c) n s0).length + 1) capv) = none ∨ Value.ownBlock (.slice adv ((chL (par c) n s0).length + 1) capv) ≠ Value.ownBlock (.slice adn n capn) := by
         rcases V4.out with e | e
         · rw [e]; exact H0.out.far s0 hs
         · refine .inr (fun e2 => ?_)
           rw [e] at e2
           have := hnl _ e2.symm
           have z2 := HZ.out
           simp at this
           omega
       have v7 := ((row_set O4.out (o := 6) (U4.out.ne O4.out (by decide)) (.slice adv ((chL (par c) n s0).length + 1) capv)).alloc (.cells #[.pointer (some ⟨w.heap.size + 1, 0, none⟩)] 179 (0, 0))).kept hgrow7 hvn
       have k7 : ∀ x, x < w.heap.size → some x ≠ (S s0).ownBlock → x ≠ N s0 → some x ≠ Value.ownBlock (.slice adn n capn) → W7.heap[x]? = w.heap[x]? := fun x hx h1 h2 h3 => by
         have z2 := HZ.out
         rw [hgrow7.block x (by simp; omega) h3, heap_alloc_old _ _ (by simp; omega), heap_set h2, G3.out x (by omega) h1, HK.out x hx]
       have z7 : w.heap.size + 3 ≤ W7.heap.size := by have := hgrow7.size; simp at this; omega
       have c71 : W7.cell? ⟨T, 1, none⟩ = some (.slice adn n capn) := (t7.cell 1).trans rfl
       have f71 : W7.frozen? ⟨T, 1, none⟩ = false := t7.fr 1
       have L7 : Hid (Value.ownBlock (.slice adm (n + 1) capm) = Value.ownBlock (.slice adn n capn) ∨ ∃ g, Value.ownBlock (.slice adm (n + 1) capm) = some g ∧ w.heap.size ≤ g ∧ (∀ g2, Value.ownBlock (.slice adv ((chL (par c) n s0).length + 1) capv) = some g2 → g2 < g)) := by
         rcases hloc7 with e | e
         · exact .inl e
         · refine .inr ⟨_, e, by simp; omega, fun g2 h2 => ?_⟩
           have := (O4.out.lt g2 h2).2
           simp
           omega
       have T7 : Hid (CB W7 T #[pn (N n), .slice adn n capn, .map (some mp)] 185) := t7
       have U7 : Hid (CB W7 (N s0) ((nodeCs c N S s0).setIfInBounds 6 (.slice adv ((chL (par c) n s0).length + 1) capv)) 182) := u7
       have A7 : Hid (CB W7 (w.heap.size + 1) #[.string (c n).code, .int .i64 (c n).places, .int .i64 (c n).step, .int .i64 (n : Int), .int .i64 d, .pointer (some ⟨N s0, 0, none⟩), .slice none 0 0] 182) := a7
       have B7 : Hid (CB W7 w.heap.size #[.string (c n).code, .int .i64 (c n).places, .int .i64 (c n).step] 43) := b7
       have M7 : Hid (MT Tryd.prog 9 (.pointer none) W7 mp n (fun x => (codeAt c n x).map (fun i => pn (N (i + 1))))) := m7
       have O7 : Hid (W7.ownsRow base 179 1 (.slice adv ((chL (par c) n s0).length + 1) capv) ((chL (par c) n s0).length + 1) (ptrs N (chL (par c) n s0) ++ [.pointer (some ⟨w.heap.size + 1, 0, none⟩)])) := v7
       have P7 : Hid (W7.ownsRow base 179 1 (.slice adm (n + 1) capm) (n + 1) (ptrs N (List.range n) ++ [.pointer (some ⟨w.heap.size + 1, 0, none⟩)])) := hown7
       have VN : Hid (Value.ownBlock (.slice adv ((chL (par c) n s0).length + 1) capv) = none ∨ Value.ownBlock (.slice adv ((chL (par c) n s0).length + 1) capv) ≠ Value.ownBlock (.slice adn n capn)) := hvn
       have K7 : Hid (∀ x, x < w.heap.size → some x ≠ (S s0).ownBlock → x ≠ N s0 → some x ≠ Value.ownBlock (.slice adn n capn) → W7.heap[x]? = w.heap[x]?) := k7
       clear hN0 hTN t7 u7 a7 b7 m5 m7 hnl hvn v7 k7 hown7 hgrow7 hloc7 c41 f41 n46 f46))
  clear c71 f71
  have hN0 : N s0 < w.heap.size := (H0.out.node s0 hs).lt
  have hT0 : T < w.heap.size := H0.out.top.lt
  have hTN : N s0 ≠ T := U7.out.ne2 T7.out (by decide)
  have t8 : CB (W7.setCell ⟨T, 1, none⟩ (.slice adm (n + 1) capm)) T #[pn (N n), (.slice adm (n + 1) capm), .map (some mp)] 185 := T7.out.set 1 _
  have u8 := U7.out.other (.slice adm (n + 1) capm) (o := 1) hTN
  have a8 := A7.out.other (.slice adm (n + 1) capm) (o := 1) (by omega : w.heap.size + 1 ≠ T)
  have b8 := B7.out.other (.slice adm (n + 1) capm) (o := 1) (by omega : w.heap.size ≠ T)
  have m8 := M7.out.set (o := 1) (M7.out.ne2 T7.out) (.slice adm (n + 1) capm)
  have o8 := row_set O7.out (o := 1) (T7.out.ne O7.out (by decide)) (.slice adm (n + 1) capm)
  have p8 := row_set P7.out (o := 1) (T7.out.ne P7.out (by decide)) (.slice adm (n + 1) capm)
  have k8 : ∀ x, x < w.heap.size → some x ≠ (S s0).ownBlock → x ≠ N s0 → some x ≠ Value.ownBlock (.slice adn n capn) → x ≠ T → (W7.setCell ⟨T, 1, none⟩ (.slice adm (n + 1) capm)).heap[x]? = w.heap[x]? := fun x hx h1 h2 h3 h4 => (heap_set h4).trans (K7.out x hx h1 h2 h3)
  have z8 : w.heap.size + 3 ≤ (W7.setCell ⟨T, 1, none⟩ (.slice adm (n + 1) capm)).heap.size := by simpa using z7
  have y8 : Below base w (W7.setCell ⟨T, 1, none⟩ (.slice adm (n + 1) capm)) := Y7.out.setCell H0.out.low.1 _
  generalize W7.setCell ⟨T, 1, none⟩ (.slice adm (n + 1) capm) = W8 at t8 u8 a8 b8 m8 o8 p8 k8 z8 y8 ⊢
  have g2 : W8.cell? ⟨T, 2, none⟩ = some (.map (some mp)) := (t8.cell 2).trans rfl
  have gb : W8.cell? ⟨w.heap.size, 0, none⟩ = some (.string (c n).code) := (b8.cell 0).trans rfl
  have HM8 : Hid (MT Tryd.prog 9 (.pointer none) W8.drew mp n (fun x => (codeAt c n x).map (fun i => pn (N (i + 1))))) := m8
  have neTm : T ≠ mp := m8.ne2 t8
  have neBm : w.heap.size ≠ mp := m8.ne2 b8
  have G9a : ∀ {w9 : World}, W8.drew.grownBy w9 (some mp) → w9.cell? ⟨T, 2, none⟩ = some (.map (some mp)) := fun hg => grow_cell hg (by simpa using neTm) g2
  have G9b : ∀ {w9 : World}, W8.drew.grownBy w9 (some mp) → w9.cell? ⟨w.heap.size, 0, none⟩ = some (.string (c n).code) := fun hg => grow_cell hg (by simpa using neBm) gb
  refine wp_region_noPanic ?_
  refine wp_region_held_drew (S := fun w' => w'.cell? ⟨T, 2, none⟩ = some (.map (some mp)) ∧ w'.cell? ⟨w.heap.size, 0, none⟩ = some (.string (c n).code)) (by kernel_rfl) ?_ (fun hHeld => ?_)
  · exact ⟨g2, gb⟩
  refine wpAnyH_take (i := 0) (oi := { dst := some 41, op := Go.Op.move (Go.Operand.tmp 0), type := 80, pos := "l04_accounts.go:110", after := #[], guard := none }) (v := ?_) rfl (by kernel_rfl) (by kernel_rfl) (by kernel_rfl) (fun _ _ _ h => h) (Or.inl ⟨by rfl, ?_⟩) (by assumption) ?_
  rotate_left
  · (intro w hSw; (try dsimp only at hSw); go_simp <;> try with_reducible rfl)
  try simp only [Act.put, List.setIfInBounds_toArray, List.set_cons_zero, List.set_cons_succ]
  refine wpAnyH_take (i := 1) (oi := { dst := some 42, op := Go.Op.nilCheck (Go.Operand.tmp 41), type := 0, pos := "l04_accounts.go:110", after := #[{ on := 0, ground := Go.Ground.data }], guard := none }) (v := ?_) rfl (by kernel_rfl) (by kernel_rfl) (by kernel_rfl) (fun _ _ _ h => h) (Or.inl ⟨by rfl, ?_⟩) (by assumption) ?_
  rotate_left
  · (intro w hSw; (try dsimp only at hSw); go_simp <;> try with_reducible rfl)
  try simp only [Act.put, List.setIfInBounds_toArray, List.set_cons_zero, List.set_cons_succ]
  refine wpAnyH_take (i := 2) (oi := { dst := some 43, op := Go.Op.fieldAddr 185 (Go.Operand.tmp 42) 2, type := 0, pos := "l04_accounts.go:110", after := #[{ on := 1, ground := Go.Ground.data }], guard := none }) (v := ?_) rfl (by kernel_rfl) (by kernel_rfl) (by kernel_rfl) (fun _ _ _ h => h) (Or.inl ⟨by rfl, ?_⟩) (by assumption) ?_
  rotate_left
  · (intro w hSw; (try dsimp only at hSw); go_simp <;> try with_reducible rfl)
  try simp only [Act.put, List.setIfInBounds_toArray, List.set_cons_zero, List.set_cons_succ]
  refine wpAnyH_take (i := 3) (oi := { dst := some 44, op := Go.Op.load 183 (Go.Operand.tmp 43), type := 183, pos := "l04_accounts.go:110", after := #[{ on := 2, ground := Go.Ground.data }], guard := none }) (v := ?_) rfl (by kernel_rfl) (by kernel_rfl) (by kernel_rfl) (fun _ _ _ h => h) (Or.inl ⟨by rfl, ?_⟩) (by assumption) ?_
  rotate_left
  · (intro w hSw; (try dsimp only at hSw); go_simp <;> try with_reducible rfl)
  try simp only [Act.put, List.setIfInBounds_toArray, List.set_cons_zero, List.set_cons_succ]
  refine wpAnyH_take (i := 4) (oi := { dst := some 45, op := Go.Op.fieldAddr 43 (Go.Operand.tmp 4) 0, type := 0, pos := "l04_accounts.go:110", after := #[], guard := none }) (v := ?_) rfl (by kernel_rfl) (by kernel_rfl) (by kernel_rfl) (fun _ _ _ h => h) (Or.inl ⟨by rfl, ?_⟩) (by assumption) ?_
  rotate_left
  · (intro w hSw; (try dsimp only at hSw); go_simp <;> try with_reducible rfl)
  try simp only [Act.put, List.setIfInBounds_toArray, List.set_cons_zero, List.set_cons_succ]
  refine wpAnyH_take (i := 5) (oi := { dst := some 46, op := Go.Op.load 9 (Go.Operand.tmp 45), type := 9, pos := "l04_accounts.go:110", after := #[{ on := 4, ground := Go.Ground.data }], guard := none }) (v := ?_) rfl (by kernel_rfl) (by kernel_rfl) (by kernel_rfl) (fun _ _ _ h => h) (Or.inl ⟨by rfl, ?_⟩) (by assumption) ?_
  rotate_left
  · (intro w hSw; (try dsimp only at hSw); go_simp <;> try with_reducible rfl)
  try simp only [Act.put, List.setIfInBounds_toArray, List.set_cons_zero, List.set_cons_succ]
  refine wpAnyH_take (i := 6) (oi := { dst := some 47, op := Go.Op.move (Go.Operand.tmp 6), type := 179, pos := "l04_accounts.go:110", after := #[], guard := none }) (v := ?_) rfl (by kernel_rfl) (by kernel_rfl) (by kernel_rfl) (fun _ _ _ h => h) (Or.inl ⟨by rfl, ?_⟩) (by assumption) ?_
  rotate_left
  · (intro w hSw; (try dsimp only at hSw); go_simp <;> try with_reducible rfl)
  try simp only [Act.put, List.setIfInBounds_toArray, List.set_cons_zero, List.set_cons_succ]
  refine wpAnyH_ready (rs := [7]) (by kernel_rfl) (by simp) ?_
  refine AllReadyH.cons (o := { dst := none, op := Go.Op.mapUpdate 183 (Go.Operand.tmp 44) (Go.Operand.tmp 46) (Go.Operand.tmp 47), type := 0, pos := "l04_accounts.go:110", after := #[{ on := 3, ground := Go.Ground.data }, { on := 5, ground := Go.Ground.data }, { on := 6, ground := Go.Ground.data }, { on := 0, ground := Go.Ground.phase }, { on := 1, ground := Go.Ground.phase }, { on := 2, ground := Go.Ground.phase }, { on := 3, ground := Go.Ground.phase }, { on := 4, ground := Go.Ground.phase }, { on := 5, ground := Go.Ground.phase }, { on := 6, ground := Go.Ground.phase }], guard := none }) rfl (fun K hK => ?_) AllReadyH.nil
  rw [if_pos (by rfl)]
  refine oper_update_mt (Operand.tmp 44) (Operand.tmp 46) (Operand.tmp 47) 183 rfl 9 179 key9 Tryd.underlying9 Tryd.underlying183 (.pointer none) mp n (fun x => (codeAt c n x).map (fun i => pn (N (i + 1)))) rfl HM8.out (by unfold maxLen; omega) (c n).code _ rfl rfl (by unfold maxLen; omega) ?_
  intro w9 M9 hgrow9
  refine hK.out _ _ ⟨G9a hgrow9, G9b hgrow9⟩ (fun hHeld => ?_)
  clear hK K
  try simp only [Act.put, List.setIfInBounds_toArray, List.set_cons_zero, List.set_cons_succ]
  refine wpAnyH_done (by kernel_rfl) ?_ _
  refine NoPanic.normal ?_
  have t9 := t8.drewI.grown hgrow9 (by simpa using neTm)
  have u9 := u8.drewI.grown hgrow9 (by simpa using m8.ne2 u8)
  have a9 := a8.drewI.grown hgrow9 (by simpa using m8.ne2 a8)
  have mo8 : some mp ≠ Value.ownBlock (.slice adv ((chL (par c) n s0).length + 1) capv) := m8.ne o8
  have mp8 : some mp ≠ Value.ownBlock (.slice adm (n + 1) capm) := m8.ne p8
  have o9 := (show W8.drew.ownsRow base 179 1 (.slice adv ((chL (par c) n s0).length + 1) capv) ((chL (par c) n s0).length + 1) (ptrs N (chL (par c) n s0) ++ [.pointer (some ⟨w.heap.size + 1, 0, none⟩)]) from o8).kept hgrow9 (.inr (fun e => mo8 e.symm))
  have p9 := (show W8.drew.ownsRow base 179 1 (.slice adm (n + 1) capm) (n + 1) (ptrs N (List.range n) ++ [.pointer (some ⟨w.heap.size + 1, 0, none⟩)]) from p8).kept hgrow9 (.inr (fun e => mp8 e.symm))
  have k9 : ∀ x, x < w.heap.size → some x ≠ (S s0).ownBlock → x ≠ N s0 → some x ≠ Value.ownBlock (.slice adn n capn) → x ≠ T → x ≠ mp → w9.heap[x]? = w.heap[x]? := fun x hx h1 h2 h3 h4 h5 => (hgrow9.block x (by show x < W8.heap.size; omega) (by simpa using h5)).trans (k8 x hx h1 h2 h3 h4)
  have Y9 : Hid (Below base w w9) := y8.drew.grown hgrow9 (by show base ≤ W8.heap.size; omega) (fun g hg => by cases hg; exact H0.out.low.2.1)
  have z9 : w.heap.size + 3 ≤ w9.heap.size := Nat.le_trans z8 hgrow9.size
  have c90 : w9.cell? ⟨T, 0, none⟩ = some (pn (N n)) := (t9.cell 0).trans rfl
  have f90 : w9.frozen? ⟨T, 0, none⟩ = false := t9.fr 0
  have T9 : Hid (CB w9 T #[pn (N n), (.slice adm (n + 1) capm), .map (some mp)] 185) := t9
  have U9 : Hid (CB w9 (N s0) ((nodeCs c N S s0).setIfInBounds 6 (.slice adv ((chL (par c) n s0).length + 1) capv)) 182) := u9
  have A9 : Hid (CB w9 (w.heap.size + 1) #[.string (c n).code, .int .i64 (c n).places, .int .i64 (c n).step, .int .i64 (n : Int), .int .i64 d, .pointer (some ⟨N s0, 0, none⟩), .slice none 0 0] 182) := a9
  have O9 : Hid (w9.ownsRow base 179 1 (.slice adv ((chL (par c) n s0).length + 1) capv) ((chL (par c) n s0).length + 1) (ptrs N (chL (par c) n s0) ++ [.pointer (some ⟨w.heap.size + 1, 0, none⟩)])) := o9
  have P9 : Hid (w9.ownsRow base 179 1 (.slice adm (n + 1) capm) (n + 1) (ptrs N (List.range n) ++ [.pointer (some ⟨w.heap.size + 1, 0, none⟩)])) := p9
  have K9 : Hid (∀ x, x < w.heap.size → some x ≠ (S s0).ownBlock → x ≠ N s0 → some x ≠ Value.ownBlock (.slice adn n capn) → x ≠ T → x ≠ mp → w9.heap[x]? = w.heap[x]?) := k9
  have N9 : Hid (MT Tryd.prog 9 (.pointer none) w9 mp (n + 1) (fun y => if y = (c n).code then some (.pointer (some ⟨w.heap.size + 1, 0, none⟩)) else (fun x => (codeAt c n x).map (fun i => pn (N (i + 1)))) y)) := M9
  clear t9 u9 a9 o9 p9 k9 M9 hgrow9 t8 u8 a8 b8 m8 o8 p8 k8 g2 gb G9a G9b hHeld
  go_wp2
  go_end0
  have hNT : ∀ s, s ≤ n → N s ≠ T := fun s q => (H0.out.node s q).ne2 H0.out.top (by decide)
  have hNm : ∀ s, s ≤ n → N s ≠ mp := fun s q => H0.out.map.ne2 (H0.out.node s q)
  have hTo := T9.out.ne O9.out (by decide)
  have hTp := T9.out.ne P9.out (by decide)
  have hpr := H0.out.parts s0 hs
  refine ⟨rfl, ⟨_, _, (.slice adm (n + 1) capm), TR.hang (A := w.heap.size + 1) (v := (.slice adv ((chL (par c) n s0).length + 1) capv)) (ns' := (.slice adm (n + 1) capm)) H0.out hs0 (by omega) hs (by omega) (by omega) (T9.out.set 0 (.pointer (some ⟨w.heap.size + 1, 0, none⟩))) ?_ (U9.out.other (.pointer (some ⟨w.heap.size + 1, 0, none⟩)) hTN) (fun s q hne => ?_) (row_set O9.out hTo (.pointer (some ⟨w.heap.size + 1, 0, none⟩))) ?_ (fun s q hne g hg => ?_) (row_set P9.out hTp (.pointer (some ⟨w.heap.size + 1, 0, none⟩))) ?_ ?_ (N9.out.set (M7.out.ne2 T7.out) (.pointer (some ⟨w.heap.size + 1, 0, none⟩))) HL.out⟩, ?_, ?_⟩
  · rw [HD.out]; exact A9.out.other (.pointer (some ⟨w.heap.size + 1, 0, none⟩)) (by omega)
  · rw [heap_set (hNT s q)]
    refine K9.out _ (H0.out.node s q).lt ((H0.out.node s q).ne hpr (by decide)) (fun e => hne (H0.out.inj s s0 q hs e)) ((H0.out.node s q).ne H0.out.nodes (by decide)) (hNT s q) (hNm s q)
  · rcases V4.out with e | e
    · exact .inl e
    · refine .inr ⟨_, e, ?_⟩
      have := HZ.out
      simp
      omega
  · have hpg := H0.out.parts s q
    have hlt := (hpg.lt g hg).2
    have hgT : g ≠ T := fun e => H0.out.top.ne hpg (by decide) (by rw [hg, e])
    have hgN : g ≠ N s0 := fun e => (H0.out.node s0 hs).ne hpg (by decide) (by rw [hg, e])
    have hgm : g ≠ mp := fun e => H0.out.map.ne hpg (by rw [hg, e])
    have hgS : some g ≠ (S s0).ownBlock := fun e => (H0.out.apart s s0 q hs hne).elim (fun r => by rw [r] at hg; cases hg) (fun r => r (hg.trans e))
    have hgn : some g ≠ Value.ownBlock (.slice adn n capn) := fun e => (H0.out.far s q).elim (fun r => by rw [r] at hg; cases hg) (fun r => r (hg.trans e))
    rw [heap_set hgT]
    exact K9.out g hlt hgS hgN hgn hgT hgm
  · rcases L7.out with e | ⟨g, e, hg, _⟩
    · exact .inl e
    · exact .inr ⟨g, e, hg⟩
  · rcases L7.out with e | ⟨g, e, hg, hv⟩
    · rw [e]; exact VN.out
    · rw [e]
      cases e2 : Value.ownBlock (.slice adv ((chL (par c) n s0).length + 1) capv) with
      | none => exact .inl rfl
      | some g2 => exact .inr (fun e3 => by have := hv g2 e2; cases e3; omega)
  · exact Y9.out.setCell H0.out.low.1 _
  · simp; omega

end Go.Proofs.YtapailihjlfkgaaDoor
