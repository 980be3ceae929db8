/- One place more is written down: the closure of Under, in the program. -/
import Derived.Test.YtkplhiahfebmlaaDoorTi
namespace Go.Proofs.YtkplhiahfebmlaaDoor
open Go.ChangeShapes Go.WideShapes Go.ChangeAt Go.RowKit
set_option linter.unusedVariables false
set_option linter.unusedSimpArgs false

/-- An append at one operation of a region that draws. -/
theorem oper_append {P : Program} {w : World} {o : Oper} {a : Act} {K : Act → World → Prop} {Q : Exit → Act → World → Prop} (s x : Operand) (t : TypeId)
    (ho : o.op = .call { callee := .builtin .append, args := #[s, x], argTypes := #[t, t] })
    (base : Nat) (e : TypeId) (i : TypeInfo) (z : Value) (size bytes : Nat) (ht : P.underlying t = some (.slice e)) (hi : P.info? e = some i) (hz : i.zero = some z)
    (hsize : i.size = size) (hby : i.bytes = bytes) (hzs : z.cells.size = size) (hsz : 0 < size)
    (v : Value) (n : Nat) (xs : List Value) (hs : a.eval s = v) (hown : w.ownsRow base e size v n xs)
    (ad : Addr) (m c : Nat) (news : List Value) (hx : a.eval x = .slice (some ad) m c) (hl : news.length = m * size) (hnews : ∀ j u, news[j]? = some u → w.cell? (ad.add j) = some u) (h1 : ∀ u ∈ news, u.oneCell' = true)
    (h63 : n + m ≤ maxLen) (hbytes : (n + m) * bytes ≤ 140737488355328) (hbase : base ≤ w.heap.size)
    (h : ∀ v' w', w'.ownsRow base e size v' (n + m) (xs ++ news) → w.grownBy w' v.ownBlock → (v'.ownBlock = v.ownBlock ∨ v'.ownBlock = some w.heap.size) → K (a.put o.dst v') w') :
    Oper.wp P o a w K Q := by
  obtain ⟨v', w', hr, h2, h3, h4, h5⟩ := run_append_own_at (P := P) w base t o.type e i z size bytes ht hi hz hsize hby hzs hsz v n xs hown ad m c news hl hnews h1 h63 hbytes hbase
  unfold Oper.wp execOp
  simp only [ho, resolve, invoke, builtin, Sem.run_bind, Sem.run_pure, Result.andThen_ok, List.map_toArray, List.map_cons, List.map_nil, hs, hx, hr]
  exact h v' w' h2 h3 h5

set_option maxRecDepth 100000 in
theorem info3 : ∃ i, Tryd.prog.info? 3 = some i ∧ i.zero = some (.int .i64 0) ∧ i.size = 1 ∧ i.bytes = 8 := by
  obtain ⟨i0, hi⟩ : ∃ i, Tryd.prog.info? 3 = some i := ⟨_, rfl⟩
  have hz0 : i0.zero = some (.int .i64 0) := by
    have : (Tryd.prog.info? 3).bind (·.zero) = some (.int .i64 0) := by kernel_rfl
    rw [hi] at this; exact this
  have hz1 : i0.size = 1 := by
    have : (Tryd.prog.info? 3).map (·.size) = some 1 := by kernel_rfl
    rw [hi] at this; simpa using this
  have hz2 : i0.bytes = 8 := by
    have : (Tryd.prog.info? 3).map (·.bytes) = some 8 := by kernel_rfl
    rw [hi] at this; simpa using this
  exact ⟨i0, hi, hz0, hz1, hz2⟩

def PutP (base b m : Nat) (xs : List Value) (x : Int) (v : Value) (w : World) (e : Ending) (w' : World) : Prop :=
  e = .returned (.tuple #[]) ∧ (∃ v', CB w' b #[v'] 25 ∧ w'.ownsRow base 3 1 v' (m + 1) (xs ++ [.int .i64 x])) ∧ (∀ y, y < w.heap.size → y ≠ b → some y ≠ v.ownBlock → w'.heap[y]? = w.heap[y]?) ∧ Below base w w'

set_option maxRecDepth 20000 in
set_option maxHeartbeats 2000000 in
theorem put_any (base b nb m : Nat) (x : Int) (v : Value) (xs : List Value) (w : World) (hb : CB w b #[v] 25) (hbb : base ≤ b) (hv : w.ownsRow base 3 1 v m xs) (hm : m ≤ 120) (hn : w.cell? ⟨nb, 3, none⟩ = some (.int .i64 x)) (hnb : nb ≠ b ∧ some nb ≠ v.ownBlock) :
    Calls Tryd.prog 48 #[.pointer (some ⟨nb, 0, none⟩), .pointer (some ⟨b, 0, none⟩)] w (PutP base b m xs x v w) := by
  have hbne : some b ≠ v.ownBlock := hb.ne hv (by decide)
  have hnlt := World.block_lt_of_cell? w ⟨nb, 3, none⟩ hn
  have hblt := hb.lt
  obtain ⟨adv, capv, rfl⟩ := row_form hv
  obtain ⟨i0, hi, hz0, hz1, hz2⟩ := info3
  have b0 : w.cell? ⟨b, 0, none⟩ = some (.slice adv m capv) := (hb.cell 0).trans rfl
  have n3 := hn
  have hb2 := hb.alloc (.cells #[.int .i64 x] 3 (0, 0))
  have y0 : (w.alloc (.cells #[.int .i64 x] 3 (0, 0))).drew.cell? ⟨b, 0, none⟩ = some (.slice adv m capv) := (hb2.cell 0).trans rfl
  have y1 : (w.alloc (.cells #[.int .i64 x] 3 (0, 0))).drew.cell? ⟨nb, 3, none⟩ = some (.int .i64 x) := (World.cell?_of_block (w := w) (heap_alloc_old w _ hnlt)).trans hn
  have y0' : (w.alloc (.cells #[.int .i64 x] 3 (0, 0))).cell? ⟨b, 0, none⟩ = some (.slice adv m capv) := (hb2.cell 0).trans rfl
  have HB2 : Hid (CB (w.alloc (.cells #[.int .i64 x] 3 (0, 0))).drew b #[.slice adv m capv] 25) := hb2
  have HO2 : Hid ((w.alloc (.cells #[.int .i64 x] 3 (0, 0))).drew.ownsRow base 3 1 (.slice adv m capv) m xs) := hv.alloc _
  have HN1 : Hid (∀ j u, [Value.int .i64 x][j]? = some u → (w.alloc (.cells #[.int .i64 x] 3 (0, 0))).drew.cell? ((⟨w.heap.size, 0, none⟩ : Addr).add j) = some u) := cell_one_at (w := w) rfl
  have hbs : base ≤ (w.alloc (.cells #[.int .i64 x] 3 (0, 0))).drew.heap.size := by show base ≤ (w.alloc _).heap.size; simp; omega
  have neb : Hid (some b ≠ Value.ownBlock (.slice adv m capv)) := hbne
  have nen : Hid (some nb ≠ Value.ownBlock (.slice adv m capv)) := hnb.2
  have HV : Hid (w.ownsRow base 3 1 (.slice adv m capv) m xs) := hv
  clear hv hbne hb hb2 hn
  go_enter Tryd.func48, Tryd.ntmps48
  go_wp2
  refine wp_region_noPanic ?_
  refine wp_region_held_drew (S := fun w' => w'.cell? ⟨nb, 3, none⟩ = some (.int .i64 x)) (by kernel_rfl) ?_ (fun hHeld => ?_)
  · exact n3
  refine wpAnyH_take (i := 1) (oi := { dst := some 4, op := Go.Op.move (Go.Operand.tmp 0), type := 60, pos := "l04_accounts.go:164", after := #[], guard := none }) (v := ?_) rfl (by kernel_rfl) (by kernel_rfl) (by kernel_rfl) (fun _ _ _ h => h) (Or.inl ⟨by rfl, ?_⟩) (by assumption) ?_
  rotate_left
  · (intro w hSw; (try dsimp only at hSw); go_simp <;> try with_reducible rfl)
  try simp only [Act.put, List.setIfInBounds_toArray, List.set_cons_zero, List.set_cons_succ]
  refine wpAnyH_take (i := 2) (oi := { dst := some 5, op := Go.Op.nilCheck (Go.Operand.tmp 4), type := 0, pos := "l04_accounts.go:164", after := #[{ on := 1, ground := Go.Ground.data }], guard := none }) (v := ?_) rfl (by kernel_rfl) (by kernel_rfl) (by kernel_rfl) (fun _ _ _ h => h) (Or.inl ⟨by rfl, ?_⟩) (by assumption) ?_
  rotate_left
  · (intro w hSw; (try dsimp only at hSw); go_simp <;> try with_reducible rfl)
  try simp only [Act.put, List.setIfInBounds_toArray, List.set_cons_zero, List.set_cons_succ]
  refine wpAnyH_take (i := 3) (oi := { dst := some 6, op := Go.Op.fieldAddr 68 (Go.Operand.tmp 5) 1, type := 0, pos := "l04_accounts.go:164", after := #[{ on := 2, ground := Go.Ground.data }], guard := none }) (v := ?_) rfl (by kernel_rfl) (by kernel_rfl) (by kernel_rfl) (fun _ _ _ h => h) (Or.inl ⟨by rfl, ?_⟩) (by assumption) ?_
  rotate_left
  · (intro w hSw; (try dsimp only at hSw); go_simp <;> try with_reducible rfl)
  try simp only [Act.put, List.setIfInBounds_toArray, List.set_cons_zero, List.set_cons_succ]
  refine wpAnyH_take (i := 4) (oi := { dst := some 7, op := Go.Op.load 3 (Go.Operand.tmp 6), type := 3, pos := "l04_accounts.go:164", after := #[{ on := 3, ground := Go.Ground.data }], guard := none }) (v := ?_) rfl (by kernel_rfl) (by kernel_rfl) (by kernel_rfl) (fun _ _ _ h => h) (Or.inl ⟨by rfl, ?_⟩) (by assumption) ?_
  rotate_left
  · (intro w hSw; (try dsimp only at hSw); go_simp <;> try with_reducible rfl)
  try simp only [Act.put, List.setIfInBounds_toArray, List.set_cons_zero, List.set_cons_succ]
  refine wpAnyH_ready (rs := [0, 5]) (by kernel_rfl) (by simp) ?_
  refine AllReadyH.cons (o := { dst := some 3, op := Go.Op.load 25 (Go.Operand.tmp 1), type := 25, pos := "l04_accounts.go:164", after := #[], guard := none }) rfl (fun K hK => ?_) (AllReadyH.cons (o := { dst := some 8, op := Go.Op.buildSlice 25 1 #[(0, Go.Operand.tmp 7)], type := 25, pos := "l04_accounts.go:164", after := #[{ on := 4, ground := Go.Ground.data }], guard := none }) rfl (fun K hK => ?_) AllReadyH.nil)
  · go_simp
    refine hK.out _ _ (by exact hHeld) (fun hHeld => ?_)
    clear hK K
    try simp only [Act.put, List.setIfInBounds_toArray, List.set_cons_zero, List.set_cons_succ]
    refine wpAnyH_ready (rs := [5]) (by kernel_rfl) (by simp) ?_
    refine AllReadyH.cons (o := { dst := some 8, op := Go.Op.buildSlice 25 1 #[(0, Go.Operand.tmp 7)], type := 25, pos := "l04_accounts.go:164", after := #[{ on := 4, ground := Go.Ground.data }], guard := none }) rfl (fun K hK => ?_) AllReadyH.nil
    go_simp
    refine hK.out _ _ y1 (fun hHeld => ?_)
    clear hK K
    try simp only [Act.put, List.setIfInBounds_toArray, List.set_cons_zero, List.set_cons_succ]
    refine wpAnyH_ready (rs := [6]) (by kernel_rfl) (by simp) ?_
    refine AllReadyH.cons (o := { dst := some 9, op := Go.Op.call { callee := Go.Callee.builtin Go.Builtin.append, args := #[Go.Operand.tmp 3, Go.Operand.tmp 8], argTypes := #[25, 25] }, type := 25, pos := "l04_accounts.go:164", after := #[{ on := 0, ground := Go.Ground.data }, { on := 5, ground := Go.Ground.data }], guard := none }) rfl (fun K hK => ?_) AllReadyH.nil
    rw [if_pos (by rfl)]
    refine oper_append (Operand.tmp 3) (Operand.tmp 8) 25 rfl base 3 i0 (.int .i64 0) 1 8 Tryd.underlying25 hi hz0 hz1 hz2 rfl (by decide) (.slice adv m capv) m xs rfl HO2.out ⟨w.heap.size, 0, none⟩ 1 1 [.int .i64 x] rfl rfl HN1.out (fun u hu => by simp at hu; subst hu; rfl) (by unfold maxLen; omega) (by omega) hbs ?_
    intro v' w4 hown4 hgrow4 hloc4
    obtain ⟨adn, capn, rfl⟩ := row_form hown4
    have q1 : w4.cell? ⟨nb, 3, none⟩ = some (.int .i64 x) := grow_cell hgrow4 nen.out y1
    have B4 := HB2.out.grown hgrow4 neb.out
    have q0 : w4.cell? ⟨b, 0, none⟩ = some (.slice adv m capv) := (B4.cell 0).trans rfl
    have f4 := B4.fr 0
    refine hK.out _ _ q1 (fun hHeld => ?_)
    clear hK K
    try simp only [Act.put, List.setIfInBounds_toArray, List.set_cons_zero, List.set_cons_succ]
    refine wpAnyH_ready (rs := [7]) (by kernel_rfl) (by simp) ?_
    refine AllReadyH.cons (o := { dst := none, op := Go.Op.store 25 (Go.Operand.tmp 1) (Go.Operand.tmp 9), type := 0, pos := "l04_accounts.go:164", after := #[{ on := 6, ground := Go.Ground.data }, { on := 6, ground := Go.Ground.chain }, { on := 0, ground := Go.Ground.phase }, { on := 1, ground := Go.Ground.phase }, { on := 2, ground := Go.Ground.phase }, { on := 3, ground := Go.Ground.phase }, { on := 4, ground := Go.Ground.phase }, { on := 5, ground := Go.Ground.phase }, { on := 6, ground := Go.Ground.phase }], guard := none }) rfl (fun K hK => ?_) AllReadyH.nil
    go_simp
    refine hK.out _ _ ?_ (fun hHeld => ?_)
    · exact (World.cell?_of_block (heap_set hnb.1)).trans q1
    clear hK K
    try simp only [Act.put, List.setIfInBounds_toArray, List.set_cons_zero, List.set_cons_succ]
    refine wpAnyH_done (by kernel_rfl) ?_ _
    refine NoPanic.normal ?_
    go_end0
    exact ⟨rfl, ⟨_, B4.set 0 _, row_set hown4 (B4.ne hown4 (by decide)) _⟩, fun y h1 h2 h3 => (heap_set h2).trans ((hgrow4.block y (by show y < (w.alloc _).heap.size; simp; omega) h3).trans (heap_alloc_old w _ h1)), ((((Below.refl _ _).alloc (by omega) _).drew).grown hgrow4 hbs (fun g hg => (HV.out.lt g hg).1)).setCell hbb _⟩
  · go_simp
    refine hK.out _ _ y1 (fun hHeld => ?_)
    clear hK K
    try simp only [Act.put, List.setIfInBounds_toArray, List.set_cons_zero, List.set_cons_succ]
    refine wpAnyH_ready (rs := [0]) (by kernel_rfl) (by simp) ?_
    refine AllReadyH.cons (o := { dst := some 3, op := Go.Op.load 25 (Go.Operand.tmp 1), type := 25, pos := "l04_accounts.go:164", after := #[], guard := none }) rfl (fun K hK => ?_) AllReadyH.nil
    go_simp
    refine hK.out _ _ (by exact hHeld) (fun hHeld => ?_)
    clear hK K
    try simp only [Act.put, List.setIfInBounds_toArray, List.set_cons_zero, List.set_cons_succ]
    refine wpAnyH_ready (rs := [6]) (by kernel_rfl) (by simp) ?_
    refine AllReadyH.cons (o := { dst := some 9, op := Go.Op.call { callee := Go.Callee.builtin Go.Builtin.append, args := #[Go.Operand.tmp 3, Go.Operand.tmp 8], argTypes := #[25, 25] }, type := 25, pos := "l04_accounts.go:164", after := #[{ on := 0, ground := Go.Ground.data }, { on := 5, ground := Go.Ground.data }], guard := none }) rfl (fun K hK => ?_) AllReadyH.nil
    rw [if_pos (by rfl)]
    refine oper_append (Operand.tmp 3) (Operand.tmp 8) 25 rfl base 3 i0 (.int .i64 0) 1 8 Tryd.underlying25 hi hz0 hz1 hz2 rfl (by decide) (.slice adv m capv) m xs rfl HO2.out ⟨w.heap.size, 0, none⟩ 1 1 [.int .i64 x] rfl rfl HN1.out (fun u hu => by simp at hu; subst hu; rfl) (by unfold maxLen; omega) (by omega) hbs ?_
    intro v' w4 hown4 hgrow4 hloc4
    obtain ⟨adn, capn, rfl⟩ := row_form hown4
    have q1 : w4.cell? ⟨nb, 3, none⟩ = some (.int .i64 x) := grow_cell hgrow4 nen.out y1
    have B4 := HB2.out.grown hgrow4 neb.out
    have q0 : w4.cell? ⟨b, 0, none⟩ = some (.slice adv m capv) := (B4.cell 0).trans rfl
    have f4 := B4.fr 0
    refine hK.out _ _ q1 (fun hHeld => ?_)
    clear hK K
    try simp only [Act.put, List.setIfInBounds_toArray, List.set_cons_zero, List.set_cons_succ]
    refine wpAnyH_ready (rs := [7]) (by kernel_rfl) (by simp) ?_
    refine AllReadyH.cons (o := { dst := none, op := Go.Op.store 25 (Go.Operand.tmp 1) (Go.Operand.tmp 9), type := 0, pos := "l04_accounts.go:164", after := #[{ on := 6, ground := Go.Ground.data }, { on := 6, ground := Go.Ground.chain }, { on := 0, ground := Go.Ground.phase }, { on := 1, ground := Go.Ground.phase }, { on := 2, ground := Go.Ground.phase }, { on := 3, ground := Go.Ground.phase }, { on := 4, ground := Go.Ground.phase }, { on := 5, ground := Go.Ground.phase }, { on := 6, ground := Go.Ground.phase }], guard := none }) rfl (fun K hK => ?_) AllReadyH.nil
    go_simp
    refine hK.out _ _ ?_ (fun hHeld => ?_)
    · exact (World.cell?_of_block (heap_set hnb.1)).trans q1
    clear hK K
    try simp only [Act.put, List.setIfInBounds_toArray, List.set_cons_zero, List.set_cons_succ]
    refine wpAnyH_done (by kernel_rfl) ?_ _
    refine NoPanic.normal ?_
    go_end0
    exact ⟨rfl, ⟨_, B4.set 0 _, row_set hown4 (B4.ne hown4 (by decide)) _⟩, fun y h1 h2 h3 => (heap_set h2).trans ((hgrow4.block y (by show y < (w.alloc _).heap.size; simp; omega) h3).trans (heap_alloc_old w _ h1)), ((((Below.refl _ _).alloc (by omega) _).drew).grown hgrow4 hbs (fun g hg => (HV.out.lt g hg).1)).setCell hbb _⟩

end Go.Proofs.YtkplhiahfebmlaaDoor
