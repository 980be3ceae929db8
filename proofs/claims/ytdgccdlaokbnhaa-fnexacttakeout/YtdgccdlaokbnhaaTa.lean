/- What comes in: the methods of the program. -/
import Derived.Test.YtdgccdlaokbnhaaWa
import Derived.Test.YtdgccdlaokbnhaaLo
import Derived.Deep.RegionHeld3
namespace Go.Proofs.Ytdgccdlaokbnhaa
open Go Go.ChangeShapes Go.WideShapes Go.ChangeAt Go.RowKit
set_option linter.unusedVariables false
set_option linter.unusedSimpArgs false

theorem oper_append {P : Program} {w : World} {o : Oper} {a : Act} {K : Act → World → Prop} {Q : Exit → Act → World → Prop} (s x : Operand) (t : TypeId)
    (ho : o.op = .call { callee := .builtin .append, args := #[s, x], argTypes := #[t, t] })
    (base : Nat) (e : TypeId) (i : TypeInfo) (z : Value) (size bytes : Nat) (ht : P.underlying t = some (.slice e)) (hi : P.info? e = some i) (hz : i.zero = some z)
    (hsize : i.size = size) (hby : i.bytes = bytes) (hzs : z.cells.size = size) (hsz : 0 < size)
    (v : Value) (n : Nat) (xs : List Value) (hs : a.eval s = v) (hown : w.ownsRow base e size v n xs)
    (ad : Addr) (m c : Nat) (news : List Value) (hx : a.eval x = .slice (some ad) m c) (hl : news.length = m * size) (hnews : ∀ j u, news[j]? = some u → w.cell? (ad.add j) = some u) (h1 : ∀ u ∈ news, u.oneCell' = true)
    (h63 : n + m ≤ maxLen) (hbytes : (n + m) * bytes ≤ 140737488355328) (hbase : base ≤ w.heap.size)
    (h : ∀ v' w', w'.ownsRow base e size v' (n + m) (xs ++ news) → w.grownBy w' v.ownBlock → (v'.ownBlock = v.ownBlock ∨ v'.ownBlock = some w.heap.size) → K (a.put o.dst v') w') :
    Oper.wp P o a w K Q := by
  obtain ⟨v', w', hr, h2, h3, h4, h5⟩ := run_append_own_at (P := P) w base t o.type e i z size bytes ht hi hz hsize hby hzs hsz v n xs hown ad m c news hl hnews h1 h63 hbytes hbase
  unfold Oper.wp execOp
  simp only [ho, resolve, invoke, builtin, Sem.run_bind, Sem.run_pure, Result.andThen_ok, List.map_toArray, List.map_cons, List.map_nil, hs, hx, hr]
  exact h v' w' h2 h3 h5


theorem keep4 {w : World} {b g : Nat} {v0 v1 v2 v3 : Value} (h : g ≠ b) : ((((w.setCell ⟨b, 0, none⟩ v0).setCell ⟨b, 1, none⟩ v1).setCell ⟨b, 2, none⟩ v2).setCell ⟨b, 3, none⟩ v3).heap[g]? = w.heap[g]? := (hs_set h).trans ((hs_set h).trans ((hs_set h).trans (hs_set h)))
def putL (c : Nat → LA2) (n : Nat) (x : LA2) (j : Nat) : LA2 := if j = n then x else c j
theorem rowL_congr {c d : Nat → LA2} : ∀ {n : Nat}, (∀ j, j < n → c j = d j) → rowLA2 c n = rowLA2 d n
  | 0, _ => rfl
  | n + 1, h => by simp only [rowLA2]; rw [rowL_congr (fun j hj => h j (by omega)), h n (by omega)]
theorem row_put (c : Nat → LA2) (n : Nat) (x : LA2) : rowLA2 (putL c n x) (n + 1) = rowLA2 c n ++ [.int .i64 x.qty, .int .i64 x.cost] := by
  simp only [rowLA2]
  rw [rowL_congr (c := putL c n x) (d := c) (fun j hj => by unfold putL; rw [if_neg (by omega)])]
  simp [putL]
theorem own_lower {w : World} {base b2 : Nat} {e : TypeId} {size : Nat} {v : Value} {n : Nat} {xs : List Value} (h : w.ownsRow base e size v n xs) (hb : b2 ≤ base) : w.ownsRow b2 e size v n xs := by
  refine ⟨h.1, ?_⟩
  rcases h.2 with hn | ⟨g, cap, cur, e, hb', rest⟩
  · exact .inl hn
  · exact .inr ⟨g, cap, cur, e, Nat.le_trans hb hb', rest⟩
theorem csrc {w : World} {b : Nat} {l : List Value} {t : TypeId} (h : CB w b l.toArray t) : ∀ j u, l[j]? = some u → w.cell? ((⟨b, 0, none⟩ : Addr).add j) = some u := by
  intro j u hj
  have e : (⟨b, 0, none⟩ : Addr).add j = ⟨b, j, none⟩ := by simp only [Addr.add]; by_cases q : j = 0 <;> simp [q]
  rw [e, h.cell]; simpa using hj
/-- What a method that takes in answers. -/
def MeR (m p : Int) (N : Nat) (C : Nat → LA2) (O : Int) (w : World) (e : Ending) (w' : World) : Prop :=
  ∃ ad cap, e = .returned (.agg #[.int .i64 m, .int .i64 p, .slice ad N cap, .int .i64 O]) ∧ OwnLA2 w' w.heap.size ad N C ∧ Below w.heap.size w w'
/-- The boxes of such a method. -/
structure TB (w : World) (m p : Int) (sv : Value) (off q k : Int) (V : World) : Prop where
  bl : Below w.heap.size w V
  bx : CB V (w.heap.size + 1) #[.int .i64 m, .int .i64 p, sv, .int .i64 off] 26
  ca : CB V (w.heap.size + 1 + 1) #[.int .i64 q, .int .i64 k] 40
  rs : CB V (w.heap.size + 1 + 1 + 1) #[.int .i64 0, .int .i64 0, .slice none 0 0, .int .i64 0] 26
section
variable {w V V' : World} {m p off q k : Int} {sv : Value}
theorem TB.below (h : TB w m p sv off q k V) (b : Below V.heap.size V V') : TB w m p sv off q k V' := ⟨bel_on h.bl b, h.bx.below b h.bx.lt, h.ca.below b h.ca.lt, h.rs.below b h.rs.lt⟩
theorem TB.alloc (h : TB w m p sv off q k V) (o : Obj) : TB w m p sv off q k (V.alloc o) := h.below ((Below.refl _ _).alloc (Nat.le_refl _) o)
theorem TB.drew (h : TB w m p sv off q k V) : TB w m p sv off q k V.drew := h.below (Below.refl _ _).drew
theorem TB.cas (h : TB w m p sv off q k V) : V.cell? ⟨w.heap.size + 1 + 1, 0, none⟩ = some (.int .i64 q) ∧ V.cell? ⟨w.heap.size + 1 + 1, 1, none⟩ = some (.int .i64 k) := ⟨h.ca.cell 0, h.ca.cell 1⟩
theorem TB.size (h : TB w m p sv off q k V) : w.heap.size + 4 ≤ V.heap.size := h.rs.lt
theorem TB.put2 (h : TB w m p sv off q k V) (u : Value) : TB w m p u off q k (V.setCell ⟨w.heap.size + 1, 2, none⟩ u) := ⟨h.bl.setCell (by simp <;> omega) _, by simpa using h.bx.set 2 u, h.ca.other _ (by omega), h.rs.other _ (by omega)⟩
theorem TB.put3 (h : TB w m p sv off q k V) (u : Int) : TB w m p sv u q k (V.setCell ⟨w.heap.size + 1, 3, none⟩ (.int .i64 u)) := ⟨h.bl.setCell (by simp <;> omega) _, by simpa using h.bx.set 3 (.int .i64 u), h.ca.other _ (by omega), h.rs.other _ (by omega)⟩
theorem TB.grown (h : TB w m p sv off q k V) {row : Option Nat} (hg : V.grownBy V' row) (hr : ∀ r, row = some r → w.heap.size + 4 ≤ r) : TB w m p sv off q k V' := by
  have ne : ∀ x, x < w.heap.size + 4 → V'.heap[x]? = V.heap[x]? := fun x hx => hg.block x (Nat.lt_of_lt_of_le hx h.size) (fun e => by have := hr x e.symm; omega)
  exact ⟨egrown h.bl (Nat.le_refl _) hg (fun r e => by have := hr r e; omega), h.bx.keep (ne _ (by omega)), h.ca.keep (ne _ (by omega)), h.rs.keep (ne _ (by omega))⟩
theorem TB.start (w : World) (o : Obj) (m p : Int) (sv : Value) (off q k : Int) : TB w m p sv off q k ((((w.alloc o).alloc (.cells #[.int .i64 m, .int .i64 p, sv, .int .i64 off] 26 (0, 0))).alloc (.cells #[.int .i64 q, .int .i64 k] 40 (0, 0))).alloc (.cells #[.int .i64 0, .int .i64 0, .slice none 0 0, .int .i64 0] 26 (0, 0))) :=
  ⟨((((Below.refl _ _).alloc (Nat.le_refl _) _).alloc (by simp) _).alloc (by simp; omega) _).alloc (by simp; omega) _, ((CB.newAt (by simp) _ _).alloc _).alloc _, (CB.newAt (by simp) _ _).alloc _, CB.newAt (by simp) _ _⟩
end

theorem row_bel {w w' : World} {base : Nat} {e : TypeId} {size : Nat} {v : Value} {n : Nat} {xs : List Value} (h : w.ownsRow base e size v n xs) (b : Below w.heap.size w w') : w'.ownsRow base e size v n xs := earow h (fun g hg => b.block g (h.lt g hg).2)
set_option maxRecDepth 20000 in
set_option maxHeartbeats 8000000 in
theorem takeInL_any (m p : Int) (a : Addr) (n cap : Nat) (off q k : Int) (c : Nat → LA2) (w : World) (hn : n ≤ 300) (hr : LAr w (some a) n c) :
    Calls Try.prog 145 #[.agg #[], .agg #[.int .i64 m, .int .i64 p, .slice (some a) n cap, .int .i64 off], .agg #[.int .i64 q, .int .i64 k]] w (MeR m p (n + 1) (putL c n ⟨q, k⟩) off w) := by
  have HR : Hid (LAr w (some a) n c) := hr
  have hnI : (n : Int) ≤ 1048576 := by omega
  obtain ⟨i4, hi4, hz40, hz41, hz42⟩ := infoLA2
  clear hr
  unfold MeR
  go_enter Try.func145, Try.ntmps145
  go_wp2
  have V0 := TB.start w (.cells #[] 134 (0, 0)) m p (.slice (some a) n cap) off q k
  have R0 : LAr ((((w.alloc (.cells #[] 134 (0, 0))).alloc (.cells #[.int .i64 m, .int .i64 p, .slice (some a) n cap, .int .i64 off] 26 (0, 0))).alloc (.cells #[.int .i64 q, .int .i64 k] 40 (0, 0))).alloc (.cells #[.int .i64 0, .int .i64 0, .slice none 0 0, .int .i64 0] 26 (0, 0))) (some a) n c := (((HR.out.alloc _).alloc _).alloc _).alloc _
  generalize ((((w.alloc (.cells #[] 134 (0, 0))).alloc (.cells #[.int .i64 m, .int .i64 p, .slice (some a) n cap, .int .i64 off] 26 (0, 0))).alloc (.cells #[.int .i64 q, .int .i64 k] 40 (0, 0))).alloc (.cells #[.int .i64 0, .int .i64 0, .slice none 0 0, .int .i64 0] 26 (0, 0))) = V at V0 R0 ⊢
  have HV := hid V0.drew
  have HVR : Hid (LAr V.drew (some a) n c) := hid (R0.below (Below.refl _ _).drew)
  clear V0 R0
  refine wp_region_noPanic ?_
  refine wp_region_held_drew (S := fun w' => (w'.cell? ⟨w.heap.size + 1 + 1, 0, none⟩ = some (.int .i64 q)) ∧ (w'.cell? ⟨w.heap.size + 1 + 1, 1, none⟩ = some (.int .i64 k))) (by kernel_rfl) (by exact HV.out.cas) (fun hHeld => ?_)
  refine wpAnyH_take (i := 0) (oi := { dst := some 7, op := Go.Op.fieldAddr 26 (Go.Operand.tmp 4) 2, type := 0, pos := "l16_cost.go:100", after := #[], guard := none }) (v := ?_) rfl (by kernel_rfl) (by kernel_rfl) (by kernel_rfl) (fun _ _ _ h => h) (Or.inl ⟨by rfl, ?_⟩) (by assumption) ?_
  rotate_left
  · (intro w hSw; (try dsimp only at hSw); go_simp <;> try with_reducible rfl)
  try simp only [Act.put, List.setIfInBounds_toArray, List.set_cons_zero, List.set_cons_succ]
  refine wpAnyH_take (i := 3) (oi := { dst := some 10, op := Go.Op.load 40 (Go.Operand.tmp 5), type := 40, pos := "l16_cost.go:100", after := #[], guard := none }) (v := ?_) rfl (by kernel_rfl) (by kernel_rfl) (by kernel_rfl) (fun _ _ _ h => h) (Or.inl ⟨by rfl, ?_⟩) (by assumption) ?_
  rotate_left
  · (intro w hSw; (try dsimp only at hSw); go_simp <;> try with_reducible rfl)
  try simp only [Act.put, List.setIfInBounds_toArray, List.set_cons_zero, List.set_cons_succ]
  refine wpAnyH_ready (rs := [1, 4]) (by kernel_rfl) (by simp) ?_
  refine AllReadyH.cons (o := { dst := some 8, op := Go.Op.load 24 (Go.Operand.tmp 7), type := 24, pos := "l16_cost.go:100", after := #[{ on := 0, ground := Go.Ground.data }], guard := none }) rfl (fun K hK => ?_) (AllReadyH.cons (o := { dst := some 11, op := Go.Op.buildSlice 24 1 #[(0, Go.Operand.tmp 10)], type := 24, pos := "l16_cost.go:100", after := #[{ on := 3, ground := Go.Ground.data }], guard := none }) rfl (fun K hK => ?_) (AllReadyH.nil))
  · have hbx : V.drew.cell? ⟨w.heap.size + 1, 2, none⟩ = some (.slice (some a) n cap) := HV.out.bx.cell 2
    go_simp
    refine hK.out _ _ (by exact HV.out.cas) (fun hHeld => ?_)
    clear hK K hbx
    try simp only [Act.put, List.setIfInBounds_toArray, List.set_cons_zero, List.set_cons_succ]
    refine wpAnyH_ready (rs := [2, 4]) (by kernel_rfl) (by simp) ?_
    refine AllReadyH.cons (o := { dst := some 9, op := Go.Op.call { callee := Go.Callee.value (Go.Operand.func 49), args := #[Go.Operand.tmp 8], argTypes := #[24] }, type := 24, pos := "l16_cost.go:100", after := #[{ on := 1, ground := Go.Ground.data }], guard := none }) rfl (fun K hK => ?_) (AllReadyH.cons (o := { dst := some 11, op := Go.Op.buildSlice 24 1 #[(0, Go.Operand.tmp 10)], type := 24, pos := "l16_cost.go:100", after := #[{ on := 3, ground := Go.Ground.data }], guard := none }) rfl (fun K hK => ?_) (AllReadyH.nil))
    · go_simp
      refine (copyLays_some a n cap c _ hnI HVR.out).mono ?_
      rintro e w5 ⟨v5, rfl, o5, b5⟩
      obtain ⟨ad5, cp5, rfl, _, _⟩ := ownLA2_of o5
      have T5 := hid (HV.out.below b5)
      have O5 := hid (own_lower o5 HV.out.size)
      clear b5 o5
      first | refine hK.out _ _ (by exact T5.out.cas) (fun hHeld => ?_) | (go_wp2_with fail; refine hK.out _ _ (by exact T5.out.cas) (fun hHeld => ?_))
      clear hK K
      try simp only [Act.put, List.setIfInBounds_toArray, List.set_cons_zero, List.set_cons_succ]
      refine wpAnyH_ready (rs := [4]) (by kernel_rfl) (by simp) ?_
      refine AllReadyH.cons (o := { dst := some 11, op := Go.Op.buildSlice 24 1 #[(0, Go.Operand.tmp 10)], type := 24, pos := "l16_cost.go:100", after := #[{ on := 3, ground := Go.Ground.data }], guard := none }) rfl (fun K hK => ?_) (AllReadyH.nil)
      go_simp
      have TN := hid (T5.out.alloc (.cells #[.int .i64 q, .int .i64 k] 40 (0, 0)))
      have NN : Hid (CB (w5.alloc (.cells #[.int .i64 q, .int .i64 k] 40 (0, 0))) w5.heap.size #[.int .i64 q, .int .i64 k] 40) := hid (CB.new _ _)
      first | refine hK.out _ _ (by exact TN.out.cas) (fun hHeld => ?_) | (go_wp2_with fail; refine hK.out _ _ (by exact TN.out.cas) (fun hHeld => ?_))
      clear hK K
      try simp only [Act.put, List.setIfInBounds_toArray, List.set_cons_zero, List.set_cons_succ]
      have ON := hid (row_bel O5.out ((Below.refl _ _).alloc (Nat.le_refl _) (.cells #[.int .i64 q, .int .i64 k] 40 (0, 0))))
      refine wpAnyH_ready (rs := [5]) (by kernel_rfl) (by simp) ?_
      refine AllReadyH.cons (o := { dst := some 12, op := Go.Op.call { callee := Go.Callee.builtin Go.Builtin.append, args := #[Go.Operand.tmp 9, Go.Operand.tmp 11], argTypes := #[24, 24] }, type := 24, pos := "l16_cost.go:100", after := #[{ on := 2, ground := Go.Ground.data }, { on := 4, ground := Go.Ground.data }, { on := 2, ground := Go.Ground.chain }], guard := none }) rfl (fun K hK => ?_) (AllReadyH.nil)
      rw [if_pos (by rfl)]
      refine oper_append (Operand.tmp 9) (Operand.tmp 11) 24 rfl (w.heap.size + 4) 40 i4 (.agg #[.int .i64 0, .int .i64 0]) 2 16 Try.underlying24 hi4 hz40 hz41 hz42 rfl (by decide) (.slice ad5 n cp5) n (rowLA2 c n) rfl ON.out ⟨_, 0, none⟩ 1 1 [.int .i64 q, .int .i64 k] rfl rfl (csrc NN.out) (fun u hu => by simp at hu; rcases hu with rfl | rfl <;> rfl) (by unfold maxLen; omega) (by omega) TN.out.size ?_
      intro v9 w9 hown hgr hat
      have hown2 := hown
      rw [← row_put c n ⟨q, k⟩] at hown2
      obtain ⟨ad9, cp9, rfl, _, ow9⟩ := ownLA2_of hown2
      have T9 := hid (TN.out.grown hgr (fun x hx => (ON.out.lt x hx).1))
      have O9 := hid ow9
      have NGE : ∀ g, ad9 = some ⟨g, 0, none⟩ → w.heap.size + 4 ≤ g := fun g hg => (hown.lt g (by rw [hg]; rfl)).1
      have HNG := hid NGE
      clear hown hown2 hgr hat ow9 NGE
      refine hK.out _ _ (by exact T9.out.cas) (fun hHeld => ?_)
      clear hK K
      try simp only [Act.put, List.setIfInBounds_toArray, List.set_cons_zero, List.set_cons_succ]
      refine wpAnyH_take (i := 6) (oi := { dst := some 13, op := Go.Op.fieldAddr 26 (Go.Operand.tmp 4) 2, type := 0, pos := "l16_cost.go:100", after := #[{ on := 0, ground := Go.Ground.phase }, { on := 1, ground := Go.Ground.phase }, { on := 2, ground := Go.Ground.phase }, { on := 3, ground := Go.Ground.phase }, { on := 4, ground := Go.Ground.phase }, { on := 5, ground := Go.Ground.phase }], guard := none }) (v := ?_) rfl (by kernel_rfl) (by kernel_rfl) (by kernel_rfl) (fun _ _ _ h => h) (Or.inl ⟨by rfl, ?_⟩) (by assumption) ?_
      rotate_left
      · (intro w hSw; (try dsimp only at hSw); go_simp <;> try with_reducible rfl)
      try simp only [Act.put, List.setIfInBounds_toArray, List.set_cons_zero, List.set_cons_succ]
      have x2 : w9.cell? ⟨w.heap.size + 1, 2, none⟩ = some (.slice (some a) n cap) := T9.out.bx.cell 2
      have f2 := T9.out.bx.fr 2
      refine wpAnyH_ready (rs := [7]) (by kernel_rfl) (by simp) ?_
      refine AllReadyH.cons (o := { dst := none, op := Go.Op.store 24 (Go.Operand.tmp 13) (Go.Operand.tmp 12), type := 0, pos := "l16_cost.go:100", after := #[{ on := 6, ground := Go.Ground.data }, { on := 5, ground := Go.Ground.data }, { on := 5, ground := Go.Ground.chain }, { on := 0, ground := Go.Ground.phase }, { on := 1, ground := Go.Ground.phase }, { on := 2, ground := Go.Ground.phase }, { on := 3, ground := Go.Ground.phase }, { on := 4, ground := Go.Ground.phase }, { on := 5, ground := Go.Ground.phase }], guard := none }) rfl (fun K hK => ?_) (AllReadyH.nil)
      go_simp
      have TA := hid (T9.out.put2 (.slice ad9 (n + 1) cp9))
      refine hK.out _ _ (by exact TA.out.cas) (fun hHeld => ?_)
      clear hK K x2 f2
      try simp only [Act.put, List.setIfInBounds_toArray, List.set_cons_zero, List.set_cons_succ]
      refine wpAnyH_done (by kernel_rfl) ?_ _
      refine NoPanic.normal ?_
      clear hHeld
      have OA := hid (O9.out.keep (w' := w9.setCell ⟨w.heap.size + 1, 2, none⟩ (.slice ad9 (n + 1) cp9)) (fun g hg => hs_set (by have := HNG.out g hg; omega)))
      generalize w9.setCell ⟨w.heap.size + 1, 2, none⟩ (.slice ad9 (n + 1) cp9) = wA at TA OA ⊢
      have y0 : wA.cell? ⟨w.heap.size + 1, 0, none⟩ = some (.int .i64 m) := TA.out.bx.cell 0
      have y1 : wA.cell? ⟨w.heap.size + 1, 1, none⟩ = some (.int .i64 p) := TA.out.bx.cell 1
      have y2 : wA.cell? ⟨w.heap.size + 1, 2, none⟩ = some (.slice ad9 (n + 1) cp9) := TA.out.bx.cell 2
      have y3 : wA.cell? ⟨w.heap.size + 1, 3, none⟩ = some (.int .i64 (off)) := TA.out.bx.cell 3
      have x0 : wA.cell? ⟨w.heap.size + 1 + 1 + 1, 0, none⟩ = some (.int .i64 0) := TA.out.rs.cell 0
      have x1 : wA.cell? ⟨w.heap.size + 1 + 1 + 1, 1, none⟩ = some (.int .i64 0) := TA.out.rs.cell 1
      have x2 : wA.cell? ⟨w.heap.size + 1 + 1 + 1, 2, none⟩ = some (.slice none 0 0) := TA.out.rs.cell 2
      have x3 : wA.cell? ⟨w.heap.size + 1 + 1 + 1, 3, none⟩ = some (.int .i64 0) := TA.out.rs.cell 3
      have f0 := TA.out.rs.fr 0
      have f1 := TA.out.rs.fr 1
      have f2 := TA.out.rs.fr 2
      have f3 := TA.out.rs.fr 3
      go_wp2
      have ZC : CB ((((wA.setCell ⟨w.heap.size + 1 + 1 + 1, 0, none⟩ (.int .i64 m)).setCell ⟨w.heap.size + 1 + 1 + 1, 1, none⟩ (.int .i64 p)).setCell ⟨w.heap.size + 1 + 1 + 1, 2, none⟩ (.slice ad9 (n + 1) cp9)).setCell ⟨w.heap.size + 1 + 1 + 1, 3, none⟩ (.int .i64 (off))) (w.heap.size + 1 + 1 + 1) #[.int .i64 m, .int .i64 p, .slice ad9 (n + 1) cp9, .int .i64 (off)] 26 := by simpa using ((((TA.out.rs.set 0 (.int .i64 m)).set 1 (.int .i64 p)).set 2 (.slice ad9 (n + 1) cp9)).set 3 (.int .i64 (off)))
      have ZB : Below w.heap.size w ((((wA.setCell ⟨w.heap.size + 1 + 1 + 1, 0, none⟩ (.int .i64 m)).setCell ⟨w.heap.size + 1 + 1 + 1, 1, none⟩ (.int .i64 p)).setCell ⟨w.heap.size + 1 + 1 + 1, 2, none⟩ (.slice ad9 (n + 1) cp9)).setCell ⟨w.heap.size + 1 + 1 + 1, 3, none⟩ (.int .i64 (off))) := ((((TA.out.bl.setCell (by simp <;> omega) _).setCell (by simp <;> omega) _).setCell (by simp <;> omega) _).setCell (by simp <;> omega) _)
      have ZO : OwnLA2 ((((wA.setCell ⟨w.heap.size + 1 + 1 + 1, 0, none⟩ (.int .i64 m)).setCell ⟨w.heap.size + 1 + 1 + 1, 1, none⟩ (.int .i64 p)).setCell ⟨w.heap.size + 1 + 1 + 1, 2, none⟩ (.slice ad9 (n + 1) cp9)).setCell ⟨w.heap.size + 1 + 1 + 1, 3, none⟩ (.int .i64 (off))) w.heap.size ad9 (n + 1) (putL c n ⟨q, k⟩) := (OA.out.keep (fun g hg => by have := HNG.out g hg; exact keep4 (by omega))).mono (by omega)
      generalize ((((wA.setCell ⟨w.heap.size + 1 + 1 + 1, 0, none⟩ (.int .i64 m)).setCell ⟨w.heap.size + 1 + 1 + 1, 1, none⟩ (.int .i64 p)).setCell ⟨w.heap.size + 1 + 1 + 1, 2, none⟩ (.slice ad9 (n + 1) cp9)).setCell ⟨w.heap.size + 1 + 1 + 1, 3, none⟩ (.int .i64 (off))) = Z at ZC ZB ZO ⊢
      have z0 : Z.cell? ⟨w.heap.size + 1 + 1 + 1, 0, none⟩ = some (.int .i64 m) := ZC.cell 0
      have z1 : Z.cell? ⟨w.heap.size + 1 + 1 + 1, 1, none⟩ = some (.int .i64 p) := ZC.cell 1
      have z2 : Z.cell? ⟨w.heap.size + 1 + 1 + 1, 2, none⟩ = some (.slice ad9 (n + 1) cp9) := ZC.cell 2
      have z3 : Z.cell? ⟨w.heap.size + 1 + 1 + 1, 3, none⟩ = some (.int .i64 (off)) := ZC.cell 3
      refine bodyPost_ret (v := .agg #[.int .i64 m, .int .i64 p, .slice ad9 (n + 1) cp9, .int .i64 (off)]) (by simp [results, Try.results145, go_sem, z0, z1, z2, z3]; try rfl) rfl ?_
      exact ⟨_, _, rfl, ZO, ZB⟩
    · go_simp
      have TN := hid (HV.out.alloc (.cells #[.int .i64 q, .int .i64 k] 40 (0, 0)))
      have NN : Hid (CB (V.drew.alloc (.cells #[.int .i64 q, .int .i64 k] 40 (0, 0))) V.drew.heap.size #[.int .i64 q, .int .i64 k] 40) := hid (CB.new _ _)
      first | refine hK.out _ _ (by exact TN.out.cas) (fun hHeld => ?_) | (go_wp2_with fail; refine hK.out _ _ (by exact TN.out.cas) (fun hHeld => ?_))
      clear hK K
      try simp only [Act.put, List.setIfInBounds_toArray, List.set_cons_zero, List.set_cons_succ]
      refine wpAnyH_ready (rs := [2]) (by kernel_rfl) (by simp) ?_
      refine AllReadyH.cons (o := { dst := some 9, op := Go.Op.call { callee := Go.Callee.value (Go.Operand.func 49), args := #[Go.Operand.tmp 8], argTypes := #[24] }, type := 24, pos := "l16_cost.go:100", after := #[{ on := 1, ground := Go.Ground.data }], guard := none }) rfl (fun K hK => ?_) (AllReadyH.nil)
      go_simp
      refine (copyLays_some a n cap c _ hnI (hid (HVR.out.alloc (.cells #[.int .i64 q, .int .i64 k] 40 (0, 0)))).out).mono ?_
      rintro e w5 ⟨v5, rfl, o5, b5⟩
      obtain ⟨ad5, cp5, rfl, _, _⟩ := ownLA2_of o5
      have T5 := hid (TN.out.below b5)
      have O5 := hid (own_lower o5 TN.out.size)
      have N5 := hid (NN.out.below b5 NN.out.lt)
      clear b5 o5
      first | refine hK.out _ _ (by exact T5.out.cas) (fun hHeld => ?_) | (go_wp2_with fail; refine hK.out _ _ (by exact T5.out.cas) (fun hHeld => ?_))
      clear hK K
      try simp only [Act.put, List.setIfInBounds_toArray, List.set_cons_zero, List.set_cons_succ]
      refine wpAnyH_ready (rs := [5]) (by kernel_rfl) (by simp) ?_
      refine AllReadyH.cons (o := { dst := some 12, op := Go.Op.call { callee := Go.Callee.builtin Go.Builtin.append, args := #[Go.Operand.tmp 9, Go.Operand.tmp 11], argTypes := #[24, 24] }, type := 24, pos := "l16_cost.go:100", after := #[{ on := 2, ground := Go.Ground.data }, { on := 4, ground := Go.Ground.data }, { on := 2, ground := Go.Ground.chain }], guard := none }) rfl (fun K hK => ?_) (AllReadyH.nil)
      rw [if_pos (by rfl)]
      refine oper_append (Operand.tmp 9) (Operand.tmp 11) 24 rfl (w.heap.size + 4) 40 i4 (.agg #[.int .i64 0, .int .i64 0]) 2 16 Try.underlying24 hi4 hz40 hz41 hz42 rfl (by decide) (.slice ad5 n cp5) n (rowLA2 c n) rfl O5.out ⟨_, 0, none⟩ 1 1 [.int .i64 q, .int .i64 k] rfl rfl (csrc N5.out) (fun u hu => by simp at hu; rcases hu with rfl | rfl <;> rfl) (by unfold maxLen; omega) (by omega) T5.out.size ?_
      intro v9 w9 hown hgr hat
      have hown2 := hown
      rw [← row_put c n ⟨q, k⟩] at hown2
      obtain ⟨ad9, cp9, rfl, _, ow9⟩ := ownLA2_of hown2
      have T9 := hid (T5.out.grown hgr (fun x hx => (O5.out.lt x hx).1))
      have O9 := hid ow9
      have NGE : ∀ g, ad9 = some ⟨g, 0, none⟩ → w.heap.size + 4 ≤ g := fun g hg => (hown.lt g (by rw [hg]; rfl)).1
      have HNG := hid NGE
      clear hown hown2 hgr hat ow9 NGE
      refine hK.out _ _ (by exact T9.out.cas) (fun hHeld => ?_)
      clear hK K
      try simp only [Act.put, List.setIfInBounds_toArray, List.set_cons_zero, List.set_cons_succ]
      refine wpAnyH_take (i := 6) (oi := { dst := some 13, op := Go.Op.fieldAddr 26 (Go.Operand.tmp 4) 2, type := 0, pos := "l16_cost.go:100", after := #[{ on := 0, ground := Go.Ground.phase }, { on := 1, ground := Go.Ground.phase }, { on := 2, ground := Go.Ground.phase }, { on := 3, ground := Go.Ground.phase }, { on := 4, ground := Go.Ground.phase }, { on := 5, ground := Go.Ground.phase }], guard := none }) (v := ?_) rfl (by kernel_rfl) (by kernel_rfl) (by kernel_rfl) (fun _ _ _ h => h) (Or.inl ⟨by rfl, ?_⟩) (by assumption) ?_
      rotate_left
      · (intro w hSw; (try dsimp only at hSw); go_simp <;> try with_reducible rfl)
      try simp only [Act.put, List.setIfInBounds_toArray, List.set_cons_zero, List.set_cons_succ]
      have x2 : w9.cell? ⟨w.heap.size + 1, 2, none⟩ = some (.slice (some a) n cap) := T9.out.bx.cell 2
      have f2 := T9.out.bx.fr 2
      refine wpAnyH_ready (rs := [7]) (by kernel_rfl) (by simp) ?_
      refine AllReadyH.cons (o := { dst := none, op := Go.Op.store 24 (Go.Operand.tmp 13) (Go.Operand.tmp 12), type := 0, pos := "l16_cost.go:100", after := #[{ on := 6, ground := Go.Ground.data }, { on := 5, ground := Go.Ground.data }, { on := 5, ground := Go.Ground.chain }, { on := 0, ground := Go.Ground.phase }, { on := 1, ground := Go.Ground.phase }, { on := 2, ground := Go.Ground.phase }, { on := 3, ground := Go.Ground.phase }, { on := 4, ground := Go.Ground.phase }, { on := 5, ground := Go.Ground.phase }], guard := none }) rfl (fun K hK => ?_) (AllReadyH.nil)
      go_simp
      have TA := hid (T9.out.put2 (.slice ad9 (n + 1) cp9))
      refine hK.out _ _ (by exact TA.out.cas) (fun hHeld => ?_)
      clear hK K x2 f2
      try simp only [Act.put, List.setIfInBounds_toArray, List.set_cons_zero, List.set_cons_succ]
      refine wpAnyH_done (by kernel_rfl) ?_ _
      refine NoPanic.normal ?_
      clear hHeld
      have OA := hid (O9.out.keep (w' := w9.setCell ⟨w.heap.size + 1, 2, none⟩ (.slice ad9 (n + 1) cp9)) (fun g hg => hs_set (by have := HNG.out g hg; omega)))
      generalize w9.setCell ⟨w.heap.size + 1, 2, none⟩ (.slice ad9 (n + 1) cp9) = wA at TA OA ⊢
      have y0 : wA.cell? ⟨w.heap.size + 1, 0, none⟩ = some (.int .i64 m) := TA.out.bx.cell 0
      have y1 : wA.cell? ⟨w.heap.size + 1, 1, none⟩ = some (.int .i64 p) := TA.out.bx.cell 1
      have y2 : wA.cell? ⟨w.heap.size + 1, 2, none⟩ = some (.slice ad9 (n + 1) cp9) := TA.out.bx.cell 2
      have y3 : wA.cell? ⟨w.heap.size + 1, 3, none⟩ = some (.int .i64 (off)) := TA.out.bx.cell 3
      have x0 : wA.cell? ⟨w.heap.size + 1 + 1 + 1, 0, none⟩ = some (.int .i64 0) := TA.out.rs.cell 0
      have x1 : wA.cell? ⟨w.heap.size + 1 + 1 + 1, 1, none⟩ = some (.int .i64 0) := TA.out.rs.cell 1
      have x2 : wA.cell? ⟨w.heap.size + 1 + 1 + 1, 2, none⟩ = some (.slice none 0 0) := TA.out.rs.cell 2
      have x3 : wA.cell? ⟨w.heap.size + 1 + 1 + 1, 3, none⟩ = some (.int .i64 0) := TA.out.rs.cell 3
      have f0 := TA.out.rs.fr 0
      have f1 := TA.out.rs.fr 1
      have f2 := TA.out.rs.fr 2
      have f3 := TA.out.rs.fr 3
      go_wp2
      have ZC : CB ((((wA.setCell ⟨w.heap.size + 1 + 1 + 1, 0, none⟩ (.int .i64 m)).setCell ⟨w.heap.size + 1 + 1 + 1, 1, none⟩ (.int .i64 p)).setCell ⟨w.heap.size + 1 + 1 + 1, 2, none⟩ (.slice ad9 (n + 1) cp9)).setCell ⟨w.heap.size + 1 + 1 + 1, 3, none⟩ (.int .i64 (off))) (w.heap.size + 1 + 1 + 1) #[.int .i64 m, .int .i64 p, .slice ad9 (n + 1) cp9, .int .i64 (off)] 26 := by simpa using ((((TA.out.rs.set 0 (.int .i64 m)).set 1 (.int .i64 p)).set 2 (.slice ad9 (n + 1) cp9)).set 3 (.int .i64 (off)))
      have ZB : Below w.heap.size w ((((wA.setCell ⟨w.heap.size + 1 + 1 + 1, 0, none⟩ (.int .i64 m)).setCell ⟨w.heap.size + 1 + 1 + 1, 1, none⟩ (.int .i64 p)).setCell ⟨w.heap.size + 1 + 1 + 1, 2, none⟩ (.slice ad9 (n + 1) cp9)).setCell ⟨w.heap.size + 1 + 1 + 1, 3, none⟩ (.int .i64 (off))) := ((((TA.out.bl.setCell (by simp <;> omega) _).setCell (by simp <;> omega) _).setCell (by simp <;> omega) _).setCell (by simp <;> omega) _)
      have ZO : OwnLA2 ((((wA.setCell ⟨w.heap.size + 1 + 1 + 1, 0, none⟩ (.int .i64 m)).setCell ⟨w.heap.size + 1 + 1 + 1, 1, none⟩ (.int .i64 p)).setCell ⟨w.heap.size + 1 + 1 + 1, 2, none⟩ (.slice ad9 (n + 1) cp9)).setCell ⟨w.heap.size + 1 + 1 + 1, 3, none⟩ (.int .i64 (off))) w.heap.size ad9 (n + 1) (putL c n ⟨q, k⟩) := (OA.out.keep (fun g hg => by have := HNG.out g hg; exact keep4 (by omega))).mono (by omega)
      generalize ((((wA.setCell ⟨w.heap.size + 1 + 1 + 1, 0, none⟩ (.int .i64 m)).setCell ⟨w.heap.size + 1 + 1 + 1, 1, none⟩ (.int .i64 p)).setCell ⟨w.heap.size + 1 + 1 + 1, 2, none⟩ (.slice ad9 (n + 1) cp9)).setCell ⟨w.heap.size + 1 + 1 + 1, 3, none⟩ (.int .i64 (off))) = Z at ZC ZB ZO ⊢
      have z0 : Z.cell? ⟨w.heap.size + 1 + 1 + 1, 0, none⟩ = some (.int .i64 m) := ZC.cell 0
      have z1 : Z.cell? ⟨w.heap.size + 1 + 1 + 1, 1, none⟩ = some (.int .i64 p) := ZC.cell 1
      have z2 : Z.cell? ⟨w.heap.size + 1 + 1 + 1, 2, none⟩ = some (.slice ad9 (n + 1) cp9) := ZC.cell 2
      have z3 : Z.cell? ⟨w.heap.size + 1 + 1 + 1, 3, none⟩ = some (.int .i64 (off)) := ZC.cell 3
      refine bodyPost_ret (v := .agg #[.int .i64 m, .int .i64 p, .slice ad9 (n + 1) cp9, .int .i64 (off)]) (by simp [results, Try.results145, go_sem, z0, z1, z2, z3]; try rfl) rfl ?_
      exact ⟨_, _, rfl, ZO, ZB⟩
  · go_simp
    have TN := hid (HV.out.alloc (.cells #[.int .i64 q, .int .i64 k] 40 (0, 0)))
    have NN : Hid (CB (V.drew.alloc (.cells #[.int .i64 q, .int .i64 k] 40 (0, 0))) V.drew.heap.size #[.int .i64 q, .int .i64 k] 40) := hid (CB.new _ _)
    first | refine hK.out _ _ (by exact TN.out.cas) (fun hHeld => ?_) | (go_wp2_with fail; refine hK.out _ _ (by exact TN.out.cas) (fun hHeld => ?_))
    clear hK K
    try simp only [Act.put, List.setIfInBounds_toArray, List.set_cons_zero, List.set_cons_succ]
    refine wpAnyH_ready (rs := [1]) (by kernel_rfl) (by simp) ?_
    refine AllReadyH.cons (o := { dst := some 8, op := Go.Op.load 24 (Go.Operand.tmp 7), type := 24, pos := "l16_cost.go:100", after := #[{ on := 0, ground := Go.Ground.data }], guard := none }) rfl (fun K hK => ?_) (AllReadyH.nil)
    have hbx : (V.drew.alloc (.cells #[.int .i64 q, .int .i64 k] 40 (0, 0))).cell? ⟨w.heap.size + 1, 2, none⟩ = some (.slice (some a) n cap) := TN.out.bx.cell 2
    have hb0 : V.drew.cell? ⟨w.heap.size + 1, 2, none⟩ = some (.slice (some a) n cap) := HV.out.bx.cell 2
    have hlt0 : w.heap.size + 1 < V.drew.heap.size := HV.out.bx.lt
    have hlt1 : w.heap.size + 1 < V.heap.size := HV.out.bx.lt
    have hb1 : V.cell? ⟨w.heap.size + 1, 2, none⟩ = some (.slice (some a) n cap) := HV.out.bx.cell 2
    go_simp
    refine hK.out _ _ (by exact TN.out.cas) (fun hHeld => ?_)
    clear hK K hbx hb0 hb1 hlt0 hlt1
    try simp only [Act.put, List.setIfInBounds_toArray, List.set_cons_zero, List.set_cons_succ]
    refine wpAnyH_ready (rs := [2]) (by kernel_rfl) (by simp) ?_
    refine AllReadyH.cons (o := { dst := some 9, op := Go.Op.call { callee := Go.Callee.value (Go.Operand.func 49), args := #[Go.Operand.tmp 8], argTypes := #[24] }, type := 24, pos := "l16_cost.go:100", after := #[{ on := 1, ground := Go.Ground.data }], guard := none }) rfl (fun K hK => ?_) (AllReadyH.nil)
    go_simp
    refine (copyLays_some a n cap c _ hnI (hid (HVR.out.alloc (.cells #[.int .i64 q, .int .i64 k] 40 (0, 0)))).out).mono ?_
    rintro e w5 ⟨v5, rfl, o5, b5⟩
    obtain ⟨ad5, cp5, rfl, _, _⟩ := ownLA2_of o5
    have T5 := hid (TN.out.below b5)
    have O5 := hid (own_lower o5 TN.out.size)
    have N5 := hid (NN.out.below b5 NN.out.lt)
    clear b5 o5
    first | refine hK.out _ _ (by exact T5.out.cas) (fun hHeld => ?_) | (go_wp2_with fail; refine hK.out _ _ (by exact T5.out.cas) (fun hHeld => ?_))
    clear hK K
    try simp only [Act.put, List.setIfInBounds_toArray, List.set_cons_zero, List.set_cons_succ]
    refine wpAnyH_ready (rs := [5]) (by kernel_rfl) (by simp) ?_
    refine AllReadyH.cons (o := { dst := some 12, op := Go.Op.call { callee := Go.Callee.builtin Go.Builtin.append, args := #[Go.Operand.tmp 9, Go.Operand.tmp 11], argTypes := #[24, 24] }, type := 24, pos := "l16_cost.go:100", after := #[{ on := 2, ground := Go.Ground.data }, { on := 4, ground := Go.Ground.data }, { on := 2, ground := Go.Ground.chain }], guard := none }) rfl (fun K hK => ?_) (AllReadyH.nil)
    rw [if_pos (by rfl)]
    refine oper_append (Operand.tmp 9) (Operand.tmp 11) 24 rfl (w.heap.size + 4) 40 i4 (.agg #[.int .i64 0, .int .i64 0]) 2 16 Try.underlying24 hi4 hz40 hz41 hz42 rfl (by decide) (.slice ad5 n cp5) n (rowLA2 c n) rfl O5.out ⟨_, 0, none⟩ 1 1 [.int .i64 q, .int .i64 k] rfl rfl (csrc N5.out) (fun u hu => by simp at hu; rcases hu with rfl | rfl <;> rfl) (by unfold maxLen; omega) (by omega) T5.out.size ?_
    intro v9 w9 hown hgr hat
    have hown2 := hown
    rw [← row_put c n ⟨q, k⟩] at hown2
    obtain ⟨ad9, cp9, rfl, _, ow9⟩ := ownLA2_of hown2
    have T9 := hid (T5.out.grown hgr (fun x hx => (O5.out.lt x hx).1))
    have O9 := hid ow9
    have NGE : ∀ g, ad9 = some ⟨g, 0, none⟩ → w.heap.size + 4 ≤ g := fun g hg => (hown.lt g (by rw [hg]; rfl)).1
    have HNG := hid NGE
    clear hown hown2 hgr hat ow9 NGE
    refine hK.out _ _ (by exact T9.out.cas) (fun hHeld => ?_)
    clear hK K
    try simp only [Act.put, List.setIfInBounds_toArray, List.set_cons_zero, List.set_cons_succ]
    refine wpAnyH_take (i := 6) (oi := { dst := some 13, op := Go.Op.fieldAddr 26 (Go.Operand.tmp 4) 2, type := 0, pos := "l16_cost.go:100", after := #[{ on := 0, ground := Go.Ground.phase }, { on := 1, ground := Go.Ground.phase }, { on := 2, ground := Go.Ground.phase }, { on := 3, ground := Go.Ground.phase }, { on := 4, ground := Go.Ground.phase }, { on := 5, ground := Go.Ground.phase }], guard := none }) (v := ?_) rfl (by kernel_rfl) (by kernel_rfl) (by kernel_rfl) (fun _ _ _ h => h) (Or.inl ⟨by rfl, ?_⟩) (by assumption) ?_
    rotate_left
    · (intro w hSw; (try dsimp only at hSw); go_simp <;> try with_reducible rfl)
    try simp only [Act.put, List.setIfInBounds_toArray, List.set_cons_zero, List.set_cons_succ]
    have x2 : w9.cell? ⟨w.heap.size + 1, 2, none⟩ = some (.slice (some a) n cap) := T9.out.bx.cell 2
    have f2 := T9.out.bx.fr 2
    refine wpAnyH_ready (rs := [7]) (by kernel_rfl) (by simp) ?_
    refine AllReadyH.cons (o := { dst := none, op := Go.Op.store 24 (Go.Operand.tmp 13) (Go.Operand.tmp 12), type := 0, pos := "l16_cost.go:100", after := #[{ on := 6, ground := Go.Ground.data }, { on := 5, ground := Go.Ground.data }, { on := 5, ground := Go.Ground.chain }, { on := 0, ground := Go.Ground.phase }, { on := 1, ground := Go.Ground.phase }, { on := 2, ground := Go.Ground.phase }, { on := 3, ground := Go.Ground.phase }, { on := 4, ground := Go.Ground.phase }, { on := 5, ground := Go.Ground.phase }], guard := none }) rfl (fun K hK => ?_) (AllReadyH.nil)
    go_simp
    have TA := hid (T9.out.put2 (.slice ad9 (n + 1) cp9))
    refine hK.out _ _ (by exact TA.out.cas) (fun hHeld => ?_)
    clear hK K x2 f2
    try simp only [Act.put, List.setIfInBounds_toArray, List.set_cons_zero, List.set_cons_succ]
    refine wpAnyH_done (by kernel_rfl) ?_ _
    refine NoPanic.normal ?_
    clear hHeld
    have OA := hid (O9.out.keep (w' := w9.setCell ⟨w.heap.size + 1, 2, none⟩ (.slice ad9 (n + 1) cp9)) (fun g hg => hs_set (by have := HNG.out g hg; omega)))
    generalize w9.setCell ⟨w.heap.size + 1, 2, none⟩ (.slice ad9 (n + 1) cp9) = wA at TA OA ⊢
    have y0 : wA.cell? ⟨w.heap.size + 1, 0, none⟩ = some (.int .i64 m) := TA.out.bx.cell 0
    have y1 : wA.cell? ⟨w.heap.size + 1, 1, none⟩ = some (.int .i64 p) := TA.out.bx.cell 1
    have y2 : wA.cell? ⟨w.heap.size + 1, 2, none⟩ = some (.slice ad9 (n + 1) cp9) := TA.out.bx.cell 2
    have y3 : wA.cell? ⟨w.heap.size + 1, 3, none⟩ = some (.int .i64 (off)) := TA.out.bx.cell 3
    have x0 : wA.cell? ⟨w.heap.size + 1 + 1 + 1, 0, none⟩ = some (.int .i64 0) := TA.out.rs.cell 0
    have x1 : wA.cell? ⟨w.heap.size + 1 + 1 + 1, 1, none⟩ = some (.int .i64 0) := TA.out.rs.cell 1
    have x2 : wA.cell? ⟨w.heap.size + 1 + 1 + 1, 2, none⟩ = some (.slice none 0 0) := TA.out.rs.cell 2
    have x3 : wA.cell? ⟨w.heap.size + 1 + 1 + 1, 3, none⟩ = some (.int .i64 0) := TA.out.rs.cell 3
    have f0 := TA.out.rs.fr 0
    have f1 := TA.out.rs.fr 1
    have f2 := TA.out.rs.fr 2
    have f3 := TA.out.rs.fr 3
    go_wp2
    have ZC : CB ((((wA.setCell ⟨w.heap.size + 1 + 1 + 1, 0, none⟩ (.int .i64 m)).setCell ⟨w.heap.size + 1 + 1 + 1, 1, none⟩ (.int .i64 p)).setCell ⟨w.heap.size + 1 + 1 + 1, 2, none⟩ (.slice ad9 (n + 1) cp9)).setCell ⟨w.heap.size + 1 + 1 + 1, 3, none⟩ (.int .i64 (off))) (w.heap.size + 1 + 1 + 1) #[.int .i64 m, .int .i64 p, .slice ad9 (n + 1) cp9, .int .i64 (off)] 26 := by simpa using ((((TA.out.rs.set 0 (.int .i64 m)).set 1 (.int .i64 p)).set 2 (.slice ad9 (n + 1) cp9)).set 3 (.int .i64 (off)))
    have ZB : Below w.heap.size w ((((wA.setCell ⟨w.heap.size + 1 + 1 + 1, 0, none⟩ (.int .i64 m)).setCell ⟨w.heap.size + 1 + 1 + 1, 1, none⟩ (.int .i64 p)).setCell ⟨w.heap.size + 1 + 1 + 1, 2, none⟩ (.slice ad9 (n + 1) cp9)).setCell ⟨w.heap.size + 1 + 1 + 1, 3, none⟩ (.int .i64 (off))) := ((((TA.out.bl.setCell (by simp <;> omega) _).setCell (by simp <;> omega) _).setCell (by simp <;> omega) _).setCell (by simp <;> omega) _)
    have ZO : OwnLA2 ((((wA.setCell ⟨w.heap.size + 1 + 1 + 1, 0, none⟩ (.int .i64 m)).setCell ⟨w.heap.size + 1 + 1 + 1, 1, none⟩ (.int .i64 p)).setCell ⟨w.heap.size + 1 + 1 + 1, 2, none⟩ (.slice ad9 (n + 1) cp9)).setCell ⟨w.heap.size + 1 + 1 + 1, 3, none⟩ (.int .i64 (off))) w.heap.size ad9 (n + 1) (putL c n ⟨q, k⟩) := (OA.out.keep (fun g hg => by have := HNG.out g hg; exact keep4 (by omega))).mono (by omega)
    generalize ((((wA.setCell ⟨w.heap.size + 1 + 1 + 1, 0, none⟩ (.int .i64 m)).setCell ⟨w.heap.size + 1 + 1 + 1, 1, none⟩ (.int .i64 p)).setCell ⟨w.heap.size + 1 + 1 + 1, 2, none⟩ (.slice ad9 (n + 1) cp9)).setCell ⟨w.heap.size + 1 + 1 + 1, 3, none⟩ (.int .i64 (off))) = Z at ZC ZB ZO ⊢
    have z0 : Z.cell? ⟨w.heap.size + 1 + 1 + 1, 0, none⟩ = some (.int .i64 m) := ZC.cell 0
    have z1 : Z.cell? ⟨w.heap.size + 1 + 1 + 1, 1, none⟩ = some (.int .i64 p) := ZC.cell 1
    have z2 : Z.cell? ⟨w.heap.size + 1 + 1 + 1, 2, none⟩ = some (.slice ad9 (n + 1) cp9) := ZC.cell 2
    have z3 : Z.cell? ⟨w.heap.size + 1 + 1 + 1, 3, none⟩ = some (.int .i64 (off)) := ZC.cell 3
    refine bodyPost_ret (v := .agg #[.int .i64 m, .int .i64 p, .slice ad9 (n + 1) cp9, .int .i64 (off)]) (by simp [results, Try.results145, go_sem, z0, z1, z2, z3]; try rfl) rfl ?_
    exact ⟨_, _, rfl, ZO, ZB⟩

theorem ownOne {w : World} {lo g : Nat} {x y : Int} (h : CB w g #[.int .i64 x, .int .i64 y] 40) (hg : lo ≤ g) : OwnLA2 w lo (some ⟨g, 0, none⟩) 1 (fun _ => ⟨x, y⟩) :=
  .inr ⟨g, _, rfl, hg, h, by simp, fun j hj => by obtain rfl : j = 0 := (by omega); exact ⟨rfl, rfl⟩⟩
set_option maxRecDepth 20000 in
set_option maxHeartbeats 8000000 in
theorem takeInM_any (m p : Int) (ad : Option Addr) (n cap : Nat) (off q k : Int) (c : Nat → LA2) (w : World) (hn : n ≤ 300) (hl : ∀ j, j < n → laB (c j) = true) (hhQ : qS c n ≤ 1000000) (hhK : kS c n ≤ 100000000000) (hq : 1 ≤ q ∧ q ≤ 1000000) (hk : 0 ≤ k ∧ k ≤ 100000000000) (hr : LAr w ad n c) :
    Calls Try.prog 149 #[.agg #[], .agg #[.int .i64 m, .int .i64 p, .slice ad n cap, .int .i64 off], .agg #[.int .i64 q, .int .i64 k]] w (MeR m p 1 (fun _ => ⟨qS c n + q, kS c n + k⟩) off w) := by
  have HR : Hid (LAr w ad n c) := hr
  have HL : Hid (∀ j, j < n → laB (c j) = true) := hl
  obtain ⟨b1, b2, b3, b4⟩ := sums_bd n hl
  obtain ⟨Q, hQ⟩ : ∃ Q, qS c n = Q := ⟨_, rfl⟩
  obtain ⟨KK, hK⟩ : ∃ KK, kS c n = KK := ⟨_, rfl⟩
  rw [hQ] at b1 b2 hhQ
  rw [hK] at b3 b4 hhK
  have HQ : Hid (qS c n = Q) := hQ
  have HKK : Hid (kS c n = KK) := hK
  have q0 : 0 ≤ Q := by omega
  rw [hQ]
  rw [hK]
  clear hr hl hQ hK b1 b2 b4
  unfold MeR
  go_enter Try.func149, Try.ntmps149
  go_wp2
  have V0 := TB.start w (.cells #[] 140 (0, 0)) m p (.slice ad n cap) off q k
  have R0 : LAr ((((w.alloc (.cells #[] 140 (0, 0))).alloc (.cells #[.int .i64 m, .int .i64 p, .slice ad n cap, .int .i64 off] 26 (0, 0))).alloc (.cells #[.int .i64 q, .int .i64 k] 40 (0, 0))).alloc (.cells #[.int .i64 0, .int .i64 0, .slice none 0 0, .int .i64 0] 26 (0, 0))) ad n c := (((HR.out.alloc _).alloc _).alloc _).alloc _
  generalize ((((w.alloc (.cells #[] 140 (0, 0))).alloc (.cells #[.int .i64 m, .int .i64 p, .slice ad n cap, .int .i64 off] 26 (0, 0))).alloc (.cells #[.int .i64 q, .int .i64 k] 40 (0, 0))).alloc (.cells #[.int .i64 0, .int .i64 0, .slice none 0 0, .int .i64 0] 26 (0, 0))) = V at V0 R0 ⊢
  have HV := hid V0.drew
  have HVR : Hid (LAr V.drew ad n c) := hid (R0.below (Below.refl _ _).drew)
  clear V0 R0
  refine wp_region_noPanic ?_
  refine wp_region_held_drew (S := fun w' => (w'.cell? ⟨w.heap.size + 1 + 1, 0, none⟩ = some (.int .i64 q)) ∧ (w'.cell? ⟨w.heap.size + 1 + 1, 1, none⟩ = some (.int .i64 k))) (by kernel_rfl) (by exact HV.out.cas) (fun hHeld => ?_)
  refine wpAnyH_take (i := 0) (oi := { dst := some 7, op := Go.Op.fieldAddr 26 (Go.Operand.tmp 4) 2, type := 0, pos := "l16_cost.go:120", after := #[], guard := none }) (v := ?_) rfl (by kernel_rfl) (by kernel_rfl) (by kernel_rfl) (fun _ _ _ h => h) (Or.inl ⟨by rfl, ?_⟩) (by assumption) ?_
  rotate_left
  · (intro w hSw; (try dsimp only at hSw); go_simp <;> try with_reducible rfl)
  try simp only [Act.put, List.setIfInBounds_toArray, List.set_cons_zero, List.set_cons_succ]
  refine wpAnyH_take (i := 3) (oi := { dst := some 10, op := Go.Op.load 40 (Go.Operand.tmp 5), type := 40, pos := "l16_cost.go:120", after := #[], guard := none }) (v := ?_) rfl (by kernel_rfl) (by kernel_rfl) (by kernel_rfl) (fun _ _ _ h => h) (Or.inl ⟨by rfl, ?_⟩) (by assumption) ?_
  rotate_left
  · (intro w hSw; (try dsimp only at hSw); go_simp <;> try with_reducible rfl)
  try simp only [Act.put, List.setIfInBounds_toArray, List.set_cons_zero, List.set_cons_succ]
  have hbx : V.drew.cell? ⟨w.heap.size + 1, 2, none⟩ = some (.slice ad n cap) := HV.out.bx.cell 2
  refine wpAnyH_ready (rs := [1]) (by kernel_rfl) (by simp) ?_
  refine AllReadyH.cons (o := { dst := some 8, op := Go.Op.load 24 (Go.Operand.tmp 7), type := 24, pos := "l16_cost.go:120", after := #[{ on := 0, ground := Go.Ground.data }], guard := none }) rfl (fun K hK => ?_) (AllReadyH.nil)
  go_simp
  refine hK.out _ _ (by exact HV.out.cas) (fun hHeld => ?_)
  clear hK K hbx
  try simp only [Act.put, List.setIfInBounds_toArray, List.set_cons_zero, List.set_cons_succ]
  refine wpAnyH_ready (rs := [2]) (by kernel_rfl) (by simp) ?_
  refine AllReadyH.cons (o := { dst := some 9, op := Go.Op.call { callee := Go.Callee.value (Go.Operand.func 63), args := #[Go.Operand.tmp 8], argTypes := #[24] }, type := 40, pos := "l16_cost.go:120", after := #[{ on := 1, ground := Go.Ground.data }], guard := none }) rfl (fun K hK => ?_) (AllReadyH.nil)
  go_simp
  refine (allOf_eq ad n cap c Q KK _ hn HL.out HVR.out HQ.out HKK.out).mono ?_
  rintro e w5 ⟨rfl, b5⟩
  have T5 := hid (HV.out.below b5)
  clear b5
  first | refine hK.out _ _ (by exact T5.out.cas) (fun hHeld => ?_) | (go_wp2_with fail; refine hK.out _ _ (by exact T5.out.cas) (fun hHeld => ?_))
  clear hK K
  try simp only [Act.put, List.setIfInBounds_toArray, List.set_cons_zero, List.set_cons_succ]
  refine wpAnyH_ready (rs := [4]) (by kernel_rfl) (by simp) ?_
  refine AllReadyH.cons (o := { dst := some 11, op := Go.Op.call { callee := Go.Callee.value (Go.Operand.func 82), args := #[Go.Operand.tmp 9, Go.Operand.tmp 10], argTypes := #[40, 40] }, type := 40, pos := "l16_cost.go:120", after := #[{ on := 2, ground := Go.Ground.data }, { on := 3, ground := Go.Ground.data }, { on := 2, ground := Go.Ground.chain }], guard := none }) rfl (fun K hK => ?_) (AllReadyH.nil)
  go_simp
  refine (with_eq Q KK q k (Q + q) (KK + k) _ (by omega) (by omega) (by omega) (by omega) rfl rfl).mono ?_
  rintro e w6 ⟨rfl, b6⟩
  have T6 := hid (T5.out.below b6)
  clear b6
  first | refine hK.out _ _ (by exact T6.out.cas) (fun hHeld => ?_) | (go_wp2_with fail; refine hK.out _ _ (by exact T6.out.cas) (fun hHeld => ?_))
  clear hK K
  try simp only [Act.put, List.setIfInBounds_toArray, List.set_cons_zero, List.set_cons_succ]
  refine wpAnyH_ready (rs := [5]) (by kernel_rfl) (by simp) ?_
  refine AllReadyH.cons (o := { dst := some 12, op := Go.Op.buildSlice 24 1 #[(0, Go.Operand.tmp 11)], type := 24, pos := "l16_cost.go:120", after := #[{ on := 4, ground := Go.Ground.data }], guard := none }) rfl (fun K hK => ?_) (AllReadyH.nil)
  go_simp
  have T7 := hid (T6.out.alloc (.cells #[.int .i64 (Q + q), .int .i64 (KK + k)] 40 (0, 0)))
  have N7 : Hid (CB (w6.alloc (.cells #[.int .i64 (Q + q), .int .i64 (KK + k)] 40 (0, 0))) w6.heap.size #[.int .i64 (Q + q), .int .i64 (KK + k)] 40) := hid (CB.new _ _)
  first | refine hK.out _ _ (by exact T7.out.cas) (fun hHeld => ?_) | (go_wp2_with fail; refine hK.out _ _ (by exact T7.out.cas) (fun hHeld => ?_))
  clear hK K
  try simp only [Act.put, List.setIfInBounds_toArray, List.set_cons_zero, List.set_cons_succ]
  have hgs := T6.out.size
  obtain ⟨g, hg⟩ : ∃ g, w6.heap.size = g := ⟨_, rfl⟩
  rw [hg] at N7 hgs ⊢
  generalize w6.alloc (.cells #[.int .i64 (Q + q), .int .i64 (KK + k)] 40 (0, 0)) = w7 at T7 N7 ⊢
  clear hg
  have hHeld := T7.out.cas
  refine wpAnyH_take (i := 6) (oi := { dst := some 13, op := Go.Op.fieldAddr 26 (Go.Operand.tmp 4) 2, type := 0, pos := "l16_cost.go:120", after := #[{ on := 0, ground := Go.Ground.phase }, { on := 1, ground := Go.Ground.phase }, { on := 2, ground := Go.Ground.phase }, { on := 3, ground := Go.Ground.phase }, { on := 4, ground := Go.Ground.phase }, { on := 5, ground := Go.Ground.phase }], guard := none }) (v := ?_) rfl (by kernel_rfl) (by kernel_rfl) (by kernel_rfl) (fun _ _ _ h => h) (Or.inl ⟨by rfl, ?_⟩) (by assumption) ?_
  rotate_left
  · (intro w hSw; (try dsimp only at hSw); go_simp <;> try with_reducible rfl)
  try simp only [Act.put, List.setIfInBounds_toArray, List.set_cons_zero, List.set_cons_succ]
  have x2 : w7.cell? ⟨w.heap.size + 1, 2, none⟩ = some (.slice ad n cap) := T7.out.bx.cell 2
  have f2 := T7.out.bx.fr 2
  refine wpAnyH_ready (rs := [7]) (by kernel_rfl) (by simp) ?_
  refine AllReadyH.cons (o := { dst := none, op := Go.Op.store 24 (Go.Operand.tmp 13) (Go.Operand.tmp 12), type := 0, pos := "l16_cost.go:120", after := #[{ on := 6, ground := Go.Ground.data }, { on := 5, ground := Go.Ground.data }, { on := 4, ground := Go.Ground.chain }, { on := 0, ground := Go.Ground.phase }, { on := 1, ground := Go.Ground.phase }, { on := 2, ground := Go.Ground.phase }, { on := 3, ground := Go.Ground.phase }, { on := 4, ground := Go.Ground.phase }, { on := 5, ground := Go.Ground.phase }], guard := none }) rfl (fun K hK => ?_) (AllReadyH.nil)
  go_simp
  have TA := hid (T7.out.put2 (.slice (some ⟨g, 0, none⟩) 1 1))
  have NA := hid (N7.out.other (c := w.heap.size + 1) (o := 2) (.slice (some ⟨g, 0, none⟩) 1 1) (by omega))
  refine hK.out _ _ (by exact TA.out.cas) (fun hHeld => ?_)
  clear hK K x2 f2
  try simp only [Act.put, List.setIfInBounds_toArray, List.set_cons_zero, List.set_cons_succ]
  refine wpAnyH_done (by kernel_rfl) ?_ _
  refine NoPanic.normal ?_
  clear hHeld
  generalize w7.setCell ⟨w.heap.size + 1, 2, none⟩ (.slice (some ⟨g, 0, none⟩) 1 1) = wA at TA NA ⊢
  have y0 : wA.cell? ⟨w.heap.size + 1, 0, none⟩ = some (.int .i64 m) := TA.out.bx.cell 0
  have y1 : wA.cell? ⟨w.heap.size + 1, 1, none⟩ = some (.int .i64 p) := TA.out.bx.cell 1
  have y2 : wA.cell? ⟨w.heap.size + 1, 2, none⟩ = some (.slice (some ⟨g, 0, none⟩) 1 1) := TA.out.bx.cell 2
  have y3 : wA.cell? ⟨w.heap.size + 1, 3, none⟩ = some (.int .i64 (off)) := TA.out.bx.cell 3
  have x0 : wA.cell? ⟨w.heap.size + 1 + 1 + 1, 0, none⟩ = some (.int .i64 0) := TA.out.rs.cell 0
  have x1 : wA.cell? ⟨w.heap.size + 1 + 1 + 1, 1, none⟩ = some (.int .i64 0) := TA.out.rs.cell 1
  have x2 : wA.cell? ⟨w.heap.size + 1 + 1 + 1, 2, none⟩ = some (.slice none 0 0) := TA.out.rs.cell 2
  have x3 : wA.cell? ⟨w.heap.size + 1 + 1 + 1, 3, none⟩ = some (.int .i64 0) := TA.out.rs.cell 3
  have f0 := TA.out.rs.fr 0
  have f1 := TA.out.rs.fr 1
  have f2 := TA.out.rs.fr 2
  have f3 := TA.out.rs.fr 3
  go_wp2
  have ZC : CB ((((wA.setCell ⟨w.heap.size + 1 + 1 + 1, 0, none⟩ (.int .i64 m)).setCell ⟨w.heap.size + 1 + 1 + 1, 1, none⟩ (.int .i64 p)).setCell ⟨w.heap.size + 1 + 1 + 1, 2, none⟩ (.slice (some ⟨g, 0, none⟩) 1 1)).setCell ⟨w.heap.size + 1 + 1 + 1, 3, none⟩ (.int .i64 (off))) (w.heap.size + 1 + 1 + 1) #[.int .i64 m, .int .i64 p, .slice (some ⟨g, 0, none⟩) 1 1, .int .i64 (off)] 26 := by simpa using ((((TA.out.rs.set 0 (.int .i64 m)).set 1 (.int .i64 p)).set 2 (.slice (some ⟨g, 0, none⟩) 1 1)).set 3 (.int .i64 (off)))
  have ZB : Below w.heap.size w ((((wA.setCell ⟨w.heap.size + 1 + 1 + 1, 0, none⟩ (.int .i64 m)).setCell ⟨w.heap.size + 1 + 1 + 1, 1, none⟩ (.int .i64 p)).setCell ⟨w.heap.size + 1 + 1 + 1, 2, none⟩ (.slice (some ⟨g, 0, none⟩) 1 1)).setCell ⟨w.heap.size + 1 + 1 + 1, 3, none⟩ (.int .i64 (off))) := ((((TA.out.bl.setCell (by simp <;> omega) _).setCell (by simp <;> omega) _).setCell (by simp <;> omega) _).setCell (by simp <;> omega) _)
  have ZO : OwnLA2 ((((wA.setCell ⟨w.heap.size + 1 + 1 + 1, 0, none⟩ (.int .i64 m)).setCell ⟨w.heap.size + 1 + 1 + 1, 1, none⟩ (.int .i64 p)).setCell ⟨w.heap.size + 1 + 1 + 1, 2, none⟩ (.slice (some ⟨g, 0, none⟩) 1 1)).setCell ⟨w.heap.size + 1 + 1 + 1, 3, none⟩ (.int .i64 (off))) w.heap.size (some ⟨g, 0, none⟩) 1 (fun _ => ⟨Q + q, KK + k⟩) := ((ownOne (w := wA) (lo := w.heap.size + 4) NA.out hgs).keep (fun g hg => by cases hg; exact keep4 (by omega))).mono (by omega)
  generalize ((((wA.setCell ⟨w.heap.size + 1 + 1 + 1, 0, none⟩ (.int .i64 m)).setCell ⟨w.heap.size + 1 + 1 + 1, 1, none⟩ (.int .i64 p)).setCell ⟨w.heap.size + 1 + 1 + 1, 2, none⟩ (.slice (some ⟨g, 0, none⟩) 1 1)).setCell ⟨w.heap.size + 1 + 1 + 1, 3, none⟩ (.int .i64 (off))) = Z at ZC ZB ZO ⊢
  have z0 : Z.cell? ⟨w.heap.size + 1 + 1 + 1, 0, none⟩ = some (.int .i64 m) := ZC.cell 0
  have z1 : Z.cell? ⟨w.heap.size + 1 + 1 + 1, 1, none⟩ = some (.int .i64 p) := ZC.cell 1
  have z2 : Z.cell? ⟨w.heap.size + 1 + 1 + 1, 2, none⟩ = some (.slice (some ⟨g, 0, none⟩) 1 1) := ZC.cell 2
  have z3 : Z.cell? ⟨w.heap.size + 1 + 1 + 1, 3, none⟩ = some (.int .i64 (off)) := ZC.cell 3
  refine bodyPost_ret (v := .agg #[.int .i64 m, .int .i64 p, .slice (some ⟨g, 0, none⟩) 1 1, .int .i64 (off)]) (by simp [results, Try.results149, go_sem, z0, z1, z2, z3]; try rfl) rfl ?_
  exact ⟨_, _, rfl, ZO, ZB⟩

theorem pcas {w : World} {b : Nat} {x y : Int} {t : TypeId} (h : CB w b #[.int .i64 x, .int .i64 y] t) : w.cell? ⟨b, 0, none⟩ = some (.int .i64 x) ∧ w.cell? ⟨b, 1, none⟩ = some (.int .i64 y) := ⟨h.cell 0, h.cell 1⟩
set_option maxRecDepth 20000 in
set_option maxHeartbeats 8000000 in
theorem takeInS_any (m p : Int) (ad : Option Addr) (n cap : Nat) (off q k R : Int) (c : Nat → LA2) (w : World) (hn : n ≤ 300) (hl : ∀ j, j < n → laB (c j) = true) (hhQ : qS c n ≤ 1000000) (hhK : kS c n ≤ 100000000000) (hq : 1 ≤ q ∧ q ≤ 1000000) (hk : 0 ≤ k ∧ k ≤ 100000000000) (ho : -100000000000 ≤ off ∧ off ≤ 100000000000) (hRR : q * p = R) (hR : 0 ≤ R ∧ R ≤ 100000000000) (hr : LAr w ad n c) :
    Calls Try.prog 150 #[.agg #[], .agg #[.int .i64 m, .int .i64 p, .slice ad n cap, .int .i64 off], .agg #[.int .i64 q, .int .i64 k]] w (MeR m p 1 (fun _ => ⟨qS c n + q, kS c n + R⟩) (off + (k - R)) w) := by
  have hwR : IntKind.i64.wrap (q * p) = R := by rw [hRR]; exact IntWalk.i64_in _ ⟨by omega, by omega⟩
  have hwS : IntKind.i64.wrap (k - R) = k - R := IntWalk.i64_in _ ⟨by omega, by omega⟩
  have hwT : IntKind.i64.wrap (off + (k - R)) = off + (k - R) := IntWalk.i64_in _ ⟨by omega, by omega⟩
  clear hRR
  have HR : Hid (LAr w ad n c) := hr
  have HL : Hid (∀ j, j < n → laB (c j) = true) := hl
  obtain ⟨b1, b2, b3, b4⟩ := sums_bd n hl
  obtain ⟨Q, hQ⟩ : ∃ Q, qS c n = Q := ⟨_, rfl⟩
  obtain ⟨KK, hK⟩ : ∃ KK, kS c n = KK := ⟨_, rfl⟩
  rw [hQ] at b1 b2 hhQ
  rw [hK] at b3 b4 hhK
  have HQ : Hid (qS c n = Q) := hQ
  have HKK : Hid (kS c n = KK) := hK
  have q0 : 0 ≤ Q := by omega
  rw [hQ]
  rw [hK]
  clear hr hl hQ hK b1 b2 b4
  unfold MeR
  go_enter Try.func150, Try.ntmps150
  go_wp2
  have V0 := TB.start w (.cells #[] 141 (0, 0)) m p (.slice ad n cap) off q k
  have R0 : LAr ((((w.alloc (.cells #[] 141 (0, 0))).alloc (.cells #[.int .i64 m, .int .i64 p, .slice ad n cap, .int .i64 off] 26 (0, 0))).alloc (.cells #[.int .i64 q, .int .i64 k] 40 (0, 0))).alloc (.cells #[.int .i64 0, .int .i64 0, .slice none 0 0, .int .i64 0] 26 (0, 0))) ad n c := (((HR.out.alloc _).alloc _).alloc _).alloc _
  have P0 : CB (((((w.alloc (.cells #[] 141 (0, 0))).alloc (.cells #[.int .i64 m, .int .i64 p, .slice ad n cap, .int .i64 off] 26 (0, 0))).alloc (.cells #[.int .i64 q, .int .i64 k] 40 (0, 0))).alloc (.cells #[.int .i64 0, .int .i64 0, .slice none 0 0, .int .i64 0] 26 (0, 0))).alloc (.cells #[.int .i64 q, .int .i64 R] 40 (0, 0))) (w.heap.size + 1 + 1 + 1 + 1) #[.int .i64 q, .int .i64 R] 40 := CB.newAt (by simp) _ _
  replace V0 := V0.alloc (.cells #[.int .i64 q, .int .i64 R] 40 (0, 0))
  replace R0 := R0.alloc (.cells #[.int .i64 q, .int .i64 R] 40 (0, 0))
  generalize (((((w.alloc (.cells #[] 141 (0, 0))).alloc (.cells #[.int .i64 m, .int .i64 p, .slice ad n cap, .int .i64 off] 26 (0, 0))).alloc (.cells #[.int .i64 q, .int .i64 k] 40 (0, 0))).alloc (.cells #[.int .i64 0, .int .i64 0, .slice none 0 0, .int .i64 0] 26 (0, 0))).alloc (.cells #[.int .i64 q, .int .i64 R] 40 (0, 0))) = V at V0 R0 P0 ⊢
  have HV := hid V0.drew
  have HP : Hid (CB V.drew (w.heap.size + 1 + 1 + 1 + 1) #[.int .i64 q, .int .i64 R] 40) := hid P0
  have HVR : Hid (LAr V.drew ad n c) := hid (R0.below (Below.refl _ _).drew)
  clear V0 R0 P0
  refine wp_region_noPanic ?_
  refine wp_region_held_drew (S := fun w' => (w'.cell? ⟨w.heap.size + 1 + 1 + 1 + 1, 0, none⟩ = some (.int .i64 q)) ∧ (w'.cell? ⟨w.heap.size + 1 + 1 + 1 + 1, 1, none⟩ = some (.int .i64 R))) (by kernel_rfl) (by exact (pcas HP.out)) (fun hHeld => ?_)
  refine wpAnyH_take (i := 0) (oi := { dst := some 16, op := Go.Op.fieldAddr 26 (Go.Operand.tmp 4) 2, type := 0, pos := "l16_cost.go:128", after := #[], guard := none }) (v := ?_) rfl (by kernel_rfl) (by kernel_rfl) (by kernel_rfl) (fun _ _ _ h => h) (Or.inl ⟨by rfl, ?_⟩) (by assumption) ?_
  rotate_left
  · (intro w hSw; (try dsimp only at hSw); go_simp <;> try with_reducible rfl)
  try simp only [Act.put, List.setIfInBounds_toArray, List.set_cons_zero, List.set_cons_succ]
  refine wpAnyH_take (i := 3) (oi := { dst := some 19, op := Go.Op.load 40 (Go.Operand.tmp 7), type := 40, pos := "l16_cost.go:128", after := #[], guard := none }) (v := ?_) rfl (by kernel_rfl) (by kernel_rfl) (by kernel_rfl) (fun _ _ _ h => h) (Or.inl ⟨by rfl, ?_⟩) (by assumption) ?_
  rotate_left
  · (intro w hSw; (try dsimp only at hSw); go_simp <;> try with_reducible rfl)
  try simp only [Act.put, List.setIfInBounds_toArray, List.set_cons_zero, List.set_cons_succ]
  have hbx : V.drew.cell? ⟨w.heap.size + 1, 2, none⟩ = some (.slice ad n cap) := HV.out.bx.cell 2
  refine wpAnyH_ready (rs := [1]) (by kernel_rfl) (by simp) ?_
  refine AllReadyH.cons (o := { dst := some 17, op := Go.Op.load 24 (Go.Operand.tmp 16), type := 24, pos := "l16_cost.go:128", after := #[{ on := 0, ground := Go.Ground.data }], guard := none }) rfl (fun K hK => ?_) (AllReadyH.nil)
  go_simp
  refine hK.out _ _ (by exact (pcas HP.out)) (fun hHeld => ?_)
  clear hK K hbx
  try simp only [Act.put, List.setIfInBounds_toArray, List.set_cons_zero, List.set_cons_succ]
  refine wpAnyH_ready (rs := [2]) (by kernel_rfl) (by simp) ?_
  refine AllReadyH.cons (o := { dst := some 18, op := Go.Op.call { callee := Go.Callee.value (Go.Operand.func 63), args := #[Go.Operand.tmp 17], argTypes := #[24] }, type := 40, pos := "l16_cost.go:128", after := #[{ on := 1, ground := Go.Ground.data }], guard := none }) rfl (fun K hK => ?_) (AllReadyH.nil)
  go_simp
  refine (allOf_eq ad n cap c Q KK _ hn HL.out HVR.out HQ.out HKK.out).mono ?_
  rintro e w5 ⟨rfl, b5⟩
  have T5 := hid (HV.out.below b5)
  have P5 := hid (HP.out.below b5 HP.out.lt)
  clear b5
  first | refine hK.out _ _ (by exact (pcas P5.out)) (fun hHeld => ?_) | (go_wp2_with fail; refine hK.out _ _ (by exact (pcas P5.out)) (fun hHeld => ?_))
  clear hK K
  try simp only [Act.put, List.setIfInBounds_toArray, List.set_cons_zero, List.set_cons_succ]
  refine wpAnyH_ready (rs := [4]) (by kernel_rfl) (by simp) ?_
  refine AllReadyH.cons (o := { dst := some 20, op := Go.Op.call { callee := Go.Callee.value (Go.Operand.func 82), args := #[Go.Operand.tmp 18, Go.Operand.tmp 19], argTypes := #[40, 40] }, type := 40, pos := "l16_cost.go:128", after := #[{ on := 2, ground := Go.Ground.data }, { on := 3, ground := Go.Ground.data }, { on := 2, ground := Go.Ground.chain }], guard := none }) rfl (fun K hK => ?_) (AllReadyH.nil)
  go_simp
  refine (with_eq Q KK q R (Q + q) (KK + R) _ (by omega) (by omega) (by omega) (by omega) rfl rfl).mono ?_
  rintro e w6 ⟨rfl, b6⟩
  have T6 := hid (T5.out.below b6)
  have P6 := hid (P5.out.below b6 P5.out.lt)
  clear b6
  first | refine hK.out _ _ (by exact (pcas P6.out)) (fun hHeld => ?_) | (go_wp2_with fail; refine hK.out _ _ (by exact (pcas P6.out)) (fun hHeld => ?_))
  clear hK K
  try simp only [Act.put, List.setIfInBounds_toArray, List.set_cons_zero, List.set_cons_succ]
  refine wpAnyH_ready (rs := [5]) (by kernel_rfl) (by simp) ?_
  refine AllReadyH.cons (o := { dst := some 21, op := Go.Op.buildSlice 24 1 #[(0, Go.Operand.tmp 20)], type := 24, pos := "l16_cost.go:128", after := #[{ on := 4, ground := Go.Ground.data }], guard := none }) rfl (fun K hK => ?_) (AllReadyH.nil)
  go_simp
  have T7 := hid (T6.out.alloc (.cells #[.int .i64 (Q + q), .int .i64 (KK + R)] 40 (0, 0)))
  have N7 : Hid (CB (w6.alloc (.cells #[.int .i64 (Q + q), .int .i64 (KK + R)] 40 (0, 0))) w6.heap.size #[.int .i64 (Q + q), .int .i64 (KK + R)] 40) := hid (CB.new _ _)
  have P7 := hid (P6.out.alloc (.cells #[.int .i64 (Q + q), .int .i64 (KK + R)] 40 (0, 0)))
  first | refine hK.out _ _ (by exact (pcas P7.out)) (fun hHeld => ?_) | (go_wp2_with fail; refine hK.out _ _ (by exact (pcas P7.out)) (fun hHeld => ?_))
  clear hK K
  try simp only [Act.put, List.setIfInBounds_toArray, List.set_cons_zero, List.set_cons_succ]
  have hgs := T6.out.size
  obtain ⟨g, hg⟩ : ∃ g, w6.heap.size = g := ⟨_, rfl⟩
  rw [hg] at N7 hgs ⊢
  generalize w6.alloc (.cells #[.int .i64 (Q + q), .int .i64 (KK + R)] 40 (0, 0)) = w7 at T7 N7 P7 ⊢
  clear hg
  have hHeld := (pcas P7.out)
  refine wpAnyH_take (i := 6) (oi := { dst := some 22, op := Go.Op.fieldAddr 26 (Go.Operand.tmp 4) 2, type := 0, pos := "l16_cost.go:128", after := #[{ on := 0, ground := Go.Ground.phase }, { on := 1, ground := Go.Ground.phase }, { on := 2, ground := Go.Ground.phase }, { on := 3, ground := Go.Ground.phase }, { on := 4, ground := Go.Ground.phase }, { on := 5, ground := Go.Ground.phase }], guard := none }) (v := ?_) rfl (by kernel_rfl) (by kernel_rfl) (by kernel_rfl) (fun _ _ _ h => h) (Or.inl ⟨by rfl, ?_⟩) (by assumption) ?_
  rotate_left
  · (intro w hSw; (try dsimp only at hSw); go_simp <;> try with_reducible rfl)
  try simp only [Act.put, List.setIfInBounds_toArray, List.set_cons_zero, List.set_cons_succ]
  have x2 : w7.cell? ⟨w.heap.size + 1, 2, none⟩ = some (.slice ad n cap) := T7.out.bx.cell 2
  have f2 := T7.out.bx.fr 2
  refine wpAnyH_ready (rs := [7]) (by kernel_rfl) (by simp) ?_
  refine AllReadyH.cons (o := { dst := none, op := Go.Op.store 24 (Go.Operand.tmp 22) (Go.Operand.tmp 21), type := 0, pos := "l16_cost.go:128", after := #[{ on := 6, ground := Go.Ground.data }, { on := 5, ground := Go.Ground.data }, { on := 4, ground := Go.Ground.chain }, { on := 0, ground := Go.Ground.phase }, { on := 1, ground := Go.Ground.phase }, { on := 2, ground := Go.Ground.phase }, { on := 3, ground := Go.Ground.phase }, { on := 4, ground := Go.Ground.phase }, { on := 5, ground := Go.Ground.phase }], guard := none }) rfl (fun K hK => ?_) (AllReadyH.nil)
  go_simp
  have TA := hid (T7.out.put2 (.slice (some ⟨g, 0, none⟩) 1 1))
  have NA := hid (N7.out.other (c := w.heap.size + 1) (o := 2) (.slice (some ⟨g, 0, none⟩) 1 1) (by omega))
  have PA := hid (P7.out.other (c := w.heap.size + 1) (o := 2) (.slice (some ⟨g, 0, none⟩) 1 1) (by omega))
  refine hK.out _ _ (by exact (pcas PA.out)) (fun hHeld => ?_)
  clear hK K x2 f2
  try simp only [Act.put, List.setIfInBounds_toArray, List.set_cons_zero, List.set_cons_succ]
  refine wpAnyH_done (by kernel_rfl) ?_ _
  refine NoPanic.normal ?_
  clear hHeld
  generalize w7.setCell ⟨w.heap.size + 1, 2, none⟩ (.slice (some ⟨g, 0, none⟩) 1 1) = wA at TA NA PA ⊢
  have y0 : wA.cell? ⟨w.heap.size + 1, 3, none⟩ = some (.int .i64 off) := TA.out.bx.cell 3
  have y1 : wA.cell? ⟨w.heap.size + 1 + 1, 1, none⟩ = some (.int .i64 k) := TA.out.ca.cell 1
  have y2 : wA.cell? ⟨w.heap.size + 1 + 1 + 1 + 1, 1, none⟩ = some (.int .i64 R) := PA.out.cell 1
  have f3 := TA.out.bx.fr 3
  have TB3 := hid (TA.out.put3 (off + (k - R)))
  have NB := hid (NA.out.other (c := w.heap.size + 1) (o := 3) (.int .i64 (off + (k - R))) (by omega))
  have HTB := TB3
  clear TB3
  have y0 : (wA.setCell ⟨w.heap.size + 1, 3, none⟩ (.int .i64 (off + (k - R)))).cell? ⟨w.heap.size + 1, 0, none⟩ = some (.int .i64 m) := HTB.out.bx.cell 0
  have y1 : (wA.setCell ⟨w.heap.size + 1, 3, none⟩ (.int .i64 (off + (k - R)))).cell? ⟨w.heap.size + 1, 1, none⟩ = some (.int .i64 p) := HTB.out.bx.cell 1
  have y2 : (wA.setCell ⟨w.heap.size + 1, 3, none⟩ (.int .i64 (off + (k - R)))).cell? ⟨w.heap.size + 1, 2, none⟩ = some (.slice (some ⟨g, 0, none⟩) 1 1) := HTB.out.bx.cell 2
  have y3 : (wA.setCell ⟨w.heap.size + 1, 3, none⟩ (.int .i64 (off + (k - R)))).cell? ⟨w.heap.size + 1, 3, none⟩ = some (.int .i64 (off + (k - R))) := HTB.out.bx.cell 3
  have x0 : (wA.setCell ⟨w.heap.size + 1, 3, none⟩ (.int .i64 (off + (k - R)))).cell? ⟨w.heap.size + 1 + 1 + 1, 0, none⟩ = some (.int .i64 0) := HTB.out.rs.cell 0
  have x1 : (wA.setCell ⟨w.heap.size + 1, 3, none⟩ (.int .i64 (off + (k - R)))).cell? ⟨w.heap.size + 1 + 1 + 1, 1, none⟩ = some (.int .i64 0) := HTB.out.rs.cell 1
  have x2 : (wA.setCell ⟨w.heap.size + 1, 3, none⟩ (.int .i64 (off + (k - R)))).cell? ⟨w.heap.size + 1 + 1 + 1, 2, none⟩ = some (.slice none 0 0) := HTB.out.rs.cell 2
  have x3 : (wA.setCell ⟨w.heap.size + 1, 3, none⟩ (.int .i64 (off + (k - R)))).cell? ⟨w.heap.size + 1 + 1 + 1, 3, none⟩ = some (.int .i64 0) := HTB.out.rs.cell 3
  have f0 := HTB.out.rs.fr 0
  have f1 := HTB.out.rs.fr 1
  have f2 := HTB.out.rs.fr 2
  have f3 := HTB.out.rs.fr 3
  go_wp2
  clear y0 y1 y2 y3 x0 x1 x2 x3 f0 f1 f2 f3
  generalize wA.setCell ⟨w.heap.size + 1, 3, none⟩ (.int .i64 (off + (k - R))) = wB at HTB NB ⊢
  have ZC : CB ((((wB.setCell ⟨w.heap.size + 1 + 1 + 1, 0, none⟩ (.int .i64 m)).setCell ⟨w.heap.size + 1 + 1 + 1, 1, none⟩ (.int .i64 p)).setCell ⟨w.heap.size + 1 + 1 + 1, 2, none⟩ (.slice (some ⟨g, 0, none⟩) 1 1)).setCell ⟨w.heap.size + 1 + 1 + 1, 3, none⟩ (.int .i64 (off + (k - R)))) (w.heap.size + 1 + 1 + 1) #[.int .i64 m, .int .i64 p, .slice (some ⟨g, 0, none⟩) 1 1, .int .i64 (off + (k - R))] 26 := by simpa using ((((HTB.out.rs.set 0 (.int .i64 m)).set 1 (.int .i64 p)).set 2 (.slice (some ⟨g, 0, none⟩) 1 1)).set 3 (.int .i64 (off + (k - R))))
  have ZB : Below w.heap.size w ((((wB.setCell ⟨w.heap.size + 1 + 1 + 1, 0, none⟩ (.int .i64 m)).setCell ⟨w.heap.size + 1 + 1 + 1, 1, none⟩ (.int .i64 p)).setCell ⟨w.heap.size + 1 + 1 + 1, 2, none⟩ (.slice (some ⟨g, 0, none⟩) 1 1)).setCell ⟨w.heap.size + 1 + 1 + 1, 3, none⟩ (.int .i64 (off + (k - R)))) := ((((HTB.out.bl.setCell (by simp <;> omega) _).setCell (by simp <;> omega) _).setCell (by simp <;> omega) _).setCell (by simp <;> omega) _)
  have ZO : OwnLA2 ((((wB.setCell ⟨w.heap.size + 1 + 1 + 1, 0, none⟩ (.int .i64 m)).setCell ⟨w.heap.size + 1 + 1 + 1, 1, none⟩ (.int .i64 p)).setCell ⟨w.heap.size + 1 + 1 + 1, 2, none⟩ (.slice (some ⟨g, 0, none⟩) 1 1)).setCell ⟨w.heap.size + 1 + 1 + 1, 3, none⟩ (.int .i64 (off + (k - R)))) w.heap.size (some ⟨g, 0, none⟩) 1 (fun _ => ⟨Q + q, KK + R⟩) := ((ownOne (w := wB) (lo := w.heap.size + 4) NB.out hgs).keep (fun g hg => by cases hg; exact keep4 (by omega))).mono (by omega)
  generalize ((((wB.setCell ⟨w.heap.size + 1 + 1 + 1, 0, none⟩ (.int .i64 m)).setCell ⟨w.heap.size + 1 + 1 + 1, 1, none⟩ (.int .i64 p)).setCell ⟨w.heap.size + 1 + 1 + 1, 2, none⟩ (.slice (some ⟨g, 0, none⟩) 1 1)).setCell ⟨w.heap.size + 1 + 1 + 1, 3, none⟩ (.int .i64 (off + (k - R)))) = Z at ZC ZB ZO ⊢
  have z0 : Z.cell? ⟨w.heap.size + 1 + 1 + 1, 0, none⟩ = some (.int .i64 m) := ZC.cell 0
  have z1 : Z.cell? ⟨w.heap.size + 1 + 1 + 1, 1, none⟩ = some (.int .i64 p) := ZC.cell 1
  have z2 : Z.cell? ⟨w.heap.size + 1 + 1 + 1, 2, none⟩ = some (.slice (some ⟨g, 0, none⟩) 1 1) := ZC.cell 2
  have z3 : Z.cell? ⟨w.heap.size + 1 + 1 + 1, 3, none⟩ = some (.int .i64 (off + (k - R))) := ZC.cell 3
  refine bodyPost_ret (v := .agg #[.int .i64 m, .int .i64 p, .slice (some ⟨g, 0, none⟩) 1 1, .int .i64 (off + (k - R))]) (by simp [results, Try.results150, go_sem, z0, z1, z2, z3]; try rfl) rfl ?_
  exact ⟨_, _, rfl, ZO, ZB⟩

end Go.Proofs.Ytdgccdlaokbnhaa
