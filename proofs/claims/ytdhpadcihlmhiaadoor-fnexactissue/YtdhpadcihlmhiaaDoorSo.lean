/- A register copied: the program's, and the model's. -/
import Derived.Test.YtdhpadcihlmhiaaDoorSn
namespace Go.Proofs.YtdhpadcihlmhiaaDoor
open Go.ChangeShapes Go.WideShapes Go.ChangeAt Go.RowKit
set_option linter.unusedVariables false
set_option linter.unusedSimpArgs false

theorem oper_append {P : Program} {w : World} {o : Oper} {a : Act} {K : Act → World → Prop} {Q : Exit → Act → World → Prop} (s x : Operand) (t : TypeId)
    (ho : o.op = .call { callee := .builtin .append, args := #[s, x], argTypes := #[t, t] })
    (base : Nat) (e : TypeId) (i : TypeInfo) (z : Value) (size bytes : Nat) (ht : P.underlying t = some (.slice e)) (hi : P.info? e = some i) (hz : i.zero = some z)
    (hsize : i.size = size) (hby : i.bytes = bytes) (hzs : z.cells.size = size) (hsz : 0 < size)
    (v : Value) (n : Nat) (xs : List Value) (hs : a.eval s = v) (hown : w.ownsRow base e size v n xs)
    (ad : Addr) (m c : Nat) (news : List Value) (hx : a.eval x = .slice (some ad) m c) (hl : news.length = m * size) (hnews : ∀ j u, news[j]? = some u → w.cell? (ad.add j) = some u) (h1 : ∀ u ∈ news, u.oneCell' = true)
    (h63 : n + m ≤ maxLen) (hbytes : (n + m) * bytes ≤ 140737488355328) (hbase : base ≤ w.heap.size)
    (h : ∀ v' w', w'.ownsRow base e size v' (n + m) (xs ++ news) → w.grownBy w' v.ownBlock → (v'.ownBlock = v.ownBlock ∨ v'.ownBlock = some w.heap.size) → K (a.put o.dst v') w') :
    Oper.wp P o a w K Q := by
  obtain ⟨v', w', hr, h2, h3, h4, h5⟩ := run_append_own_at (P := P) w base t o.type e i z size bytes ht hi hz hsize hby hzs hsz v n xs hown ad m c news hl hnews h1 h63 hbytes hbase
  unfold Oper.wp execOp
  simp only [ho, resolve, invoke, builtin, Sem.run_bind, Sem.run_pure, Result.andThen_ok, List.map_toArray, List.map_cons, List.map_nil, hs, hx, hr]
  exact h v' w' h2 h3 h5


theorem ownsRow_keep {w w' : World} {base n s : Nat} {t : TypeId} {v : Value} {xs : List Value} (h : w.ownsRow base t s v n xs) (hb : ∀ g, base ≤ g → g < w.heap.size → w'.heap[g]? = w.heap[g]?) : w'.ownsRow base t s v n xs := by
  obtain ⟨hl, h2⟩ := h
  refine ⟨hl, ?_⟩
  rcases h2 with h | ⟨g, cap, cur, e, h0, hg, h3⟩
  · exact .inl h
  · exact .inr ⟨g, cap, cur, e, h0, by rw [hb g h0 (lt_of_block hg)]; exact hg, h3⟩
theorem ownsRow_put {w : World} {base n s : Nat} {t : TypeId} {v : Value} {xs : List Value} (h : w.ownsRow base t s v n xs) {b o : Nat} (u : Value) (hb : b < base) : (w.setCell ⟨b, o, none⟩ u).ownsRow base t s v n xs :=
  ownsRow_keep h fun g h0 _ => Below.heap_setCell _ _ _ _ (by show g ≠ b; omega)
theorem ownsRow_base {w : World} {base n s : Nat} {t : TypeId} {v : Value} {xs : List Value} (h : w.ownsRow base t s v n xs) {l : Nat} (hl : l ≤ base) : w.ownsRow l t s v n xs := by
  obtain ⟨h0, h2⟩ := h
  refine ⟨h0, ?_⟩
  rcases h2 with h | ⟨g, cap, cur, e, h1, h3⟩
  · exact .inl h
  · exact .inr ⟨g, cap, cur, e, Nat.le_trans hl h1, h3⟩
theorem row_form {w : World} {base n s : Nat} {t : TypeId} {v : Value} {xs : List Value} (h : w.ownsRow base t s v n xs) : ∃ ad cp, v = .slice ad n cp := by
  obtain ⟨h0, h2⟩ := h
  rcases h2 with ⟨e, e0⟩ | ⟨g, cap, cur, e, h1⟩
  · exact ⟨none, 0, by rw [e, e0]⟩
  · exact ⟨_, cap, e⟩
theorem CB_ne {w : World} {a b : Nat} {cs ds : Array Value} {t u : TypeId} (h1 : CB w a cs t) (h2 : CB w b ds u) (htu : t ≠ u) : a ≠ b := by
  rintro rfl
  unfold CB at h1 h2
  rw [h1] at h2
  simp only [Option.some.injEq, Obj.cells.injEq] at h2
  exact htu h2.2.1
theorem ownsRow_apart {w w' : World} {base n s : Nat} {t u : TypeId} {v : Value} {xs : List Value} (h : w.ownsRow base t s v n xs) {G : Nat} {cs : Array Value} (e : CB w G cs u) (htu : t ≠ u) (hgr : ∀ y, y < w.heap.size → y ≠ G → w'.heap[y]? = w.heap[y]?) : w'.ownsRow base t s v n xs := by
  obtain ⟨hl, h2⟩ := h
  refine ⟨hl, ?_⟩
  rcases h2 with h | ⟨g, cap, cur, e1, h0, hg, h3⟩
  · exact .inl h
  · exact .inr ⟨g, cap, cur, e1, h0, by rw [hgr g (lt_of_block hg) (CB_ne hg e htu)]; exact hg, h3⟩
theorem cell_two {W : World} {b c o1 o2 off : Nat} {v1 v2 : Value} (h : b ≠ c) : ((W.setCell ⟨c, o1, none⟩ v1).setCell ⟨c, o2, none⟩ v2).cell? ⟨b, off, none⟩ = W.cell? ⟨b, off, none⟩ := by
  rw [World.cell?_of_block (w := W.setCell ⟨c, o1, none⟩ v1) (Below.heap_setCell _ _ _ _ h), World.cell?_of_block (w := W) (Below.heap_setCell _ _ _ _ h)]
def CpP (len : Nat) (c : Nat → S2) (np : Nat) (p : Nat → P4) (w : World) (e : Ending) (w' : World) : Prop :=
  ∃ a2 c2 a3 c3, e = .returned (.agg #[.slice a2 len c2, .slice a3 np c3]) ∧ w'.ownsRow w.heap.size 75 2 (.slice a2 len c2) len (rowS2 c len) ∧ w'.ownsRow w.heap.size 32 4 (.slice a3 np c3) np (rowP4 p np) ∧ Below w.heap.size w w'
set_option maxRecDepth 20000 in
set_option maxHeartbeats 4000000 in
theorem copied_any (a b : Addr) (len cap : Nat) (c : Nat → S2) (np pcap : Nat) (p : Nat → P4) (w : World) (h : (len : Int) ≤ 1048576) (hn : (np : Int) ≤ 1048576) (hr : SRw w (some a) len c) (hp : PRw w (some b) np p) :
    Calls Tryd.prog 56 #[.agg #[.slice (some a) len cap, .slice (some b) np pcap]] w (CpP len c np p w) := by
  have HR : Hid (SRw w (some a) len c) := hr
  have HP : Hid (PRw w (some b) np p) := hp
  have hwa : Below w.heap.size w ((w.alloc (.cells #[.slice (some a) len cap, .slice (some b) np pcap] 27 (0, 0))).alloc (.cells #[.slice none 0 0, .slice none 0 0] 27 (0, 0))) := ((Below.refl _ _).alloc (Nat.le_refl _) _).alloc (by simp) _
  have c0 : CB ((w.alloc (.cells #[.slice (some a) len cap, .slice (some b) np pcap] 27 (0, 0))).alloc (.cells #[.slice none 0 0, .slice none 0 0] 27 (0, 0))) w.heap.size #[.slice (some a) len cap, .slice (some b) np pcap] 27 := (CB.new _ _).alloc _
  have c1 : CB ((w.alloc (.cells #[.slice (some a) len cap, .slice (some b) np pcap] 27 (0, 0))).alloc (.cells #[.slice none 0 0, .slice none 0 0] 27 (0, 0))) (w.heap.size + 1) #[.slice none 0 0, .slice none 0 0] 27 := CB.newAt (by simp) _ _
  have hwas : ((w.alloc (.cells #[.slice (some a) len cap, .slice (some b) np pcap] 27 (0, 0))).alloc (.cells #[.slice none 0 0, .slice none 0 0] 27 (0, 0))).heap.size = w.heap.size + 1 + 1 := by simp
  obtain ⟨iS, hi, hz0, hz1, hz2⟩ := infoS2
  obtain ⟨iP, gi, gz0, gz1, gz2⟩ := infoP4
  clear hr hp
  go_enter Tryd.func56, Tryd.ntmps56
  go_wp2
  generalize ((w.alloc (.cells #[.slice (some a) len cap, .slice (some b) np pcap] 27 (0, 0))).alloc (.cells #[.slice none 0 0, .slice none 0 0] 27 (0, 0))) = wa at hwa c0 c1 hwas ⊢
  have HWA := hid hwa
  have HC1 := hid c1
  have ka0 : wa.cell? ⟨w.heap.size, 0, none⟩ = some (.slice (some a) len cap) := (c0.cell 0).trans rfl
  have ka1 : wa.cell? ⟨w.heap.size, 1, none⟩ = some (.slice (some b) np pcap) := (c0.cell 1).trans rfl
  clear hwa c0 c1
  refine wp_region_noPanic ?_
  refine wp_region_held_drew (S := fun w' => w'.cell? ⟨w.heap.size, 0, none⟩ = some (.slice (some a) len cap) ∧ w'.cell? ⟨w.heap.size, 1, none⟩ = some (.slice (some b) np pcap)) (by kernel_rfl) (by exact ⟨ka0, ka1⟩) (fun hHeld => ?_)
  refine wpAnyH_take (i := 0) (oi := { dst := some 3, op := Go.Op.fieldAddr 27 (Go.Operand.tmp 1) 0, type := 0, pos := "l11_papers.go:158", after := #[], guard := none }) (v := ?_) rfl (by kernel_rfl) (by kernel_rfl) (by kernel_rfl) (fun _ _ _ h => h) (Or.inl ⟨by rfl, ?_⟩) (by assumption) ?_
  rotate_left
  · (intro w hSw; (try dsimp only at hSw); go_simp <;> try with_reducible rfl)
  try simp only [Act.put, List.setIfInBounds_toArray, List.set_cons_zero, List.set_cons_succ]
  refine wpAnyH_take (i := 1) (oi := { dst := some 4, op := Go.Op.load 24 (Go.Operand.tmp 3), type := 24, pos := "l11_papers.go:158", after := #[{ on := 0, ground := Go.Ground.data }], guard := none }) (v := ?_) rfl (by kernel_rfl) (by kernel_rfl) (by kernel_rfl) (fun _ _ _ h => h) (Or.inl ⟨by rfl, ?_⟩) (by assumption) ?_
  rotate_left
  · (intro w hSw; (try dsimp only at hSw); go_simp <;> try with_reducible rfl)
  try simp only [Act.put, List.setIfInBounds_toArray, List.set_cons_zero, List.set_cons_succ]
  refine wpAnyH_take (i := 3) (oi := { dst := some 6, op := Go.Op.fieldAddr 27 (Go.Operand.tmp 1) 1, type := 0, pos := "l11_papers.go:158", after := #[], guard := none }) (v := ?_) rfl (by kernel_rfl) (by kernel_rfl) (by kernel_rfl) (fun _ _ _ h => h) (Or.inl ⟨by rfl, ?_⟩) (by assumption) ?_
  rotate_left
  · (intro w hSw; (try dsimp only at hSw); go_simp <;> try with_reducible rfl)
  try simp only [Act.put, List.setIfInBounds_toArray, List.set_cons_zero, List.set_cons_succ]
  refine wpAnyH_take (i := 4) (oi := { dst := some 7, op := Go.Op.load 25 (Go.Operand.tmp 6), type := 25, pos := "l11_papers.go:158", after := #[{ on := 3, ground := Go.Ground.data }], guard := none }) (v := ?_) rfl (by kernel_rfl) (by kernel_rfl) (by kernel_rfl) (fun _ _ _ h => h) (Or.inl ⟨by rfl, ?_⟩) (by assumption) ?_
  rotate_left
  · (intro w hSw; (try dsimp only at hSw); go_simp <;> try with_reducible rfl)
  try simp only [Act.put, List.setIfInBounds_toArray, List.set_cons_zero, List.set_cons_succ]
  have HBb : Hid (Below wa.heap.size wa wa.drew) := (Below.refl _ _).drew
  have kb0 : wa.drew.cell? ⟨w.heap.size, 0, none⟩ = some (.slice (some a) len cap) := ka0
  have kb1 : wa.drew.cell? ⟨w.heap.size, 1, none⟩ = some (.slice (some b) np pcap) := ka1
  have hWb : wa.drew.heap.size = wa.heap.size := rfl
  generalize wa.drew = Wb at HBb kb0 kb1 hHeld hWb ⊢
  refine wpAnyH_ready (rs := [2]) (by kernel_rfl) (by simp) ?_
  refine AllReadyH.cons (o := { dst := some 5, op := Go.Op.call { callee := Go.Callee.value (Go.Operand.func 103), args := #[Go.Operand.tmp 4], argTypes := #[24] }, type := 24, pos := "l11_papers.go:158", after := #[{ on := 1, ground := Go.Ground.data }], guard := none }) rfl (fun K hK => ?_) (AllReadyH.nil)
  go_simp
  refine (cloneS2_any a len cap c _ h (HR.out.below (HWA.out.trans (HBb.out.mono HWA.out.size)))).mono ?_
  rintro e Wc ⟨v2, rfl, o2, b2⟩
  obtain ⟨a2, c2, rfl⟩ := row_form o2
  have kc0 := keep_cell b2 kb0
  have kc1 := keep_cell b2 kb1
  have HBc : Hid (Below wa.heap.size wa Wc) := (HBb.out).trans (b2.mono HBb.out.size)
  first | refine hK.out _ _ (by exact ⟨kc0, kc1⟩) (fun hHeld => ?_) | (go_wp2_with fail; refine hK.out _ _ (by exact ⟨kc0, kc1⟩) (fun hHeld => ?_))
  clear hK K
  try simp only [Act.put, List.setIfInBounds_toArray, List.set_cons_zero, List.set_cons_succ]
  refine wpAnyH_ready (rs := [5]) (by kernel_rfl) (by simp) ?_
  refine AllReadyH.cons (o := { dst := some 8, op := Go.Op.call { callee := Go.Callee.value (Go.Operand.func 104), args := #[Go.Operand.tmp 7], argTypes := #[25] }, type := 25, pos := "l11_papers.go:158", after := #[{ on := 4, ground := Go.Ground.data }, { on := 2, ground := Go.Ground.chain }], guard := none }) rfl (fun K hK => ?_) (AllReadyH.nil)
  go_simp
  refine (cloneP4_any b np pcap p _ hn (HP.out.below (HWA.out.trans (HBc.out.mono HWA.out.size)))).mono ?_
  rintro e Wd ⟨v3, rfl, o3, b3⟩
  obtain ⟨a3, c3, rfl⟩ := row_form o3
  have kd0 := keep_cell b3 kc0
  have kd1 := keep_cell b3 kc1
  have HBd : Hid (Below wa.heap.size wa Wd) := (HBc.out).trans (b3.mono HBc.out.size)
  have O2 := hid (ownsRow_base (ownsRow_below o2 b3) (by rw [hWb]; exact Nat.le_refl _ : wa.heap.size ≤ Wb.heap.size))
  have O3 := hid (ownsRow_base o3 HBc.out.size)
  clear o2 o3 b2 b3
  first | refine hK.out _ _ (by exact ⟨kd0, kd1⟩) (fun hHeld => ?_) | (go_wp2_with fail; refine hK.out _ _ (by exact ⟨kd0, kd1⟩) (fun hHeld => ?_))
  clear hK K
  try simp only [Act.put, List.setIfInBounds_toArray, List.set_cons_zero, List.set_cons_succ]
  have Cd : CB Wd (w.heap.size + 1) #[.slice none 0 0, .slice none 0 0] 27 := HC1.out.below HBd.out (by rw [hwas]; omega)
  have j0 : Wd.cell? ⟨w.heap.size + 1, 0, none⟩ = some (.slice none 0 0) := (Cd.cell 0).trans rfl
  have j1 : Wd.cell? ⟨w.heap.size + 1, 1, none⟩ = some (.slice none 0 0) := (Cd.cell 1).trans rfl
  have f0 := Cd.fr 0
  have f1 := Cd.fr 1
  refine wpAnyH_take (i := 6) (oi := { dst := some 9, op := Go.Op.build 27 #[(0, Go.Operand.tmp 5), (1, Go.Operand.tmp 8)], type := 27, pos := "l11_papers.go:158", after := #[{ on := 2, ground := Go.Ground.data }, { on := 5, ground := Go.Ground.data }], guard := none }) (v := ?_) rfl (by kernel_rfl) (by kernel_rfl) (by kernel_rfl) (fun _ _ _ h => h) (Or.inl ⟨by rfl, ?_⟩) (by assumption) ?_
  rotate_left
  · (intro w hSw; (try dsimp only at hSw); go_simp <;> try with_reducible rfl)
  try simp only [Act.put, List.setIfInBounds_toArray, List.set_cons_zero, List.set_cons_succ]
  refine wpAnyH_ready (rs := [7]) (by kernel_rfl) (by simp) ?_
  refine AllReadyH.cons (o := { dst := none, op := Go.Op.store 27 (Go.Operand.tmp 2) (Go.Operand.tmp 9), type := 0, pos := "l11_papers.go:158", after := #[{ on := 6, ground := Go.Ground.data }, { on := 5, ground := Go.Ground.chain }, { on := 0, ground := Go.Ground.phase }, { on := 1, ground := Go.Ground.phase }, { on := 2, ground := Go.Ground.phase }, { on := 3, ground := Go.Ground.phase }, { on := 4, ground := Go.Ground.phase }, { on := 5, ground := Go.Ground.phase }, { on := 6, ground := Go.Ground.phase }], guard := none }) rfl (fun K hK => ?_) (AllReadyH.nil)
  go_simp
  first | refine hK.out _ _ ?_ (fun hHeld => ?_) | (go_wp2_with fail; refine hK.out _ _ ?_ (fun hHeld => ?_))
  · exact ⟨(cell_two (by omega)).trans kd0, (cell_two (by omega)).trans kd1⟩
  clear hK K
  try simp only [Act.put, List.setIfInBounds_toArray, List.set_cons_zero, List.set_cons_succ]
  refine wpAnyH_done (by kernel_rfl) ?_ _
  clear hHeld
  (try refine NoPanic.normal ?_)
  have hX := (Cd.set 0 (.slice a2 len c2)).set 1 (.slice a3 np c3)
  have hO2 := ownsRow_put (ownsRow_put O2.out (b := w.heap.size + 1) (o := 0) (.slice a2 len c2) (by rw [hwas]; omega)) (b := w.heap.size + 1) (o := 1) (.slice a3 np c3) (by rw [hwas]; omega)
  have hO3 := ownsRow_put (ownsRow_put O3.out (b := w.heap.size + 1) (o := 0) (.slice a2 len c2) (by rw [hwas]; omega)) (b := w.heap.size + 1) (o := 1) (.slice a3 np c3) (by rw [hwas]; omega)
  have hZ := ((HWA.out.trans (HBd.out.mono HWA.out.size)).setCell (p := ⟨w.heap.size + 1, 0, none⟩) (by simp) (.slice a2 len c2)).setCell (p := ⟨w.heap.size + 1, 1, none⟩) (by simp) (.slice a3 np c3)
  have e0 := hX.cell 0
  have e1 := hX.cell 1
  simp at e0 e1
  clear hX j0 j1 f0 f1 Cd
  generalize (World.setCell _ _ _) = W9 at e0 e1 hO2 hO3 hZ ⊢
  go_wp2
  refine bodyPost_ret (by simp [results, Tryd.results56, go_sem, e0, e1]; try rfl) rfl ?_
  exact ⟨a2, c2, a3, c3, rfl, ownsRow_base hO2 (by rw [hwas]; omega), ownsRow_base hO3 (by rw [hwas]; omega), hZ⟩
set_option maxRecDepth 20000 in
set_option maxHeartbeats 4000000 in
theorem l11Reg_any (a b : Addr) (len cap : Nat) (c : Nat → S2) (np pcap : Nat) (p : Nat → P4) (w : World) (h : (len : Int) ≤ 1048576) (hn : (np : Int) ≤ 1048576) (hr : SRw w (some a) len c) (hp : PRw w (some b) np p) :
    Calls Tryd.prog 58 #[.agg #[.slice (some a) len cap, .slice (some b) np pcap]] w (CpP len c np p w) := by
  have HR : Hid (SRw w (some a) len c) := hr
  have HP : Hid (PRw w (some b) np p) := hp
  have hwa : Below w.heap.size w ((w.alloc (.cells #[.slice (some a) len cap, .slice (some b) np pcap] 27 (0, 0))).alloc (.cells #[.slice none 0 0, .slice none 0 0] 27 (0, 0))) := ((Below.refl _ _).alloc (Nat.le_refl _) _).alloc (by simp) _
  have c0 : CB ((w.alloc (.cells #[.slice (some a) len cap, .slice (some b) np pcap] 27 (0, 0))).alloc (.cells #[.slice none 0 0, .slice none 0 0] 27 (0, 0))) w.heap.size #[.slice (some a) len cap, .slice (some b) np pcap] 27 := (CB.new _ _).alloc _
  have c1 : CB ((w.alloc (.cells #[.slice (some a) len cap, .slice (some b) np pcap] 27 (0, 0))).alloc (.cells #[.slice none 0 0, .slice none 0 0] 27 (0, 0))) (w.heap.size + 1) #[.slice none 0 0, .slice none 0 0] 27 := CB.newAt (by simp) _ _
  have hwas : ((w.alloc (.cells #[.slice (some a) len cap, .slice (some b) np pcap] 27 (0, 0))).alloc (.cells #[.slice none 0 0, .slice none 0 0] 27 (0, 0))).heap.size = w.heap.size + 1 + 1 := by simp
  obtain ⟨iS, hi, hz0, hz1, hz2⟩ := infoS2
  obtain ⟨iP, gi, gz0, gz1, gz2⟩ := infoP4
  clear hr hp
  go_enter Tryd.func58, Tryd.ntmps58
  go_wp2
  generalize ((w.alloc (.cells #[.slice (some a) len cap, .slice (some b) np pcap] 27 (0, 0))).alloc (.cells #[.slice none 0 0, .slice none 0 0] 27 (0, 0))) = wa at hwa c0 c1 hwas ⊢
  have HWA := hid hwa
  have HC1 := hid c1
  have ka0 : wa.cell? ⟨w.heap.size, 0, none⟩ = some (.slice (some a) len cap) := (c0.cell 0).trans rfl
  have ka1 : wa.cell? ⟨w.heap.size, 1, none⟩ = some (.slice (some b) np pcap) := (c0.cell 1).trans rfl
  clear hwa c0 c1
  refine wp_region_noPanic ?_
  refine wp_region_held_drew (S := fun w' => w'.cell? ⟨w.heap.size, 0, none⟩ = some (.slice (some a) len cap) ∧ w'.cell? ⟨w.heap.size, 1, none⟩ = some (.slice (some b) np pcap)) (by kernel_rfl) (by exact ⟨ka0, ka1⟩) (fun hHeld => ?_)
  refine wpAnyH_take (i := 1) (oi := { dst := some 4, op := Go.Op.fieldAddr 27 (Go.Operand.tmp 1) 0, type := 0, pos := "l11_papers.go:40", after := #[], guard := none }) (v := ?_) rfl (by kernel_rfl) (by kernel_rfl) (by kernel_rfl) (fun _ _ _ h => h) (Or.inl ⟨by rfl, ?_⟩) (by assumption) ?_
  rotate_left
  · (intro w hSw; (try dsimp only at hSw); go_simp <;> try with_reducible rfl)
  try simp only [Act.put, List.setIfInBounds_toArray, List.set_cons_zero, List.set_cons_succ]
  refine wpAnyH_take (i := 2) (oi := { dst := some 5, op := Go.Op.load 24 (Go.Operand.tmp 4), type := 24, pos := "l11_papers.go:40", after := #[{ on := 1, ground := Go.Ground.data }], guard := none }) (v := ?_) rfl (by kernel_rfl) (by kernel_rfl) (by kernel_rfl) (fun _ _ _ h => h) (Or.inl ⟨by rfl, ?_⟩) (by assumption) ?_
  rotate_left
  · (intro w hSw; (try dsimp only at hSw); go_simp <;> try with_reducible rfl)
  try simp only [Act.put, List.setIfInBounds_toArray, List.set_cons_zero, List.set_cons_succ]
  refine wpAnyH_take (i := 5) (oi := { dst := some 8, op := Go.Op.fieldAddr 27 (Go.Operand.tmp 1) 1, type := 0, pos := "l11_papers.go:40", after := #[], guard := none }) (v := ?_) rfl (by kernel_rfl) (by kernel_rfl) (by kernel_rfl) (fun _ _ _ h => h) (Or.inl ⟨by rfl, ?_⟩) (by assumption) ?_
  rotate_left
  · (intro w hSw; (try dsimp only at hSw); go_simp <;> try with_reducible rfl)
  try simp only [Act.put, List.setIfInBounds_toArray, List.set_cons_zero, List.set_cons_succ]
  refine wpAnyH_take (i := 6) (oi := { dst := some 9, op := Go.Op.load 25 (Go.Operand.tmp 8), type := 25, pos := "l11_papers.go:40", after := #[{ on := 5, ground := Go.Ground.data }], guard := none }) (v := ?_) rfl (by kernel_rfl) (by kernel_rfl) (by kernel_rfl) (fun _ _ _ h => h) (Or.inl ⟨by rfl, ?_⟩) (by assumption) ?_
  rotate_left
  · (intro w hSw; (try dsimp only at hSw); go_simp <;> try with_reducible rfl)
  try simp only [Act.put, List.setIfInBounds_toArray, List.set_cons_zero, List.set_cons_succ]
  have HBb : Hid (Below wa.heap.size wa wa.drew) := (Below.refl _ _).drew
  have kb0 : wa.drew.cell? ⟨w.heap.size, 0, none⟩ = some (.slice (some a) len cap) := ka0
  have kb1 : wa.drew.cell? ⟨w.heap.size, 1, none⟩ = some (.slice (some b) np pcap) := ka1
  generalize wa.drew = Wb at HBb kb0 kb1 hHeld ⊢
  refine wpAnyH_ready (rs := [0, 4]) (by kernel_rfl) (by simp) ?_
  refine AllReadyH.cons (o := { dst := some 3, op := Go.Op.buildSlice 24 0 #[], type := 24, pos := "l11_papers.go:40", after := #[], guard := none }) rfl (fun K hK => ?_) (AllReadyH.cons (o := { dst := some 7, op := Go.Op.buildSlice 25 0 #[], type := 25, pos := "l11_papers.go:40", after := #[], guard := none }) rfl (fun K hK => ?_) (AllReadyH.nil))
  · go_simp
    have bb : Below Wb.heap.size Wb (Wb.alloc (.cells #[] 75 (0, 0))) := (Below.refl _ _).alloc (Nat.le_refl _) _
    have kn10 := keep_cell bb kb0
    have kn11 := keep_cell bb kb1
    have HBn1 : Hid (Below wa.heap.size wa (Wb.alloc (.cells #[] 75 (0, 0)))) := (HBb.out).trans (bb.mono HBb.out.size)
    have E0n1 : Hid (CB (Wb.alloc (.cells #[] 75 (0, 0))) Wb.heap.size #[] 75) := CB.new _ _
    have hg0n1 : wa.heap.size ≤ Wb.heap.size := HBb.out.size
    clear bb
    first | refine hK.out _ _ (by exact ⟨kn10, kn11⟩) (fun hHeld => ?_) | (go_wp2_with fail; refine hK.out _ _ (by exact ⟨kn10, kn11⟩) (fun hHeld => ?_))
    clear hK K
    try simp only [Act.put, List.setIfInBounds_toArray, List.set_cons_zero, List.set_cons_succ]
    generalize (Wb.alloc (.cells #[] 75 (0, 0))) = Wn1 at kn10 kn11 HBn1 hHeld E0n1 ⊢
    generalize Wb.heap.size = G0 at E0n1 hg0n1 ⊢
    refine wpAnyH_ready (rs := [3, 4]) (by kernel_rfl) (by simp) ?_
    refine AllReadyH.cons (o := { dst := some 6, op := Go.Op.call { callee := Go.Callee.builtin Go.Builtin.append, args := #[Go.Operand.tmp 3, Go.Operand.tmp 5], argTypes := #[24, 24] }, type := 24, pos := "l11_papers.go:40", after := #[{ on := 0, ground := Go.Ground.data }, { on := 2, ground := Go.Ground.data }], guard := none }) rfl (fun K hK => ?_) (AllReadyH.cons (o := { dst := some 7, op := Go.Op.buildSlice 25 0 #[], type := 25, pos := "l11_papers.go:40", after := #[], guard := none }) rfl (fun K hK => ?_) (AllReadyH.nil))
    · rw [if_pos (by rfl)]
      refine oper_append (Operand.tmp 3) (Operand.tmp 5) 24 rfl wa.heap.size 75 iS (.agg #[.string ByteArray.empty, .int .i64 0]) 2 24 Tryd.underlying24 hi hz0 hz1 hz2 rfl (by decide) (.slice (some ⟨G0, 0, none⟩) 0 0) 0 [] rfl (madeS2 E0n1.out hg0n1) a len cap (rowS2 c len) rfl (rowS2_len c len) (rowS2_src (HR.out.below (HWA.out.trans (HBn1.out.mono HWA.out.size)))) (rowS2_one c len) (by unfold maxLen; omega) (by omega) HBn1.out.size ?_
      intro v2 Wn2 hown hgrow _
      rw [Nat.zero_add, List.nil_append] at hown
      obtain ⟨a2, c2, rfl⟩ := row_form hown
      have HBn2 : Hid (Below wa.heap.size wa Wn2) := HBn1.out.grown hgrow HBn1.out.size (fun g e => by simp [Value.ownBlock] at e; omega)
      have hgr : ∀ y, y < Wn1.heap.size → y ≠ G0 → Wn2.heap[y]? = Wn1.heap[y]? := fun y hy hne => hgrow.block y hy (by simp [Value.ownBlock]; omega)
      have kn20 := keep_cell (HBn2.out.mono (Nat.le_refl _)) ka0
      have kn21 := keep_cell (HBn2.out.mono (Nat.le_refl _)) ka1
      have O2 := hid hown
      clear hown hgrow
      first | refine hK.out _ _ (by exact ⟨kn20, kn21⟩) (fun hHeld => ?_) | (go_wp2_with fail; refine hK.out _ _ (by exact ⟨kn20, kn21⟩) (fun hHeld => ?_))
      clear hK K
      try simp only [Act.put, List.setIfInBounds_toArray, List.set_cons_zero, List.set_cons_succ]
      refine wpAnyH_ready (rs := [4]) (by kernel_rfl) (by simp) ?_
      refine AllReadyH.cons (o := { dst := some 7, op := Go.Op.buildSlice 25 0 #[], type := 25, pos := "l11_papers.go:40", after := #[], guard := none }) rfl (fun K hK => ?_) (AllReadyH.nil)
      go_simp
      have bb : Below Wn2.heap.size Wn2 (Wn2.alloc (.cells #[] 32 (0, 0))) := (Below.refl _ _).alloc (Nat.le_refl _) _
      have kn30 := keep_cell bb kn20
      have kn31 := keep_cell bb kn21
      have HBn3 : Hid (Below wa.heap.size wa (Wn2.alloc (.cells #[] 32 (0, 0)))) := (HBn2.out).trans (bb.mono HBn2.out.size)
      have E4n3 : Hid (CB (Wn2.alloc (.cells #[] 32 (0, 0))) Wn2.heap.size #[] 32) := CB.new _ _
      have hg4n3 : wa.heap.size ≤ Wn2.heap.size := HBn2.out.size
      have O2 := hid (ownsRow_below O2.out bb)
      clear bb
      first | refine hK.out _ _ (by exact ⟨kn30, kn31⟩) (fun hHeld => ?_) | (go_wp2_with fail; refine hK.out _ _ (by exact ⟨kn30, kn31⟩) (fun hHeld => ?_))
      clear hK K
      try simp only [Act.put, List.setIfInBounds_toArray, List.set_cons_zero, List.set_cons_succ]
      generalize (Wn2.alloc (.cells #[] 32 (0, 0))) = Wn3 at kn30 kn31 HBn3 hHeld E4n3 O2 ⊢
      generalize Wn2.heap.size = G4 at E4n3 hg4n3 ⊢
      refine wpAnyH_ready (rs := [7]) (by kernel_rfl) (by simp) ?_
      refine AllReadyH.cons (o := { dst := some 10, op := Go.Op.call { callee := Go.Callee.builtin Go.Builtin.append, args := #[Go.Operand.tmp 7, Go.Operand.tmp 9], argTypes := #[25, 25] }, type := 25, pos := "l11_papers.go:40", after := #[{ on := 4, ground := Go.Ground.data }, { on := 6, ground := Go.Ground.data }, { on := 3, ground := Go.Ground.chain }], guard := none }) rfl (fun K hK => ?_) (AllReadyH.nil)
      rw [if_pos (by rfl)]
      refine oper_append (Operand.tmp 7) (Operand.tmp 9) 25 rfl wa.heap.size 32 iP (.agg #[.int .i64 0, .int .i64 0, .int .i64 0, .bool false]) 4 32 Tryd.underlying25 gi gz0 gz1 gz2 rfl (by decide) (.slice (some ⟨G4, 0, none⟩) 0 0) 0 [] rfl (madeP4 E4n3.out hg4n3) b np pcap (rowP4 p np) rfl (rowP4_len p np) (rowP4_src (HP.out.below (HWA.out.trans (HBn3.out.mono HWA.out.size)))) (rowP4_one p np) (by unfold maxLen; omega) (by omega) HBn3.out.size ?_
      intro v3 Wn4 hown hgrow _
      rw [Nat.zero_add, List.nil_append] at hown
      obtain ⟨a3, c3, rfl⟩ := row_form hown
      have HBn4 : Hid (Below wa.heap.size wa Wn4) := HBn3.out.grown hgrow HBn3.out.size (fun g e => by simp [Value.ownBlock] at e; omega)
      have hgr : ∀ y, y < Wn3.heap.size → y ≠ G4 → Wn4.heap[y]? = Wn3.heap[y]? := fun y hy hne => hgrow.block y hy (by simp [Value.ownBlock]; omega)
      have kn40 := keep_cell (HBn4.out.mono (Nat.le_refl _)) ka0
      have kn41 := keep_cell (HBn4.out.mono (Nat.le_refl _)) ka1
      have O2 := hid (ownsRow_apart O2.out E4n3.out (by decide) hgr)
      have O3 := hid hown
      clear hown hgrow
      first | refine hK.out _ _ (by exact ⟨kn40, kn41⟩) (fun hHeld => ?_) | (go_wp2_with fail; refine hK.out _ _ (by exact ⟨kn40, kn41⟩) (fun hHeld => ?_))
      clear hK K
      try simp only [Act.put, List.setIfInBounds_toArray, List.set_cons_zero, List.set_cons_succ]
      have Cn4 : CB Wn4 (w.heap.size + 1) #[.slice none 0 0, .slice none 0 0] 27 := HC1.out.below HBn4.out (by rw [hwas]; omega)
      have j0 : Wn4.cell? ⟨w.heap.size + 1, 0, none⟩ = some (.slice none 0 0) := (Cn4.cell 0).trans rfl
      have j1 : Wn4.cell? ⟨w.heap.size + 1, 1, none⟩ = some (.slice none 0 0) := (Cn4.cell 1).trans rfl
      have f0 := Cn4.fr 0
      have f1 := Cn4.fr 1
      refine wpAnyH_take (i := 8) (oi := { dst := some 11, op := Go.Op.build 27 #[(0, Go.Operand.tmp 6), (1, Go.Operand.tmp 10)], type := 27, pos := "l11_papers.go:40", after := #[{ on := 3, ground := Go.Ground.data }, { on := 7, ground := Go.Ground.data }], guard := none }) (v := ?_) rfl (by kernel_rfl) (by kernel_rfl) (by kernel_rfl) (fun _ _ _ h => h) (Or.inl ⟨by rfl, ?_⟩) (by assumption) ?_
      rotate_left
      · (intro w hSw; (try dsimp only at hSw); go_simp <;> try with_reducible rfl)
      try simp only [Act.put, List.setIfInBounds_toArray, List.set_cons_zero, List.set_cons_succ]
      refine wpAnyH_ready (rs := [9]) (by kernel_rfl) (by simp) ?_
      refine AllReadyH.cons (o := { dst := none, op := Go.Op.store 27 (Go.Operand.tmp 2) (Go.Operand.tmp 11), type := 0, pos := "l11_papers.go:40", after := #[{ on := 8, ground := Go.Ground.data }, { on := 7, ground := Go.Ground.chain }, { on := 0, ground := Go.Ground.phase }, { on := 1, ground := Go.Ground.phase }, { on := 2, ground := Go.Ground.phase }, { on := 3, ground := Go.Ground.phase }, { on := 4, ground := Go.Ground.phase }, { on := 5, ground := Go.Ground.phase }, { on := 6, ground := Go.Ground.phase }, { on := 7, ground := Go.Ground.phase }, { on := 8, ground := Go.Ground.phase }], guard := none }) rfl (fun K hK => ?_) (AllReadyH.nil)
      go_simp
      first | refine hK.out _ _ ?_ (fun hHeld => ?_) | (go_wp2_with fail; refine hK.out _ _ ?_ (fun hHeld => ?_))
      · exact ⟨(cell_two (by omega)).trans kn40, (cell_two (by omega)).trans kn41⟩
      clear hK K
      try simp only [Act.put, List.setIfInBounds_toArray, List.set_cons_zero, List.set_cons_succ]
      refine wpAnyH_done (by kernel_rfl) ?_ _
      clear hHeld
      (try refine NoPanic.normal ?_)
      have hX := (Cn4.set 0 (.slice a2 len c2)).set 1 (.slice a3 np c3)
      have hO2 := ownsRow_put (ownsRow_put O2.out (b := w.heap.size + 1) (o := 0) (.slice a2 len c2) (by rw [hwas]; omega)) (b := w.heap.size + 1) (o := 1) (.slice a3 np c3) (by rw [hwas]; omega)
      have hO3 := ownsRow_put (ownsRow_put O3.out (b := w.heap.size + 1) (o := 0) (.slice a2 len c2) (by rw [hwas]; omega)) (b := w.heap.size + 1) (o := 1) (.slice a3 np c3) (by rw [hwas]; omega)
      have hZ := ((HWA.out.trans (HBn4.out.mono HWA.out.size)).setCell (p := ⟨w.heap.size + 1, 0, none⟩) (by simp) (.slice a2 len c2)).setCell (p := ⟨w.heap.size + 1, 1, none⟩) (by simp) (.slice a3 np c3)
      have e0 := hX.cell 0
      have e1 := hX.cell 1
      simp at e0 e1
      clear hX j0 j1 f0 f1 Cn4
      generalize (World.setCell _ _ _) = W9 at e0 e1 hO2 hO3 hZ ⊢
      go_wp2
      refine bodyPost_ret (by simp [results, Tryd.results58, go_sem, e0, e1]; try rfl) rfl ?_
      exact ⟨a2, c2, a3, c3, rfl, ownsRow_base hO2 (by rw [hwas]; omega), ownsRow_base hO3 (by rw [hwas]; omega), hZ⟩
    · go_simp
      have bb : Below Wn1.heap.size Wn1 (Wn1.alloc (.cells #[] 32 (0, 0))) := (Below.refl _ _).alloc (Nat.le_refl _) _
      have kn50 := keep_cell bb kn10
      have kn51 := keep_cell bb kn11
      have HBn5 : Hid (Below wa.heap.size wa (Wn1.alloc (.cells #[] 32 (0, 0)))) := (HBn1.out).trans (bb.mono HBn1.out.size)
      have E0n5 := hid (E0n1.out.below bb E0n1.out.lt)
      have hg0n5 : wa.heap.size ≤ G0 := hg0n1
      have E4n5 : Hid (CB (Wn1.alloc (.cells #[] 32 (0, 0))) Wn1.heap.size #[] 32) := CB.new _ _
      have hg4n5 : wa.heap.size ≤ Wn1.heap.size := HBn1.out.size
      clear bb
      first | refine hK.out _ _ (by exact ⟨kn50, kn51⟩) (fun hHeld => ?_) | (go_wp2_with fail; refine hK.out _ _ (by exact ⟨kn50, kn51⟩) (fun hHeld => ?_))
      clear hK K
      try simp only [Act.put, List.setIfInBounds_toArray, List.set_cons_zero, List.set_cons_succ]
      generalize (Wn1.alloc (.cells #[] 32 (0, 0))) = Wn5 at kn50 kn51 HBn5 hHeld E0n5 E4n5 ⊢
      generalize Wn1.heap.size = G4 at E4n5 hg4n5 ⊢
      refine wpAnyH_ready (rs := [3]) (by kernel_rfl) (by simp) ?_
      refine AllReadyH.cons (o := { dst := some 6, op := Go.Op.call { callee := Go.Callee.builtin Go.Builtin.append, args := #[Go.Operand.tmp 3, Go.Operand.tmp 5], argTypes := #[24, 24] }, type := 24, pos := "l11_papers.go:40", after := #[{ on := 0, ground := Go.Ground.data }, { on := 2, ground := Go.Ground.data }], guard := none }) rfl (fun K hK => ?_) (AllReadyH.nil)
      rw [if_pos (by rfl)]
      refine oper_append (Operand.tmp 3) (Operand.tmp 5) 24 rfl wa.heap.size 75 iS (.agg #[.string ByteArray.empty, .int .i64 0]) 2 24 Tryd.underlying24 hi hz0 hz1 hz2 rfl (by decide) (.slice (some ⟨G0, 0, none⟩) 0 0) 0 [] rfl (madeS2 E0n5.out hg0n5) a len cap (rowS2 c len) rfl (rowS2_len c len) (rowS2_src (HR.out.below (HWA.out.trans (HBn5.out.mono HWA.out.size)))) (rowS2_one c len) (by unfold maxLen; omega) (by omega) HBn5.out.size ?_
      intro v2 Wn6 hown hgrow _
      rw [Nat.zero_add, List.nil_append] at hown
      obtain ⟨a2, c2, rfl⟩ := row_form hown
      have HBn6 : Hid (Below wa.heap.size wa Wn6) := HBn5.out.grown hgrow HBn5.out.size (fun g e => by simp [Value.ownBlock] at e; omega)
      have hgr : ∀ y, y < Wn5.heap.size → y ≠ G0 → Wn6.heap[y]? = Wn5.heap[y]? := fun y hy hne => hgrow.block y hy (by simp [Value.ownBlock]; omega)
      have kn60 := keep_cell (HBn6.out.mono (Nat.le_refl _)) ka0
      have kn61 := keep_cell (HBn6.out.mono (Nat.le_refl _)) ka1
      have E4n6 := hid (E4n5.out.block (hgr G4 E4n5.out.lt (CB_ne E4n5.out E0n5.out (by decide))))
      have hg4n6 : wa.heap.size ≤ G4 := hg4n5
      have O2 := hid hown
      clear hown hgrow
      first | refine hK.out _ _ (by exact ⟨kn60, kn61⟩) (fun hHeld => ?_) | (go_wp2_with fail; refine hK.out _ _ (by exact ⟨kn60, kn61⟩) (fun hHeld => ?_))
      clear hK K
      try simp only [Act.put, List.setIfInBounds_toArray, List.set_cons_zero, List.set_cons_succ]
      refine wpAnyH_ready (rs := [7]) (by kernel_rfl) (by simp) ?_
      refine AllReadyH.cons (o := { dst := some 10, op := Go.Op.call { callee := Go.Callee.builtin Go.Builtin.append, args := #[Go.Operand.tmp 7, Go.Operand.tmp 9], argTypes := #[25, 25] }, type := 25, pos := "l11_papers.go:40", after := #[{ on := 4, ground := Go.Ground.data }, { on := 6, ground := Go.Ground.data }, { on := 3, ground := Go.Ground.chain }], guard := none }) rfl (fun K hK => ?_) (AllReadyH.nil)
      rw [if_pos (by rfl)]
      refine oper_append (Operand.tmp 7) (Operand.tmp 9) 25 rfl wa.heap.size 32 iP (.agg #[.int .i64 0, .int .i64 0, .int .i64 0, .bool false]) 4 32 Tryd.underlying25 gi gz0 gz1 gz2 rfl (by decide) (.slice (some ⟨G4, 0, none⟩) 0 0) 0 [] rfl (madeP4 E4n6.out hg4n6) b np pcap (rowP4 p np) rfl (rowP4_len p np) (rowP4_src (HP.out.below (HWA.out.trans (HBn6.out.mono HWA.out.size)))) (rowP4_one p np) (by unfold maxLen; omega) (by omega) HBn6.out.size ?_
      intro v3 Wn7 hown hgrow _
      rw [Nat.zero_add, List.nil_append] at hown
      obtain ⟨a3, c3, rfl⟩ := row_form hown
      have HBn7 : Hid (Below wa.heap.size wa Wn7) := HBn6.out.grown hgrow HBn6.out.size (fun g e => by simp [Value.ownBlock] at e; omega)
      have hgr : ∀ y, y < Wn6.heap.size → y ≠ G4 → Wn7.heap[y]? = Wn6.heap[y]? := fun y hy hne => hgrow.block y hy (by simp [Value.ownBlock]; omega)
      have kn70 := keep_cell (HBn7.out.mono (Nat.le_refl _)) ka0
      have kn71 := keep_cell (HBn7.out.mono (Nat.le_refl _)) ka1
      have O2 := hid (ownsRow_apart O2.out E4n6.out (by decide) hgr)
      have O3 := hid hown
      clear hown hgrow
      first | refine hK.out _ _ (by exact ⟨kn70, kn71⟩) (fun hHeld => ?_) | (go_wp2_with fail; refine hK.out _ _ (by exact ⟨kn70, kn71⟩) (fun hHeld => ?_))
      clear hK K
      try simp only [Act.put, List.setIfInBounds_toArray, List.set_cons_zero, List.set_cons_succ]
      have Cn7 : CB Wn7 (w.heap.size + 1) #[.slice none 0 0, .slice none 0 0] 27 := HC1.out.below HBn7.out (by rw [hwas]; omega)
      have j0 : Wn7.cell? ⟨w.heap.size + 1, 0, none⟩ = some (.slice none 0 0) := (Cn7.cell 0).trans rfl
      have j1 : Wn7.cell? ⟨w.heap.size + 1, 1, none⟩ = some (.slice none 0 0) := (Cn7.cell 1).trans rfl
      have f0 := Cn7.fr 0
      have f1 := Cn7.fr 1
      refine wpAnyH_take (i := 8) (oi := { dst := some 11, op := Go.Op.build 27 #[(0, Go.Operand.tmp 6), (1, Go.Operand.tmp 10)], type := 27, pos := "l11_papers.go:40", after := #[{ on := 3, ground := Go.Ground.data }, { on := 7, ground := Go.Ground.data }], guard := none }) (v := ?_) rfl (by kernel_rfl) (by kernel_rfl) (by kernel_rfl) (fun _ _ _ h => h) (Or.inl ⟨by rfl, ?_⟩) (by assumption) ?_
      rotate_left
      · (intro w hSw; (try dsimp only at hSw); go_simp <;> try with_reducible rfl)
      try simp only [Act.put, List.setIfInBounds_toArray, List.set_cons_zero, List.set_cons_succ]
      refine wpAnyH_ready (rs := [9]) (by kernel_rfl) (by simp) ?_
      refine AllReadyH.cons (o := { dst := none, op := Go.Op.store 27 (Go.Operand.tmp 2) (Go.Operand.tmp 11), type := 0, pos := "l11_papers.go:40", after := #[{ on := 8, ground := Go.Ground.data }, { on := 7, ground := Go.Ground.chain }, { on := 0, ground := Go.Ground.phase }, { on := 1, ground := Go.Ground.phase }, { on := 2, ground := Go.Ground.phase }, { on := 3, ground := Go.Ground.phase }, { on := 4, ground := Go.Ground.phase }, { on := 5, ground := Go.Ground.phase }, { on := 6, ground := Go.Ground.phase }, { on := 7, ground := Go.Ground.phase }, { on := 8, ground := Go.Ground.phase }], guard := none }) rfl (fun K hK => ?_) (AllReadyH.nil)
      go_simp
      first | refine hK.out _ _ ?_ (fun hHeld => ?_) | (go_wp2_with fail; refine hK.out _ _ ?_ (fun hHeld => ?_))
      · exact ⟨(cell_two (by omega)).trans kn70, (cell_two (by omega)).trans kn71⟩
      clear hK K
      try simp only [Act.put, List.setIfInBounds_toArray, List.set_cons_zero, List.set_cons_succ]
      refine wpAnyH_done (by kernel_rfl) ?_ _
      clear hHeld
      (try refine NoPanic.normal ?_)
      have hX := (Cn7.set 0 (.slice a2 len c2)).set 1 (.slice a3 np c3)
      have hO2 := ownsRow_put (ownsRow_put O2.out (b := w.heap.size + 1) (o := 0) (.slice a2 len c2) (by rw [hwas]; omega)) (b := w.heap.size + 1) (o := 1) (.slice a3 np c3) (by rw [hwas]; omega)
      have hO3 := ownsRow_put (ownsRow_put O3.out (b := w.heap.size + 1) (o := 0) (.slice a2 len c2) (by rw [hwas]; omega)) (b := w.heap.size + 1) (o := 1) (.slice a3 np c3) (by rw [hwas]; omega)
      have hZ := ((HWA.out.trans (HBn7.out.mono HWA.out.size)).setCell (p := ⟨w.heap.size + 1, 0, none⟩) (by simp) (.slice a2 len c2)).setCell (p := ⟨w.heap.size + 1, 1, none⟩) (by simp) (.slice a3 np c3)
      have e0 := hX.cell 0
      have e1 := hX.cell 1
      simp at e0 e1
      clear hX j0 j1 f0 f1 Cn7
      generalize (World.setCell _ _ _) = W9 at e0 e1 hO2 hO3 hZ ⊢
      go_wp2
      refine bodyPost_ret (by simp [results, Tryd.results58, go_sem, e0, e1]; try rfl) rfl ?_
      exact ⟨a2, c2, a3, c3, rfl, ownsRow_base hO2 (by rw [hwas]; omega), ownsRow_base hO3 (by rw [hwas]; omega), hZ⟩
  · go_simp
    have bb : Below Wb.heap.size Wb (Wb.alloc (.cells #[] 32 (0, 0))) := (Below.refl _ _).alloc (Nat.le_refl _) _
    have kn80 := keep_cell bb kb0
    have kn81 := keep_cell bb kb1
    have HBn8 : Hid (Below wa.heap.size wa (Wb.alloc (.cells #[] 32 (0, 0)))) := (HBb.out).trans (bb.mono HBb.out.size)
    have E4n8 : Hid (CB (Wb.alloc (.cells #[] 32 (0, 0))) Wb.heap.size #[] 32) := CB.new _ _
    have hg4n8 : wa.heap.size ≤ Wb.heap.size := HBb.out.size
    clear bb
    first | refine hK.out _ _ (by exact ⟨kn80, kn81⟩) (fun hHeld => ?_) | (go_wp2_with fail; refine hK.out _ _ (by exact ⟨kn80, kn81⟩) (fun hHeld => ?_))
    clear hK K
    try simp only [Act.put, List.setIfInBounds_toArray, List.set_cons_zero, List.set_cons_succ]
    generalize (Wb.alloc (.cells #[] 32 (0, 0))) = Wn8 at kn80 kn81 HBn8 hHeld E4n8 ⊢
    generalize Wb.heap.size = G4 at E4n8 hg4n8 ⊢
    refine wpAnyH_ready (rs := [0]) (by kernel_rfl) (by simp) ?_
    refine AllReadyH.cons (o := { dst := some 3, op := Go.Op.buildSlice 24 0 #[], type := 24, pos := "l11_papers.go:40", after := #[], guard := none }) rfl (fun K hK => ?_) (AllReadyH.nil)
    go_simp
    have bb : Below Wn8.heap.size Wn8 (Wn8.alloc (.cells #[] 75 (0, 0))) := (Below.refl _ _).alloc (Nat.le_refl _) _
    have kn90 := keep_cell bb kn80
    have kn91 := keep_cell bb kn81
    have HBn9 : Hid (Below wa.heap.size wa (Wn8.alloc (.cells #[] 75 (0, 0)))) := (HBn8.out).trans (bb.mono HBn8.out.size)
    have E4n9 := hid (E4n8.out.below bb E4n8.out.lt)
    have hg4n9 : wa.heap.size ≤ G4 := hg4n8
    have E0n9 : Hid (CB (Wn8.alloc (.cells #[] 75 (0, 0))) Wn8.heap.size #[] 75) := CB.new _ _
    have hg0n9 : wa.heap.size ≤ Wn8.heap.size := HBn8.out.size
    clear bb
    first | refine hK.out _ _ (by exact ⟨kn90, kn91⟩) (fun hHeld => ?_) | (go_wp2_with fail; refine hK.out _ _ (by exact ⟨kn90, kn91⟩) (fun hHeld => ?_))
    clear hK K
    try simp only [Act.put, List.setIfInBounds_toArray, List.set_cons_zero, List.set_cons_succ]
    generalize (Wn8.alloc (.cells #[] 75 (0, 0))) = Wn9 at kn90 kn91 HBn9 hHeld E4n9 E0n9 ⊢
    generalize Wn8.heap.size = G0 at E0n9 hg0n9 ⊢
    refine wpAnyH_ready (rs := [3]) (by kernel_rfl) (by simp) ?_
    refine AllReadyH.cons (o := { dst := some 6, op := Go.Op.call { callee := Go.Callee.builtin Go.Builtin.append, args := #[Go.Operand.tmp 3, Go.Operand.tmp 5], argTypes := #[24, 24] }, type := 24, pos := "l11_papers.go:40", after := #[{ on := 0, ground := Go.Ground.data }, { on := 2, ground := Go.Ground.data }], guard := none }) rfl (fun K hK => ?_) (AllReadyH.nil)
    rw [if_pos (by rfl)]
    refine oper_append (Operand.tmp 3) (Operand.tmp 5) 24 rfl wa.heap.size 75 iS (.agg #[.string ByteArray.empty, .int .i64 0]) 2 24 Tryd.underlying24 hi hz0 hz1 hz2 rfl (by decide) (.slice (some ⟨G0, 0, none⟩) 0 0) 0 [] rfl (madeS2 E0n9.out hg0n9) a len cap (rowS2 c len) rfl (rowS2_len c len) (rowS2_src (HR.out.below (HWA.out.trans (HBn9.out.mono HWA.out.size)))) (rowS2_one c len) (by unfold maxLen; omega) (by omega) HBn9.out.size ?_
    intro v2 Wn10 hown hgrow _
    rw [Nat.zero_add, List.nil_append] at hown
    obtain ⟨a2, c2, rfl⟩ := row_form hown
    have HBn10 : Hid (Below wa.heap.size wa Wn10) := HBn9.out.grown hgrow HBn9.out.size (fun g e => by simp [Value.ownBlock] at e; omega)
    have hgr : ∀ y, y < Wn9.heap.size → y ≠ G0 → Wn10.heap[y]? = Wn9.heap[y]? := fun y hy hne => hgrow.block y hy (by simp [Value.ownBlock]; omega)
    have kn100 := keep_cell (HBn10.out.mono (Nat.le_refl _)) ka0
    have kn101 := keep_cell (HBn10.out.mono (Nat.le_refl _)) ka1
    have E4n10 := hid (E4n9.out.block (hgr G4 E4n9.out.lt (CB_ne E4n9.out E0n9.out (by decide))))
    have hg4n10 : wa.heap.size ≤ G4 := hg4n9
    have O2 := hid hown
    clear hown hgrow
    first | refine hK.out _ _ (by exact ⟨kn100, kn101⟩) (fun hHeld => ?_) | (go_wp2_with fail; refine hK.out _ _ (by exact ⟨kn100, kn101⟩) (fun hHeld => ?_))
    clear hK K
    try simp only [Act.put, List.setIfInBounds_toArray, List.set_cons_zero, List.set_cons_succ]
    refine wpAnyH_ready (rs := [7]) (by kernel_rfl) (by simp) ?_
    refine AllReadyH.cons (o := { dst := some 10, op := Go.Op.call { callee := Go.Callee.builtin Go.Builtin.append, args := #[Go.Operand.tmp 7, Go.Operand.tmp 9], argTypes := #[25, 25] }, type := 25, pos := "l11_papers.go:40", after := #[{ on := 4, ground := Go.Ground.data }, { on := 6, ground := Go.Ground.data }, { on := 3, ground := Go.Ground.chain }], guard := none }) rfl (fun K hK => ?_) (AllReadyH.nil)
    rw [if_pos (by rfl)]
    refine oper_append (Operand.tmp 7) (Operand.tmp 9) 25 rfl wa.heap.size 32 iP (.agg #[.int .i64 0, .int .i64 0, .int .i64 0, .bool false]) 4 32 Tryd.underlying25 gi gz0 gz1 gz2 rfl (by decide) (.slice (some ⟨G4, 0, none⟩) 0 0) 0 [] rfl (madeP4 E4n10.out hg4n10) b np pcap (rowP4 p np) rfl (rowP4_len p np) (rowP4_src (HP.out.below (HWA.out.trans (HBn10.out.mono HWA.out.size)))) (rowP4_one p np) (by unfold maxLen; omega) (by omega) HBn10.out.size ?_
    intro v3 Wn11 hown hgrow _
    rw [Nat.zero_add, List.nil_append] at hown
    obtain ⟨a3, c3, rfl⟩ := row_form hown
    have HBn11 : Hid (Below wa.heap.size wa Wn11) := HBn10.out.grown hgrow HBn10.out.size (fun g e => by simp [Value.ownBlock] at e; omega)
    have hgr : ∀ y, y < Wn10.heap.size → y ≠ G4 → Wn11.heap[y]? = Wn10.heap[y]? := fun y hy hne => hgrow.block y hy (by simp [Value.ownBlock]; omega)
    have kn110 := keep_cell (HBn11.out.mono (Nat.le_refl _)) ka0
    have kn111 := keep_cell (HBn11.out.mono (Nat.le_refl _)) ka1
    have O2 := hid (ownsRow_apart O2.out E4n10.out (by decide) hgr)
    have O3 := hid hown
    clear hown hgrow
    first | refine hK.out _ _ (by exact ⟨kn110, kn111⟩) (fun hHeld => ?_) | (go_wp2_with fail; refine hK.out _ _ (by exact ⟨kn110, kn111⟩) (fun hHeld => ?_))
    clear hK K
    try simp only [Act.put, List.setIfInBounds_toArray, List.set_cons_zero, List.set_cons_succ]
    have Cn11 : CB Wn11 (w.heap.size + 1) #[.slice none 0 0, .slice none 0 0] 27 := HC1.out.below HBn11.out (by rw [hwas]; omega)
    have j0 : Wn11.cell? ⟨w.heap.size + 1, 0, none⟩ = some (.slice none 0 0) := (Cn11.cell 0).trans rfl
    have j1 : Wn11.cell? ⟨w.heap.size + 1, 1, none⟩ = some (.slice none 0 0) := (Cn11.cell 1).trans rfl
    have f0 := Cn11.fr 0
    have f1 := Cn11.fr 1
    refine wpAnyH_take (i := 8) (oi := { dst := some 11, op := Go.Op.build 27 #[(0, Go.Operand.tmp 6), (1, Go.Operand.tmp 10)], type := 27, pos := "l11_papers.go:40", after := #[{ on := 3, ground := Go.Ground.data }, { on := 7, ground := Go.Ground.data }], guard := none }) (v := ?_) rfl (by kernel_rfl) (by kernel_rfl) (by kernel_rfl) (fun _ _ _ h => h) (Or.inl ⟨by rfl, ?_⟩) (by assumption) ?_
    rotate_left
    · (intro w hSw; (try dsimp only at hSw); go_simp <;> try with_reducible rfl)
    try simp only [Act.put, List.setIfInBounds_toArray, List.set_cons_zero, List.set_cons_succ]
    refine wpAnyH_ready (rs := [9]) (by kernel_rfl) (by simp) ?_
    refine AllReadyH.cons (o := { dst := none, op := Go.Op.store 27 (Go.Operand.tmp 2) (Go.Operand.tmp 11), type := 0, pos := "l11_papers.go:40", after := #[{ on := 8, ground := Go.Ground.data }, { on := 7, ground := Go.Ground.chain }, { on := 0, ground := Go.Ground.phase }, { on := 1, ground := Go.Ground.phase }, { on := 2, ground := Go.Ground.phase }, { on := 3, ground := Go.Ground.phase }, { on := 4, ground := Go.Ground.phase }, { on := 5, ground := Go.Ground.phase }, { on := 6, ground := Go.Ground.phase }, { on := 7, ground := Go.Ground.phase }, { on := 8, ground := Go.Ground.phase }], guard := none }) rfl (fun K hK => ?_) (AllReadyH.nil)
    go_simp
    first | refine hK.out _ _ ?_ (fun hHeld => ?_) | (go_wp2_with fail; refine hK.out _ _ ?_ (fun hHeld => ?_))
    · exact ⟨(cell_two (by omega)).trans kn110, (cell_two (by omega)).trans kn111⟩
    clear hK K
    try simp only [Act.put, List.setIfInBounds_toArray, List.set_cons_zero, List.set_cons_succ]
    refine wpAnyH_done (by kernel_rfl) ?_ _
    clear hHeld
    (try refine NoPanic.normal ?_)
    have hX := (Cn11.set 0 (.slice a2 len c2)).set 1 (.slice a3 np c3)
    have hO2 := ownsRow_put (ownsRow_put O2.out (b := w.heap.size + 1) (o := 0) (.slice a2 len c2) (by rw [hwas]; omega)) (b := w.heap.size + 1) (o := 1) (.slice a3 np c3) (by rw [hwas]; omega)
    have hO3 := ownsRow_put (ownsRow_put O3.out (b := w.heap.size + 1) (o := 0) (.slice a2 len c2) (by rw [hwas]; omega)) (b := w.heap.size + 1) (o := 1) (.slice a3 np c3) (by rw [hwas]; omega)
    have hZ := ((HWA.out.trans (HBn11.out.mono HWA.out.size)).setCell (p := ⟨w.heap.size + 1, 0, none⟩) (by simp) (.slice a2 len c2)).setCell (p := ⟨w.heap.size + 1, 1, none⟩) (by simp) (.slice a3 np c3)
    have e0 := hX.cell 0
    have e1 := hX.cell 1
    simp at e0 e1
    clear hX j0 j1 f0 f1 Cn11
    generalize (World.setCell _ _ _) = W9 at e0 e1 hO2 hO3 hZ ⊢
    go_wp2
    refine bodyPost_ret (by simp [results, Tryd.results58, go_sem, e0, e1]; try rfl) rfl ?_
    exact ⟨a2, c2, a3, c3, rfl, ownsRow_base hO2 (by rw [hwas]; omega), ownsRow_base hO3 (by rw [hwas]; omega), hZ⟩
end Go.Proofs.YtdhpadcihlmhiaaDoor
