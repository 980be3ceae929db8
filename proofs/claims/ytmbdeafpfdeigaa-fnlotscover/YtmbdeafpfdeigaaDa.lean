/- Draws of making: one part. -/
import Derived.Test.YtmbdeafpfdeigaaXo
import Derived.Test.YtmbdeafpfdeigaaJa
import Derived.Deep.RegionHeldLaw
import Derived.BigRegion
namespace Go.Proofs.Ytmbdeafpfdeigaa
open Go Go.ChangeShapes Go.WideShapes Go.ChangeAt Go.RowKit
set_option linter.unusedVariables false
set_option linter.unusedSimpArgs false

def paA (p : PA6) : Array Value := #[.int .i64 p.item, .int .i64 p.qty, .int .i64 p.scr, .int .i64 p.fst, .int .i64 p.lst, .int .i64 p.grp]
/-- A part being drawn: in its own box, the answer's box and the cursor beside it. -/
structure DS (b : Nat) (w : World) (rb pb : Nat) (p : PA6) (W : World) : Prop where
  m : Moved b w W
  r : CB W rb (paA ⟨0, 0, 0, 0, 0, 0⟩) 28
  x : CB W pb (paA p) 28
  ne : rb ≠ pb
  lo : b < w.heap.size ∧ w.heap.size ≤ rb ∧ w.heap.size ≤ pb
theorem DS.turn {b : Nat} {w W W' : World} {rb pb : Nat} {p : PA6} (h : DS b w rb pb p W) (k : Moved b W W') : DS b w rb pb p W' := by
  have := h.lo
  exact ⟨h.m.trans k, h.r.turns k.2 (by omega), h.x.turns k.2 (by omega), h.ne, h.lo⟩
theorem Moved.setHigh {b : Nat} {w W : World} (h : Moved b w W) {c : Nat} (hb : b < w.heap.size) (hc : w.heap.size ≤ c) (o : Nat) (v : Value) : Moved b w (W.setCell ⟨c, o, none⟩ v) := by
  have hs : (W.setCell ⟨c, o, none⟩ v).heap.size = W.heap.size := by simp
  have hk : ∀ k, k ≠ c → (W.setCell ⟨c, o, none⟩ v).heap[k]? = W.heap[k]? := fun k hk => Below.heap_setCell _ _ _ _ (by simpa using hk)
  refine ⟨h.1.low (by omega) (fun k q => hk k (by omega)), ?_⟩
  have t := h.2
  exact ⟨t.os, t.tape, t.output, by rw [hs]; exact t.size, fun k h1 h2 => (hk k (by omega)).trans (t.block k h1 h2)⟩
theorem Moved.newHigh {b : Nat} {w W : World} (h : Moved b w W) (o : Obj) : Moved b w (W.alloc o) := h.alloc o
theorem DS.s2 {b : Nat} {w W : World} {rb pb : Nat} {it qt sc fs la gr : Int} (h : DS b w rb pb ⟨it, qt, sc, fs, la, gr⟩ W) (v : Int) : DS b w rb pb ⟨it, qt, v, fs, la, gr⟩ (W.setCell ⟨pb, 2, none⟩ (.int .i64 v)) := by
  have := h.lo
  refine ⟨h.m.setHigh h.lo.1 h.lo.2.2 _ _, h.r.other _ h.ne, ?_, h.ne, h.lo⟩
  have := h.x.set 2 (.int .i64 v)
  exact this
theorem DS.s3 {b : Nat} {w W : World} {rb pb : Nat} {it qt sc fs la gr : Int} (h : DS b w rb pb ⟨it, qt, sc, fs, la, gr⟩ W) (v : Int) : DS b w rb pb ⟨it, qt, sc, v, la, gr⟩ (W.setCell ⟨pb, 3, none⟩ (.int .i64 v)) := by
  have := h.lo
  refine ⟨h.m.setHigh h.lo.1 h.lo.2.2 _ _, h.r.other _ h.ne, ?_, h.ne, h.lo⟩
  have := h.x.set 3 (.int .i64 v)
  exact this
theorem DS.s4 {b : Nat} {w W : World} {rb pb : Nat} {it qt sc fs la gr : Int} (h : DS b w rb pb ⟨it, qt, sc, fs, la, gr⟩ W) (v : Int) : DS b w rb pb ⟨it, qt, sc, fs, v, gr⟩ (W.setCell ⟨pb, 4, none⟩ (.int .i64 v)) := by
  have := h.lo
  refine ⟨h.m.setHigh h.lo.1 h.lo.2.2 _ _, h.r.other _ h.ne, ?_, h.ne, h.lo⟩
  have := h.x.set 4 (.int .i64 v)
  exact this
theorem DS.s5 {b : Nat} {w W : World} {rb pb : Nat} {it qt sc fs la gr : Int} (h : DS b w rb pb ⟨it, qt, sc, fs, la, gr⟩ W) (v : Int) : DS b w rb pb ⟨it, qt, sc, fs, la, v⟩ (W.setCell ⟨pb, 5, none⟩ (.int .i64 v)) := by
  have := h.lo
  refine ⟨h.m.setHigh h.lo.1 h.lo.2.2 _ _, h.r.other _ h.ne, ?_, h.ne, h.lo⟩
  have := h.x.set 5 (.int .i64 v)
  exact this
theorem DS.cells {b : Nat} {w W : World} {rb pb : Nat} {it qt sc fs la gr : Int} (h : DS b w rb pb ⟨it, qt, sc, fs, la, gr⟩ W) : (W.cell? ⟨pb, 0, none⟩ = some (.int .i64 it) ∧ W.cell? ⟨pb, 1, none⟩ = some (.int .i64 qt) ∧ W.cell? ⟨pb, 2, none⟩ = some (.int .i64 sc) ∧ W.cell? ⟨pb, 3, none⟩ = some (.int .i64 fs) ∧ W.cell? ⟨pb, 4, none⟩ = some (.int .i64 la) ∧ W.cell? ⟨pb, 5, none⟩ = some (.int .i64 gr)) ∧ ∀ o, W.frozen? ⟨pb, o, none⟩ = false :=
  ⟨⟨(h.x.cell 0).trans rfl, (h.x.cell 1).trans rfl, (h.x.cell 2).trans rfl, (h.x.cell 3).trans rfl, (h.x.cell 4).trans rfl, (h.x.cell 5).trans rfl⟩, fun o => h.x.fr o⟩
theorem DS.ans {b : Nat} {w W : World} {rb pb : Nat} {p : PA6} (h : DS b w rb pb p W) : (W.cell? ⟨rb, 0, none⟩ = some (.int .i64 0) ∧ W.cell? ⟨rb, 1, none⟩ = some (.int .i64 0) ∧ W.cell? ⟨rb, 2, none⟩ = some (.int .i64 0) ∧ W.cell? ⟨rb, 3, none⟩ = some (.int .i64 0) ∧ W.cell? ⟨rb, 4, none⟩ = some (.int .i64 0) ∧ W.cell? ⟨rb, 5, none⟩ = some (.int .i64 0)) ∧ ∀ o, W.frozen? ⟨rb, o, none⟩ = false :=
  ⟨⟨(h.r.cell 0).trans rfl, (h.r.cell 1).trans rfl, (h.r.cell 2).trans rfl, (h.r.cell 3).trans rfl, (h.r.cell 4).trans rfl, (h.r.cell 5).trans rfl⟩, fun o => h.r.fr o⟩
def wr6 (W : World) (r : Nat) (p : PA6) : World := (((((W.setCell ⟨r, 0, none⟩ (.int .i64 p.item)).setCell ⟨r, 1, none⟩ (.int .i64 p.qty)).setCell ⟨r, 2, none⟩ (.int .i64 p.scr)).setCell ⟨r, 3, none⟩ (.int .i64 p.fst)).setCell ⟨r, 4, none⟩ (.int .i64 p.lst)).setCell ⟨r, 5, none⟩ (.int .i64 p.grp)
theorem DS.fin {b : Nat} {w W : World} {rb pb : Nat} {p : PA6} (h : DS b w rb pb p W) : CB (wr6 W rb p) rb (paA p) 28 ∧ Moved b w (wr6 W rb p) := by
  obtain ⟨g1, g2, g3⟩ := h.lo
  refine ⟨?_, (((((h.m.setHigh g1 g2 _ _).setHigh g1 g2 _ _).setHigh g1 g2 _ _).setHigh g1 g2 _ _).setHigh g1 g2 _ _).setHigh g1 g2 _ _⟩
  have := ((((((h.r.set 0 (.int .i64 p.item)).set 1 (.int .i64 p.qty)).set 2 (.int .i64 p.scr)).set 3 (.int .i64 p.fst)).set 4 (.int .i64 p.lst)).set 5 (.int .i64 p.grp))
  exact this
/-- What a drawn part is like. -/
def DP (o n : Nat) (p : PA6) : Prop := ((o : Int) + 1 ≤ p.item ∧ p.item < (n : Int)) ∧ (1 ≤ p.qty ∧ p.qty ≤ 5) ∧ (0 ≤ p.scr ∧ p.scr ≤ 19) ∧ (0 ≤ p.fst ∧ p.fst ≤ 99) ∧ (p.fst ≤ p.lst ∧ p.lst ≤ 40000) ∧ (0 ≤ p.grp ∧ p.grp ≤ 2)

set_option maxRecDepth 20000 in
set_option maxHeartbeats 8000000 in
theorem drawPart_any (b o n : Nat) (w : World) (hc : Cursor w b) (hn : (n : Int) ≤ 1000) (ho : o + 1 < n) :
    Calls Try.prog 104 #[.pointer (some ⟨b, 0, none⟩), .int .i64 (o : Int), .int .i64 (n : Int)] w fun e w' => ∃ p : PA6, e = .returned p.val ∧ DP o n p ∧ Moved b w w' := by
  have HC : Hid (Cursor w b) := hc
  clear hc
  have hlo : b < w.heap.size := HC.out.lt
  have hw1 : IntKind.i64.wrap ((o : Int) + 1) = (o : Int) + 1 := IntWalk.i64_in _ ⟨by omega, by omega⟩
  have hw2 : IntKind.i64.wrap ((n : Int) - (o : Int)) = (n : Int) - (o : Int) := IntWalk.i64_in _ ⟨by omega, by omega⟩
  have hw3 : IntKind.i64.wrap ((n : Int) - (o : Int) - 1) = (n : Int) - (o : Int) - 1 := IntWalk.i64_in _ ⟨by omega, by omega⟩
  have tok1 : True := trivial
  go_enter Try.func104, Try.ntmps104
  go_wp2_with (first
    | (go_at_call 60; clear tok1; refine (below_any b _ _ (HC.out.alloc _)).mono ?_; rintro e w1 ⟨x1, rfl, x1a, x1b, _, m1⟩; have hw4 : IntKind.i64.wrap ((o : Int) + 1 + x1) = (o : Int) + 1 + x1 := IntWalk.i64_in _ ⟨by omega, by omega⟩)
    | (go_at_call 60; refine (below_any b _ _ m1.1).mono ?_; rintro e w2 ⟨x2, rfl, x2a, x2b, _, m2⟩; have hw5 : IntKind.i64.wrap (1 + x2) = 1 + x2 := IntWalk.i64_in _ ⟨by omega, by omega⟩))
  have HM2 : Hid (Moved b w w2 ∧ CB w2 w.heap.size (paA ⟨0, 0, 0, 0, 0, 0⟩) 28 ∧ w.heap.size < w2.heap.size) := hid (by
    have k1 := (CB.new (w := w) (paA ⟨0, 0, 0, 0, 0, 0⟩) 28)
    have k2 := (k1.turns m1.2 (by omega)).turns m2.2 (by omega)
    exact ⟨((Moved.refl HC.out).alloc _).trans (m1.trans m2), k2, k2.lt⟩)
  have H : Hid (DS b w w.heap.size w2.heap.size ⟨(o : Int) + 1 + x1, 1 + x2, 0, 0, 40000, 0⟩ (w2.alloc (.cells #[.int .i64 ((o : Int) + 1 + x1), .int .i64 (1 + x2), .int .i64 0, .int .i64 0, .int .i64 40000, .int .i64 0] 28))) := hid ⟨HM2.out.1.alloc _, HM2.out.2.1.alloc _, CB.new _ _, by have := HM2.out.2.2; omega, hlo, Nat.le_refl _, by have := HM2.out.2.2; omega⟩
  have HRES : Hid (∀ sc fs la gr : Int, 0 ≤ sc → sc ≤ 19 → 0 ≤ fs → fs ≤ 99 → fs ≤ la → la ≤ 40000 → 0 ≤ gr → gr ≤ 2 → DP o n ⟨(o : Int) + 1 + x1, 1 + x2, sc, fs, la, gr⟩) := hid (fun sc fs la gr g1 g2 g3 g4 g5 g6 g7 g8 => ⟨⟨by show (o : Int) + 1 ≤ (o : Int) + 1 + x1; omega, by show (o : Int) + 1 + x1 < (n : Int); have := x1b (by omega); omega⟩, ⟨by show 1 ≤ 1 + x2; omega, by show 1 + x2 ≤ 5; have := x2b (by omega); omega⟩, ⟨g1, g2⟩, ⟨g3, g4⟩, ⟨g5, g6⟩, ⟨g7, g8⟩⟩)
  clear HM2 m1 m2 hw1 hw2 hw3 hw4 hw5 x1a x1b x2a x2b HC
  generalize w2.alloc (.cells #[.int .i64 ((o : Int) + 1 + x1), .int .i64 (1 + x2), .int .i64 0, .int .i64 0, .int .i64 40000, .int .i64 0] 28) = WW at H ⊢
  generalize w2.heap.size = pb at H ⊢
  generalize w.heap.size = rb at H ⊢
  generalize (o : Int) + 1 + x1 = IT at H HRES ⊢
  generalize 1 + x2 = QT at H HRES ⊢
  have tkA : True := trivial
  go_wp2_with (go_at_call 78; clear tkA; refine (once_any b _ _ H.out.m.1).mono ?_; rintro e W3 ⟨v, rfl, m⟩; replace H := hid (H.out.turn m); clear m; cases v)
  · have tkB : True := trivial
    go_wp2_with (go_at_call 78; clear tkB; refine (once_any b _ _ H.out.m.1).mono ?_; rintro e W4 ⟨v, rfl, m⟩; replace H := hid (H.out.turn m); clear m; cases v)
    · have tkC : True := trivial
      go_wp2_with (go_at_call 78; clear tkC; refine (once_any b _ _ H.out.m.1).mono ?_; rintro e W5 ⟨v, rfl, m⟩; replace H := hid (H.out.turn m); clear m; obtain ⟨⟨c0, c1, c2, c3, c4, c5⟩, _⟩ := H.out.cells; obtain ⟨⟨r0, r1, r2, r3, r4, r5⟩, hfr2⟩ := H.out.ans; have q0 := hfr2 0; have q1 := hfr2 1; have q2 := hfr2 2; have q3 := hfr2 3; have q4 := hfr2 4; have q5 := hfr2 5; have hne : rb ≠ pb := H.out.ne; clear hfr2; cases v)
      · have HP : Hid (DP o n ⟨IT, QT, 0, 0, 40000, 0⟩) := hid (HRES.out _ _ _ _ (by omega) (by omega) (by omega) (by omega) (by omega) (by omega) (by omega) (by omega))
        have HF := hid H.out.fin
        simp only [wr6] at HF
        have z := HF.out.1
        have z0 := (z.cell 0).trans rfl; have z1 := (z.cell 1).trans rfl; have z2 := (z.cell 2).trans rfl; have z3 := (z.cell 3).trans rfl; have z4 := (z.cell 4).trans rfl; have z5 := (z.cell 5).trans rfl
        simp only [paA, List.getElem?_toArray, List.getElem?_cons_zero, List.getElem?_cons_succ] at z0 z1 z2 z3 z4 z5
        refine bodyPost_ret (v := .agg #[.int .i64 IT, .int .i64 QT, .int .i64 (0), .int .i64 (0), .int .i64 (40000), .int .i64 (0)]) (by simp [results, Try.results104, go_sem, z0, z1, z2, z3, z4, z5]; try rfl) rfl ?_
        exact ⟨⟨IT, QT, 0, 0, 40000, 0⟩, rfl, HP.out, HF.out.2⟩
      · clear c0 c1 c2 c3 c4 c5 r0 r1 r2 r3 r4 r5 q0 q1 q2 q3 q4 q5 hne
        go_wp2_with (go_at_call 60; refine (below_any b _ _ H.out.m.1).mono ?_; rintro e W11 ⟨gW11, rfl, gW11a, gW11b, _, m⟩; replace gW11b := gW11b (by omega); replace H := hid (H.out.turn m); clear m; have hw9 : IntKind.i64.wrap (1 + gW11) = 1 + gW11 := IntWalk.i64_in _ ⟨by omega, by omega⟩; obtain ⟨⟨c0, c1, c2, c3, c4, c5⟩, hfr⟩ := H.out.cells; obtain ⟨⟨r0, r1, r2, r3, r4, r5⟩, hfr2⟩ := H.out.ans; have q0 := hfr2 0; have q1 := hfr2 1; have q2 := hfr2 2; have q3 := hfr2 3; have q4 := hfr2 4; have q5 := hfr2 5; have hne : rb ≠ pb := H.out.ne; clear hfr2; have f2 := hfr 2; have f3 := hfr 3; have f4 := hfr 4; have f5 := hfr 5; clear hfr)
        replace H := hid (H.out.s5 (1 + gW11))
        have HP : Hid (DP o n ⟨IT, QT, 0, 0, 40000, 1 + gW11⟩) := hid (HRES.out _ _ _ _ (by omega) (by omega) (by omega) (by omega) (by omega) (by omega) (by omega) (by omega))
        have HF := hid H.out.fin
        simp only [wr6] at HF
        have z := HF.out.1
        have z0 := (z.cell 0).trans rfl; have z1 := (z.cell 1).trans rfl; have z2 := (z.cell 2).trans rfl; have z3 := (z.cell 3).trans rfl; have z4 := (z.cell 4).trans rfl; have z5 := (z.cell 5).trans rfl
        simp only [paA, List.getElem?_toArray, List.getElem?_cons_zero, List.getElem?_cons_succ] at z0 z1 z2 z3 z4 z5
        refine bodyPost_ret (v := .agg #[.int .i64 IT, .int .i64 QT, .int .i64 (0), .int .i64 (0), .int .i64 (40000), .int .i64 (1 + gW11)]) (by simp [results, Try.results104, go_sem, z0, z1, z2, z3, z4, z5]; try rfl) rfl ?_
        exact ⟨⟨IT, QT, 0, 0, 40000, 1 + gW11⟩, rfl, HP.out, HF.out.2⟩
    · go_wp2_with (go_at_call 60; refine (below_any b _ _ H.out.m.1).mono ?_; rintro e W12 ⟨fW12, rfl, fW12a, fW12b, _, m⟩; replace fW12b := fW12b (by omega); replace H := hid (H.out.turn m); clear m; obtain ⟨⟨c0, c1, c2, c3, c4, c5⟩, hfr⟩ := H.out.cells; have f2 := hfr 2; have f3 := hfr 3; have f4 := hfr 4; have f5 := hfr 5; clear hfr)
      replace H := hid (H.out.s3 fW12)
      clear c0 c1 c2 c3 c4 c5 f2 f3 f4 f5
      generalize W12.setCell ⟨pb, 3, none⟩ (.int .i64 fW12) = W13 at H ⊢
      replace H := hid (H.out.turn ((Moved.refl H.out.m.1).drew))
      have HX : Hid (W13.drew.cell? ⟨pb, 3, none⟩ = some (.int .i64 fW12)) := hid H.out.cells.1.2.2.2.1
      refine wp_region_noPanic ?_
      refine wp_region_held_drew (S := fun w' => w'.cell? ⟨pb, 3, none⟩ = some (.int .i64 fW12)) (by kernel_rfl) (by exact HX.out) (fun hHeld => ?_)
      refine wpAnyH_take (i := 0) (oi := { dst := some 31, op := Go.Op.fieldAddr 28 (Go.Operand.tmp 7) 3, type := 0, pos := "l17_make.go:199", after := #[], guard := none }) (v := ?_) rfl (by kernel_rfl) (by kernel_rfl) (by kernel_rfl) (fun _ _ _ h => h) (Or.inl ⟨by rfl, ?_⟩) (by assumption) ?_
      rotate_left
      · (intro w hSw; (try dsimp only at hSw); go_simp <;> try with_reducible rfl)
      try simp only [Act.put, List.setIfInBounds_toArray, List.set_cons_zero, List.set_cons_succ]
      refine wpAnyH_take (i := 1) (oi := { dst := some 32, op := Go.Op.load 3 (Go.Operand.tmp 31), type := 3, pos := "l17_make.go:199", after := #[{ on := 0, ground := Go.Ground.data }], guard := none }) (v := ?_) rfl (by kernel_rfl) (by kernel_rfl) (by kernel_rfl) (fun _ _ _ h => h) (Or.inl ⟨by rfl, ?_⟩) (by assumption) ?_
      rotate_left
      · (intro w hSw; (try dsimp only at hSw); go_simp <;> try with_reducible rfl)
      try simp only [Act.put, List.setIfInBounds_toArray, List.set_cons_zero, List.set_cons_succ]
      refine wpAnyH_take (i := 2) (oi := { dst := some 33, op := Go.Op.move (Go.Operand.tmp 0), type := 70, pos := "l17_make.go:199", after := #[], guard := none }) (v := ?_) rfl (by kernel_rfl) (by kernel_rfl) (by kernel_rfl) (fun _ _ _ h => h) (Or.inl ⟨by rfl, ?_⟩) (by assumption) ?_
      rotate_left
      · (intro w hSw; (try dsimp only at hSw); go_simp <;> try with_reducible rfl)
      try simp only [Act.put, List.setIfInBounds_toArray, List.set_cons_zero, List.set_cons_succ]
      refine wpAnyH_ready (rs := [3]) (by kernel_rfl) (by simp) ?_
      refine AllReadyH.cons (o := { dst := some 34, op := Go.Op.call { callee := Go.Callee.value (Go.Operand.func 60), args := #[Go.Operand.tmp 33, Go.Operand.const (Go.Value.int Go.IntKind.i64 200)], argTypes := #[70, 3] }, type := 3, pos := "l17_make.go:199", after := #[{ on := 2, ground := Go.Ground.data }], guard := none }) rfl (fun K hK => ?_) (AllReadyH.nil)
      go_simp
      refine (below_any b _ _ H.out.m.1).mono ?_
      rintro e W14 ⟨lW14, rfl, lW14a, lW14b, _, m⟩
      replace lW14b := lW14b (by omega)
      replace H := hid (H.out.turn m)
      clear m HX
      have HA1 : W14.cell? ⟨pb, 3, none⟩ = some (.int .i64 fW12) := H.out.cells.1.2.2.2.1
      first | refine hK.out _ _ (by exact HA1) (fun hHeld => ?_) | (go_wp2_with fail; refine hK.out _ _ (by exact HA1) (fun hHeld => ?_))
      clear hK K
      try simp only [Act.put, List.setIfInBounds_toArray, List.set_cons_zero, List.set_cons_succ]
      clear HA1
      have hwl : IntKind.i64.wrap (fW12 + lW14) = fW12 + lW14 := IntWalk.i64_in _ ⟨by omega, by omega⟩
      refine wpAnyH_take (i := 4) (oi := { dst := some 35, op := Go.Op.binOp Go.BinOp.add 3 (Go.Operand.tmp 32) (Go.Operand.tmp 34) 3, type := 3, pos := "l17_make.go:199", after := #[{ on := 1, ground := Go.Ground.data }, { on := 3, ground := Go.Ground.data }], guard := none }) (v := ?_) rfl (by kernel_rfl) (by kernel_rfl) (by kernel_rfl) (fun _ _ _ h => h) (Or.inl ⟨by rfl, ?_⟩) (by assumption) ?_
      rotate_left
      · (intro w hSw; (try dsimp only at hSw); go_simp <;> try with_reducible rfl)
      try simp only [Act.put, List.setIfInBounds_toArray, List.set_cons_zero, List.set_cons_succ]
      refine wpAnyH_take (i := 5) (oi := { dst := some 36, op := Go.Op.fieldAddr 28 (Go.Operand.tmp 7) 4, type := 0, pos := "l17_make.go:199", after := #[{ on := 0, ground := Go.Ground.phase }, { on := 1, ground := Go.Ground.phase }, { on := 2, ground := Go.Ground.phase }, { on := 3, ground := Go.Ground.phase }, { on := 4, ground := Go.Ground.phase }], guard := none }) (v := ?_) rfl (by kernel_rfl) (by kernel_rfl) (by kernel_rfl) (fun _ _ _ h => h) (Or.inl ⟨by rfl, ?_⟩) (by assumption) ?_
      rotate_left
      · (intro w hSw; (try dsimp only at hSw); go_simp <;> try with_reducible rfl)
      try simp only [Act.put, List.setIfInBounds_toArray, List.set_cons_zero, List.set_cons_succ]
      refine wpAnyH_ready (rs := [6]) (by kernel_rfl) (by simp) ?_
      refine AllReadyH.cons (o := { dst := none, op := Go.Op.store 3 (Go.Operand.tmp 36) (Go.Operand.tmp 35), type := 0, pos := "l17_make.go:199", after := #[{ on := 5, ground := Go.Ground.data }, { on := 4, ground := Go.Ground.data }, { on := 3, ground := Go.Ground.chain }, { on := 0, ground := Go.Ground.phase }, { on := 1, ground := Go.Ground.phase }, { on := 2, ground := Go.Ground.phase }, { on := 3, ground := Go.Ground.phase }, { on := 4, ground := Go.Ground.phase }], guard := none }) rfl (fun K hK => ?_) (AllReadyH.nil)
      obtain ⟨⟨c0, c1, c2, c3, c4, c5⟩, hfr⟩ := H.out.cells
      have f4 := hfr 4
      have HY : (W14.setCell ⟨pb, 4, none⟩ (.int .i64 (fW12 + lW14))).cell? ⟨pb, 3, none⟩ = some (.int .i64 fW12) := (H.out.s4 _).cells.1.2.2.2.1
      clear hfr
      go_simp
      refine hK.out _ _ (by exact HY) (fun hHeld => ?_)
      clear hK K c0 c1 c2 c3 c4 c5 f4 HY
      try simp only [Act.put, List.setIfInBounds_toArray, List.set_cons_zero, List.set_cons_succ]
      refine wpAnyH_done (by kernel_rfl) ?_ _
      refine NoPanic.normal ?_
      clear hHeld hwl
      replace H := hid (H.out.s4 (fW12 + lW14))
      generalize W14.setCell ⟨pb, 4, none⟩ (.int .i64 (fW12 + lW14)) = W15 at H ⊢
      have tkC : True := trivial
      go_wp2_with (go_at_call 78; clear tkC; refine (once_any b _ _ H.out.m.1).mono ?_; rintro e W5 ⟨v, rfl, m⟩; replace H := hid (H.out.turn m); clear m; obtain ⟨⟨c0, c1, c2, c3, c4, c5⟩, _⟩ := H.out.cells; obtain ⟨⟨r0, r1, r2, r3, r4, r5⟩, hfr2⟩ := H.out.ans; have q0 := hfr2 0; have q1 := hfr2 1; have q2 := hfr2 2; have q3 := hfr2 3; have q4 := hfr2 4; have q5 := hfr2 5; have hne : rb ≠ pb := H.out.ne; clear hfr2; cases v)
      · have HP : Hid (DP o n ⟨IT, QT, 0, fW12, (fW12 + lW14), 0⟩) := hid (HRES.out _ _ _ _ (by omega) (by omega) (by omega) (by omega) (by omega) (by omega) (by omega) (by omega))
        have HF := hid H.out.fin
        simp only [wr6] at HF
        have z := HF.out.1
        have z0 := (z.cell 0).trans rfl; have z1 := (z.cell 1).trans rfl; have z2 := (z.cell 2).trans rfl; have z3 := (z.cell 3).trans rfl; have z4 := (z.cell 4).trans rfl; have z5 := (z.cell 5).trans rfl
        simp only [paA, List.getElem?_toArray, List.getElem?_cons_zero, List.getElem?_cons_succ] at z0 z1 z2 z3 z4 z5
        refine bodyPost_ret (v := .agg #[.int .i64 IT, .int .i64 QT, .int .i64 (0), .int .i64 (fW12), .int .i64 ((fW12 + lW14)), .int .i64 (0)]) (by simp [results, Try.results104, go_sem, z0, z1, z2, z3, z4, z5]; try rfl) rfl ?_
        exact ⟨⟨IT, QT, 0, fW12, (fW12 + lW14), 0⟩, rfl, HP.out, HF.out.2⟩
      · clear c0 c1 c2 c3 c4 c5 r0 r1 r2 r3 r4 r5 q0 q1 q2 q3 q4 q5 hne
        go_wp2_with (go_at_call 60; refine (below_any b _ _ H.out.m.1).mono ?_; rintro e W16 ⟨gW16, rfl, gW16a, gW16b, _, m⟩; replace gW16b := gW16b (by omega); replace H := hid (H.out.turn m); clear m; have hw9 : IntKind.i64.wrap (1 + gW16) = 1 + gW16 := IntWalk.i64_in _ ⟨by omega, by omega⟩; obtain ⟨⟨c0, c1, c2, c3, c4, c5⟩, hfr⟩ := H.out.cells; obtain ⟨⟨r0, r1, r2, r3, r4, r5⟩, hfr2⟩ := H.out.ans; have q0 := hfr2 0; have q1 := hfr2 1; have q2 := hfr2 2; have q3 := hfr2 3; have q4 := hfr2 4; have q5 := hfr2 5; have hne : rb ≠ pb := H.out.ne; clear hfr2; have f2 := hfr 2; have f3 := hfr 3; have f4 := hfr 4; have f5 := hfr 5; clear hfr)
        replace H := hid (H.out.s5 (1 + gW16))
        have HP : Hid (DP o n ⟨IT, QT, 0, fW12, (fW12 + lW14), 1 + gW16⟩) := hid (HRES.out _ _ _ _ (by omega) (by omega) (by omega) (by omega) (by omega) (by omega) (by omega) (by omega))
        have HF := hid H.out.fin
        simp only [wr6] at HF
        have z := HF.out.1
        have z0 := (z.cell 0).trans rfl; have z1 := (z.cell 1).trans rfl; have z2 := (z.cell 2).trans rfl; have z3 := (z.cell 3).trans rfl; have z4 := (z.cell 4).trans rfl; have z5 := (z.cell 5).trans rfl
        simp only [paA, List.getElem?_toArray, List.getElem?_cons_zero, List.getElem?_cons_succ] at z0 z1 z2 z3 z4 z5
        refine bodyPost_ret (v := .agg #[.int .i64 IT, .int .i64 QT, .int .i64 (0), .int .i64 (fW12), .int .i64 ((fW12 + lW14)), .int .i64 (1 + gW16)]) (by simp [results, Try.results104, go_sem, z0, z1, z2, z3, z4, z5]; try rfl) rfl ?_
        exact ⟨⟨IT, QT, 0, fW12, (fW12 + lW14), 1 + gW16⟩, rfl, HP.out, HF.out.2⟩
  · go_wp2_with (go_at_call 60; refine (below_any b _ _ H.out.m.1).mono ?_; rintro e W17 ⟨xs, rfl, xsa, xsb, _, m⟩; replace xsb := xsb (by omega); replace H := hid (H.out.turn m); clear m; obtain ⟨⟨c0, c1, c2, c3, c4, c5⟩, hfr⟩ := H.out.cells; have f2 := hfr 2; have f3 := hfr 3; have f4 := hfr 4; have f5 := hfr 5; clear hfr)
    replace H := hid (H.out.s2 xs)
    clear c0 c1 c2 c3 c4 c5 f2 f3 f4 f5
    generalize W17.setCell ⟨pb, 2, none⟩ (.int .i64 xs) = W18 at H ⊢
    have tkB : True := trivial
    go_wp2_with (go_at_call 78; clear tkB; refine (once_any b _ _ H.out.m.1).mono ?_; rintro e W4 ⟨v, rfl, m⟩; replace H := hid (H.out.turn m); clear m; cases v)
    · have tkC : True := trivial
      go_wp2_with (go_at_call 78; clear tkC; refine (once_any b _ _ H.out.m.1).mono ?_; rintro e W5 ⟨v, rfl, m⟩; replace H := hid (H.out.turn m); clear m; obtain ⟨⟨c0, c1, c2, c3, c4, c5⟩, _⟩ := H.out.cells; obtain ⟨⟨r0, r1, r2, r3, r4, r5⟩, hfr2⟩ := H.out.ans; have q0 := hfr2 0; have q1 := hfr2 1; have q2 := hfr2 2; have q3 := hfr2 3; have q4 := hfr2 4; have q5 := hfr2 5; have hne : rb ≠ pb := H.out.ne; clear hfr2; cases v)
      · have HP : Hid (DP o n ⟨IT, QT, xs, 0, 40000, 0⟩) := hid (HRES.out _ _ _ _ (by omega) (by omega) (by omega) (by omega) (by omega) (by omega) (by omega) (by omega))
        have HF := hid H.out.fin
        simp only [wr6] at HF
        have z := HF.out.1
        have z0 := (z.cell 0).trans rfl; have z1 := (z.cell 1).trans rfl; have z2 := (z.cell 2).trans rfl; have z3 := (z.cell 3).trans rfl; have z4 := (z.cell 4).trans rfl; have z5 := (z.cell 5).trans rfl
        simp only [paA, List.getElem?_toArray, List.getElem?_cons_zero, List.getElem?_cons_succ] at z0 z1 z2 z3 z4 z5
        refine bodyPost_ret (v := .agg #[.int .i64 IT, .int .i64 QT, .int .i64 (xs), .int .i64 (0), .int .i64 (40000), .int .i64 (0)]) (by simp [results, Try.results104, go_sem, z0, z1, z2, z3, z4, z5]; try rfl) rfl ?_
        exact ⟨⟨IT, QT, xs, 0, 40000, 0⟩, rfl, HP.out, HF.out.2⟩
      · clear c0 c1 c2 c3 c4 c5 r0 r1 r2 r3 r4 r5 q0 q1 q2 q3 q4 q5 hne
        go_wp2_with (go_at_call 60; refine (below_any b _ _ H.out.m.1).mono ?_; rintro e W19 ⟨gW19, rfl, gW19a, gW19b, _, m⟩; replace gW19b := gW19b (by omega); replace H := hid (H.out.turn m); clear m; have hw9 : IntKind.i64.wrap (1 + gW19) = 1 + gW19 := IntWalk.i64_in _ ⟨by omega, by omega⟩; obtain ⟨⟨c0, c1, c2, c3, c4, c5⟩, hfr⟩ := H.out.cells; obtain ⟨⟨r0, r1, r2, r3, r4, r5⟩, hfr2⟩ := H.out.ans; have q0 := hfr2 0; have q1 := hfr2 1; have q2 := hfr2 2; have q3 := hfr2 3; have q4 := hfr2 4; have q5 := hfr2 5; have hne : rb ≠ pb := H.out.ne; clear hfr2; have f2 := hfr 2; have f3 := hfr 3; have f4 := hfr 4; have f5 := hfr 5; clear hfr)
        replace H := hid (H.out.s5 (1 + gW19))
        have HP : Hid (DP o n ⟨IT, QT, xs, 0, 40000, 1 + gW19⟩) := hid (HRES.out _ _ _ _ (by omega) (by omega) (by omega) (by omega) (by omega) (by omega) (by omega) (by omega))
        have HF := hid H.out.fin
        simp only [wr6] at HF
        have z := HF.out.1
        have z0 := (z.cell 0).trans rfl; have z1 := (z.cell 1).trans rfl; have z2 := (z.cell 2).trans rfl; have z3 := (z.cell 3).trans rfl; have z4 := (z.cell 4).trans rfl; have z5 := (z.cell 5).trans rfl
        simp only [paA, List.getElem?_toArray, List.getElem?_cons_zero, List.getElem?_cons_succ] at z0 z1 z2 z3 z4 z5
        refine bodyPost_ret (v := .agg #[.int .i64 IT, .int .i64 QT, .int .i64 (xs), .int .i64 (0), .int .i64 (40000), .int .i64 (1 + gW19)]) (by simp [results, Try.results104, go_sem, z0, z1, z2, z3, z4, z5]; try rfl) rfl ?_
        exact ⟨⟨IT, QT, xs, 0, 40000, 1 + gW19⟩, rfl, HP.out, HF.out.2⟩
    · go_wp2_with (go_at_call 60; refine (below_any b _ _ H.out.m.1).mono ?_; rintro e W20 ⟨fW20, rfl, fW20a, fW20b, _, m⟩; replace fW20b := fW20b (by omega); replace H := hid (H.out.turn m); clear m; obtain ⟨⟨c0, c1, c2, c3, c4, c5⟩, hfr⟩ := H.out.cells; have f2 := hfr 2; have f3 := hfr 3; have f4 := hfr 4; have f5 := hfr 5; clear hfr)
      replace H := hid (H.out.s3 fW20)
      clear c0 c1 c2 c3 c4 c5 f2 f3 f4 f5
      generalize W20.setCell ⟨pb, 3, none⟩ (.int .i64 fW20) = W21 at H ⊢
      replace H := hid (H.out.turn ((Moved.refl H.out.m.1).drew))
      have HX : Hid (W21.drew.cell? ⟨pb, 3, none⟩ = some (.int .i64 fW20)) := hid H.out.cells.1.2.2.2.1
      refine wp_region_noPanic ?_
      refine wp_region_held_drew (S := fun w' => w'.cell? ⟨pb, 3, none⟩ = some (.int .i64 fW20)) (by kernel_rfl) (by exact HX.out) (fun hHeld => ?_)
      refine wpAnyH_take (i := 0) (oi := { dst := some 31, op := Go.Op.fieldAddr 28 (Go.Operand.tmp 7) 3, type := 0, pos := "l17_make.go:199", after := #[], guard := none }) (v := ?_) rfl (by kernel_rfl) (by kernel_rfl) (by kernel_rfl) (fun _ _ _ h => h) (Or.inl ⟨by rfl, ?_⟩) (by assumption) ?_
      rotate_left
      · (intro w hSw; (try dsimp only at hSw); go_simp <;> try with_reducible rfl)
      try simp only [Act.put, List.setIfInBounds_toArray, List.set_cons_zero, List.set_cons_succ]
      refine wpAnyH_take (i := 1) (oi := { dst := some 32, op := Go.Op.load 3 (Go.Operand.tmp 31), type := 3, pos := "l17_make.go:199", after := #[{ on := 0, ground := Go.Ground.data }], guard := none }) (v := ?_) rfl (by kernel_rfl) (by kernel_rfl) (by kernel_rfl) (fun _ _ _ h => h) (Or.inl ⟨by rfl, ?_⟩) (by assumption) ?_
      rotate_left
      · (intro w hSw; (try dsimp only at hSw); go_simp <;> try with_reducible rfl)
      try simp only [Act.put, List.setIfInBounds_toArray, List.set_cons_zero, List.set_cons_succ]
      refine wpAnyH_take (i := 2) (oi := { dst := some 33, op := Go.Op.move (Go.Operand.tmp 0), type := 70, pos := "l17_make.go:199", after := #[], guard := none }) (v := ?_) rfl (by kernel_rfl) (by kernel_rfl) (by kernel_rfl) (fun _ _ _ h => h) (Or.inl ⟨by rfl, ?_⟩) (by assumption) ?_
      rotate_left
      · (intro w hSw; (try dsimp only at hSw); go_simp <;> try with_reducible rfl)
      try simp only [Act.put, List.setIfInBounds_toArray, List.set_cons_zero, List.set_cons_succ]
      refine wpAnyH_ready (rs := [3]) (by kernel_rfl) (by simp) ?_
      refine AllReadyH.cons (o := { dst := some 34, op := Go.Op.call { callee := Go.Callee.value (Go.Operand.func 60), args := #[Go.Operand.tmp 33, Go.Operand.const (Go.Value.int Go.IntKind.i64 200)], argTypes := #[70, 3] }, type := 3, pos := "l17_make.go:199", after := #[{ on := 2, ground := Go.Ground.data }], guard := none }) rfl (fun K hK => ?_) (AllReadyH.nil)
      go_simp
      refine (below_any b _ _ H.out.m.1).mono ?_
      rintro e W22 ⟨lW22, rfl, lW22a, lW22b, _, m⟩
      replace lW22b := lW22b (by omega)
      replace H := hid (H.out.turn m)
      clear m HX
      have HA1 : W22.cell? ⟨pb, 3, none⟩ = some (.int .i64 fW20) := H.out.cells.1.2.2.2.1
      first | refine hK.out _ _ (by exact HA1) (fun hHeld => ?_) | (go_wp2_with fail; refine hK.out _ _ (by exact HA1) (fun hHeld => ?_))
      clear hK K
      try simp only [Act.put, List.setIfInBounds_toArray, List.set_cons_zero, List.set_cons_succ]
      clear HA1
      have hwl : IntKind.i64.wrap (fW20 + lW22) = fW20 + lW22 := IntWalk.i64_in _ ⟨by omega, by omega⟩
      refine wpAnyH_take (i := 4) (oi := { dst := some 35, op := Go.Op.binOp Go.BinOp.add 3 (Go.Operand.tmp 32) (Go.Operand.tmp 34) 3, type := 3, pos := "l17_make.go:199", after := #[{ on := 1, ground := Go.Ground.data }, { on := 3, ground := Go.Ground.data }], guard := none }) (v := ?_) rfl (by kernel_rfl) (by kernel_rfl) (by kernel_rfl) (fun _ _ _ h => h) (Or.inl ⟨by rfl, ?_⟩) (by assumption) ?_
      rotate_left
      · (intro w hSw; (try dsimp only at hSw); go_simp <;> try with_reducible rfl)
      try simp only [Act.put, List.setIfInBounds_toArray, List.set_cons_zero, List.set_cons_succ]
      refine wpAnyH_take (i := 5) (oi := { dst := some 36, op := Go.Op.fieldAddr 28 (Go.Operand.tmp 7) 4, type := 0, pos := "l17_make.go:199", after := #[{ on := 0, ground := Go.Ground.phase }, { on := 1, ground := Go.Ground.phase }, { on := 2, ground := Go.Ground.phase }, { on := 3, ground := Go.Ground.phase }, { on := 4, ground := Go.Ground.phase }], guard := none }) (v := ?_) rfl (by kernel_rfl) (by kernel_rfl) (by kernel_rfl) (fun _ _ _ h => h) (Or.inl ⟨by rfl, ?_⟩) (by assumption) ?_
      rotate_left
      · (intro w hSw; (try dsimp only at hSw); go_simp <;> try with_reducible rfl)
      try simp only [Act.put, List.setIfInBounds_toArray, List.set_cons_zero, List.set_cons_succ]
      refine wpAnyH_ready (rs := [6]) (by kernel_rfl) (by simp) ?_
      refine AllReadyH.cons (o := { dst := none, op := Go.Op.store 3 (Go.Operand.tmp 36) (Go.Operand.tmp 35), type := 0, pos := "l17_make.go:199", after := #[{ on := 5, ground := Go.Ground.data }, { on := 4, ground := Go.Ground.data }, { on := 3, ground := Go.Ground.chain }, { on := 0, ground := Go.Ground.phase }, { on := 1, ground := Go.Ground.phase }, { on := 2, ground := Go.Ground.phase }, { on := 3, ground := Go.Ground.phase }, { on := 4, ground := Go.Ground.phase }], guard := none }) rfl (fun K hK => ?_) (AllReadyH.nil)
      obtain ⟨⟨c0, c1, c2, c3, c4, c5⟩, hfr⟩ := H.out.cells
      have f4 := hfr 4
      have HY : (W22.setCell ⟨pb, 4, none⟩ (.int .i64 (fW20 + lW22))).cell? ⟨pb, 3, none⟩ = some (.int .i64 fW20) := (H.out.s4 _).cells.1.2.2.2.1
      clear hfr
      go_simp
      refine hK.out _ _ (by exact HY) (fun hHeld => ?_)
      clear hK K c0 c1 c2 c3 c4 c5 f4 HY
      try simp only [Act.put, List.setIfInBounds_toArray, List.set_cons_zero, List.set_cons_succ]
      refine wpAnyH_done (by kernel_rfl) ?_ _
      refine NoPanic.normal ?_
      clear hHeld hwl
      replace H := hid (H.out.s4 (fW20 + lW22))
      generalize W22.setCell ⟨pb, 4, none⟩ (.int .i64 (fW20 + lW22)) = W23 at H ⊢
      have tkC : True := trivial
      go_wp2_with (go_at_call 78; clear tkC; refine (once_any b _ _ H.out.m.1).mono ?_; rintro e W5 ⟨v, rfl, m⟩; replace H := hid (H.out.turn m); clear m; obtain ⟨⟨c0, c1, c2, c3, c4, c5⟩, _⟩ := H.out.cells; obtain ⟨⟨r0, r1, r2, r3, r4, r5⟩, hfr2⟩ := H.out.ans; have q0 := hfr2 0; have q1 := hfr2 1; have q2 := hfr2 2; have q3 := hfr2 3; have q4 := hfr2 4; have q5 := hfr2 5; have hne : rb ≠ pb := H.out.ne; clear hfr2; cases v)
      · have HP : Hid (DP o n ⟨IT, QT, xs, fW20, (fW20 + lW22), 0⟩) := hid (HRES.out _ _ _ _ (by omega) (by omega) (by omega) (by omega) (by omega) (by omega) (by omega) (by omega))
        have HF := hid H.out.fin
        simp only [wr6] at HF
        have z := HF.out.1
        have z0 := (z.cell 0).trans rfl; have z1 := (z.cell 1).trans rfl; have z2 := (z.cell 2).trans rfl; have z3 := (z.cell 3).trans rfl; have z4 := (z.cell 4).trans rfl; have z5 := (z.cell 5).trans rfl
        simp only [paA, List.getElem?_toArray, List.getElem?_cons_zero, List.getElem?_cons_succ] at z0 z1 z2 z3 z4 z5
        refine bodyPost_ret (v := .agg #[.int .i64 IT, .int .i64 QT, .int .i64 (xs), .int .i64 (fW20), .int .i64 ((fW20 + lW22)), .int .i64 (0)]) (by simp [results, Try.results104, go_sem, z0, z1, z2, z3, z4, z5]; try rfl) rfl ?_
        exact ⟨⟨IT, QT, xs, fW20, (fW20 + lW22), 0⟩, rfl, HP.out, HF.out.2⟩
      · clear c0 c1 c2 c3 c4 c5 r0 r1 r2 r3 r4 r5 q0 q1 q2 q3 q4 q5 hne
        go_wp2_with (go_at_call 60; refine (below_any b _ _ H.out.m.1).mono ?_; rintro e W24 ⟨gW24, rfl, gW24a, gW24b, _, m⟩; replace gW24b := gW24b (by omega); replace H := hid (H.out.turn m); clear m; have hw9 : IntKind.i64.wrap (1 + gW24) = 1 + gW24 := IntWalk.i64_in _ ⟨by omega, by omega⟩; obtain ⟨⟨c0, c1, c2, c3, c4, c5⟩, hfr⟩ := H.out.cells; obtain ⟨⟨r0, r1, r2, r3, r4, r5⟩, hfr2⟩ := H.out.ans; have q0 := hfr2 0; have q1 := hfr2 1; have q2 := hfr2 2; have q3 := hfr2 3; have q4 := hfr2 4; have q5 := hfr2 5; have hne : rb ≠ pb := H.out.ne; clear hfr2; have f2 := hfr 2; have f3 := hfr 3; have f4 := hfr 4; have f5 := hfr 5; clear hfr)
        replace H := hid (H.out.s5 (1 + gW24))
        have HP : Hid (DP o n ⟨IT, QT, xs, fW20, (fW20 + lW22), 1 + gW24⟩) := hid (HRES.out _ _ _ _ (by omega) (by omega) (by omega) (by omega) (by omega) (by omega) (by omega) (by omega))
        have HF := hid H.out.fin
        simp only [wr6] at HF
        have z := HF.out.1
        have z0 := (z.cell 0).trans rfl; have z1 := (z.cell 1).trans rfl; have z2 := (z.cell 2).trans rfl; have z3 := (z.cell 3).trans rfl; have z4 := (z.cell 4).trans rfl; have z5 := (z.cell 5).trans rfl
        simp only [paA, List.getElem?_toArray, List.getElem?_cons_zero, List.getElem?_cons_succ] at z0 z1 z2 z3 z4 z5
        refine bodyPost_ret (v := .agg #[.int .i64 IT, .int .i64 QT, .int .i64 (xs), .int .i64 (fW20), .int .i64 ((fW20 + lW22)), .int .i64 (1 + gW24)]) (by simp [results, Try.results104, go_sem, z0, z1, z2, z3, z4, z5]; try rfl) rfl ?_
        exact ⟨⟨IT, QT, xs, fW20, (fW20 + lW22), 1 + gW24⟩, rfl, HP.out, HF.out.2⟩
end Go.Proofs.Ytmbdeafpfdeigaa
