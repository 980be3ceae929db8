/- Draws of making: one part. -/
import Derived.Test.YtmbdeafpfdeigaaJ1
import Derived.Test.YtmbdeafpfdeigaaJa
import Derived.Deep.RegionHeldLaw
import Derived.BigRegion
import Derived.WalkLawsBesides
import Derived.WalkSpells
import Derived.Handy
import Derived.Outline
import Derived.Deep.QuietTactic
import Derived.BigQuiet
import Derived.Deep.RegionWith
import Derived.Test.YtmbdeafpfdeigaaPc
import Derived.Test.YtmbdeafpfdeigaaIt
namespace Go.Proofs.Ytmbdeafpfdeigaa
open Go Go.ChangeShapes Go.WideShapes Go.ChangeAt Go.RowKit
set_option linter.unusedVariables false
set_option linter.unusedSimpArgs false

def paA (p : PA6) : Array Value := #[.int .i64 p.item, .int .i64 p.qty, .int .i64 p.scr, .int .i64 p.fst, .int .i64 p.lst, .int .i64 p.grp]
/-- A part being drawn: in its own box, the answer's box and the cursor beside it. -/
structure DS (b : Nat) (w : World) (rb pb : Nat) (p : PA6) (W : World) : Prop where
  m : Moved b w W
  r : CB W rb (paA ⟨0, 0, 0, 0, 0, 0⟩) 28
  x : CB W pb (paA p) 28
  ne : rb ≠ pb
  lo : b < w.heap.size ∧ w.heap.size ≤ rb ∧ w.heap.size ≤ pb
theorem DS.turn {b : Nat} {w W W' : World} {rb pb : Nat} {p : PA6} (h : DS b w rb pb p W) (k : Moved b W W') : DS b w rb pb p W' := by
  have := h.lo
  exact ⟨h.m.trans k, h.r.turns k.2 (by omega), h.x.turns k.2 (by omega), h.ne, h.lo⟩
theorem Moved.setHigh {b : Nat} {w W : World} (h : Moved b w W) {c : Nat} (hb : b < w.heap.size) (hc : w.heap.size ≤ c) (o : Nat) (v : Value) : Moved b w (W.setCell ⟨c, o, none⟩ v) := by
  have hs : (W.setCell ⟨c, o, none⟩ v).heap.size = W.heap.size := by simp
  have hk : ∀ k, k ≠ c → (W.setCell ⟨c, o, none⟩ v).heap[k]? = W.heap[k]? := fun k hk => Below.heap_setCell _ _ _ _ (by simpa using hk)
  refine ⟨h.1.low (by omega) (fun k q => hk k (by omega)), ?_⟩
  have t := h.2
  exact ⟨t.os, t.tape, t.output, by rw [hs]; exact t.size, fun k h1 h2 => (hk k (by omega)).trans (t.block k h1 h2)⟩
theorem Moved.newHigh {b : Nat} {w W : World} (h : Moved b w W) (o : Obj) : Moved b w (W.alloc o) := h.alloc o
theorem DS.s2 {b : Nat} {w W : World} {rb pb : Nat} {it qt sc fs la gr : Int} (h : DS b w rb pb ⟨it, qt, sc, fs, la, gr⟩ W) (v : Int) : DS b w rb pb ⟨it, qt, v, fs, la, gr⟩ (W.setCell ⟨pb, 2, none⟩ (.int .i64 v)) := by
  have := h.lo
  refine ⟨h.m.setHigh h.lo.1 h.lo.2.2 _ _, h.r.other _ h.ne, ?_, h.ne, h.lo⟩
  have := h.x.set 2 (.int .i64 v)
  exact this
theorem DS.s3 {b : Nat} {w W : World} {rb pb : Nat} {it qt sc fs la gr : Int} (h : DS b w rb pb ⟨it, qt, sc, fs, la, gr⟩ W) (v : Int) : DS b w rb pb ⟨it, qt, sc, v, la, gr⟩ (W.setCell ⟨pb, 3, none⟩ (.int .i64 v)) := by
  have := h.lo
  refine ⟨h.m.setHigh h.lo.1 h.lo.2.2 _ _, h.r.other _ h.ne, ?_, h.ne, h.lo⟩
  have := h.x.set 3 (.int .i64 v)
  exact this
theorem DS.s4 {b : Nat} {w W : World} {rb pb : Nat} {it qt sc fs la gr : Int} (h : DS b w rb pb ⟨it, qt, sc, fs, la, gr⟩ W) (v : Int) : DS b w rb pb ⟨it, qt, sc, fs, v, gr⟩ (W.setCell ⟨pb, 4, none⟩ (.int .i64 v)) := by
  have := h.lo
  refine ⟨h.m.setHigh h.lo.1 h.lo.2.2 _ _, h.r.other _ h.ne, ?_, h.ne, h.lo⟩
  have := h.x.set 4 (.int .i64 v)
  exact this
theorem DS.s5 {b : Nat} {w W : World} {rb pb : Nat} {it qt sc fs la gr : Int} (h : DS b w rb pb ⟨it, qt, sc, fs, la, gr⟩ W) (v : Int) : DS b w rb pb ⟨it, qt, sc, fs, la, v⟩ (W.setCell ⟨pb, 5, none⟩ (.int .i64 v)) := by
  have := h.lo
  refine ⟨h.m.setHigh h.lo.1 h.lo.2.2 _ _, h.r.other _ h.ne, ?_, h.ne, h.lo⟩
  have := h.x.set 5 (.int .i64 v)
  exact this
theorem DS.cells {b : Nat} {w W : World} {rb pb : Nat} {it qt sc fs la gr : Int} (h : DS b w rb pb ⟨it, qt, sc, fs, la, gr⟩ W) : (W.cell? ⟨pb, 0, none⟩ = some (.int .i64 it) ∧ W.cell? ⟨pb, 1, none⟩ = some (.int .i64 qt) ∧ W.cell? ⟨pb, 2, none⟩ = some (.int .i64 sc) ∧ W.cell? ⟨pb, 3, none⟩ = some (.int .i64 fs) ∧ W.cell? ⟨pb, 4, none⟩ = some (.int .i64 la) ∧ W.cell? ⟨pb, 5, none⟩ = some (.int .i64 gr)) ∧ ∀ o, W.frozen? ⟨pb, o, none⟩ = false :=
  ⟨⟨(h.x.cell 0).trans rfl, (h.x.cell 1).trans rfl, (h.x.cell 2).trans rfl, (h.x.cell 3).trans rfl, (h.x.cell 4).trans rfl, (h.x.cell 5).trans rfl⟩, fun o => h.x.fr o⟩
theorem DS.ans {b : Nat} {w W : World} {rb pb : Nat} {p : PA6} (h : DS b w rb pb p W) : (W.cell? ⟨rb, 0, none⟩ = some (.int .i64 0) ∧ W.cell? ⟨rb, 1, none⟩ = some (.int .i64 0) ∧ W.cell? ⟨rb, 2, none⟩ = some (.int .i64 0) ∧ W.cell? ⟨rb, 3, none⟩ = some (.int .i64 0) ∧ W.cell? ⟨rb, 4, none⟩ = some (.int .i64 0) ∧ W.cell? ⟨rb, 5, none⟩ = some (.int .i64 0)) ∧ ∀ o, W.frozen? ⟨rb, o, none⟩ = false :=
  ⟨⟨(h.r.cell 0).trans rfl, (h.r.cell 1).trans rfl, (h.r.cell 2).trans rfl, (h.r.cell 3).trans rfl, (h.r.cell 4).trans rfl, (h.r.cell 5).trans rfl⟩, fun o => h.r.fr o⟩
def wr6 (W : World) (r : Nat) (p : PA6) : World := (((((W.setCell ⟨r, 0, none⟩ (.int .i64 p.item)).setCell ⟨r, 1, none⟩ (.int .i64 p.qty)).setCell ⟨r, 2, none⟩ (.int .i64 p.scr)).setCell ⟨r, 3, none⟩ (.int .i64 p.fst)).setCell ⟨r, 4, none⟩ (.int .i64 p.lst)).setCell ⟨r, 5, none⟩ (.int .i64 p.grp)
theorem DS.fin {b : Nat} {w W : World} {rb pb : Nat} {p : PA6} (h : DS b w rb pb p W) : CB (wr6 W rb p) rb (paA p) 28 ∧ Moved b w (wr6 W rb p) := by
  obtain ⟨g1, g2, g3⟩ := h.lo
  refine ⟨?_, (((((h.m.setHigh g1 g2 _ _).setHigh g1 g2 _ _).setHigh g1 g2 _ _).setHigh g1 g2 _ _).setHigh g1 g2 _ _).setHigh g1 g2 _ _⟩
  have := ((((((h.r.set 0 (.int .i64 p.item)).set 1 (.int .i64 p.qty)).set 2 (.int .i64 p.scr)).set 3 (.int .i64 p.fst)).set 4 (.int .i64 p.lst)).set 5 (.int .i64 p.grp))
  exact this
/-- What a drawn part is like. -/
def DP (o n : Nat) (p : PA6) : Prop := ((o : Int) + 1 ≤ p.item ∧ p.item < (n : Int)) ∧ (1 ≤ p.qty ∧ p.qty ≤ 5) ∧ (0 ≤ p.scr ∧ p.scr ≤ 19) ∧ (0 ≤ p.fst ∧ p.fst ≤ 99) ∧ (p.fst ≤ p.lst ∧ p.lst ≤ 40000) ∧ (0 ≤ p.grp ∧ p.grp ≤ 2)

set_option maxRecDepth 20000 in
set_option maxHeartbeats 8000000 in
theorem drawPart_any (b o n : Nat) (w : World) (hc : Cursor w b) (hn : (n : Int) ≤ 1000) (ho : o + 1 < n) :
    Calls Try.prog 104 #[.pointer (some ⟨b, 0, none⟩), .int .i64 (o : Int), .int .i64 (n : Int)] w fun e w' => ∃ p : PA6, e = .returned p.val ∧ DP o n p ∧ Moved b w w' := by
  have HC : Hid (Cursor w b) := hc
  clear hc
  have hlo : b < w.heap.size := HC.out.lt
  have hw1 : IntKind.i64.wrap ((o : Int) + 1) = (o : Int) + 1 := IntWalk.i64_in _ ⟨by omega, by omega⟩
  have hw2 : IntKind.i64.wrap ((n : Int) - (o : Int)) = (n : Int) - (o : Int) := IntWalk.i64_in _ ⟨by omega, by omega⟩
  have hw3 : IntKind.i64.wrap ((n : Int) - (o : Int) - 1) = (n : Int) - (o : Int) - 1 := IntWalk.i64_in _ ⟨by omega, by omega⟩
  have tok1 : True := trivial
  go_enter Try.func104, Try.ntmps104
  go_wp2_with (first
    | (go_at_call 60; clear tok1; refine (below_any b _ _ (HC.out.alloc _)).mono ?_; rintro e w1 ⟨x1, rfl, x1a, x1b, _, m1⟩; have hw4 : IntKind.i64.wrap ((o : Int) + 1 + x1) = (o : Int) + 1 + x1 := IntWalk.i64_in _ ⟨by omega, by omega⟩)
    | (go_at_call 60; refine (below_any b _ _ m1.1).mono ?_; rintro e w2 ⟨x2, rfl, x2a, x2b, _, m2⟩; have hw5 : IntKind.i64.wrap (1 + x2) = 1 + x2 := IntWalk.i64_in _ ⟨by omega, by omega⟩))
  have HM2 : Hid (Moved b w w2 ∧ CB w2 w.heap.size (paA ⟨0, 0, 0, 0, 0, 0⟩) 28 ∧ w.heap.size < w2.heap.size) := hid (by
    have k1 := (CB.new (w := w) (paA ⟨0, 0, 0, 0, 0, 0⟩) 28)
    have k2 := (k1.turns m1.2 (by omega)).turns m2.2 (by omega)
    exact ⟨((Moved.refl HC.out).alloc _).trans (m1.trans m2), k2, k2.lt⟩)
  have H : Hid (DS b w w.heap.size w2.heap.size ⟨(o : Int) + 1 + x1, 1 + x2, 0, 0, 40000, 0⟩ (w2.alloc (.cells #[.int .i64 ((o : Int) + 1 + x1), .int .i64 (1 + x2), .int .i64 0, .int .i64 0, .int .i64 40000, .int .i64 0] 28))) := hid ⟨HM2.out.1.alloc _, HM2.out.2.1.alloc _, CB.new _ _, by have := HM2.out.2.2; omega, hlo, Nat.le_refl _, by have := HM2.out.2.2; omega⟩
  have HRES : Hid (∀ sc fs la gr : Int, 0 ≤ sc → sc ≤ 19 → 0 ≤ fs → fs ≤ 99 → fs ≤ la → la ≤ 40000 → 0 ≤ gr → gr ≤ 2 → DP o n ⟨(o : Int) + 1 + x1, 1 + x2, sc, fs, la, gr⟩) := hid (fun sc fs la gr g1 g2 g3 g4 g5 g6 g7 g8 => ⟨⟨by show (o : Int) + 1 ≤ (o : Int) + 1 + x1; omega, by show (o : Int) + 1 + x1 < (n : Int); have := x1b (by omega); omega⟩, ⟨by show 1 ≤ 1 + x2; omega, by show 1 + x2 ≤ 5; have := x2b (by omega); omega⟩, ⟨g1, g2⟩, ⟨g3, g4⟩, ⟨g5, g6⟩, ⟨g7, g8⟩⟩)
  clear HM2 m1 m2 hw1 hw2 hw3 hw4 hw5 x1a x1b x2a x2b HC
  generalize w2.alloc (.cells #[.int .i64 ((o : Int) + 1 + x1), .int .i64 (1 + x2), .int .i64 0, .int .i64 0, .int .i64 40000, .int .i64 0] 28) = WW at H ⊢
  generalize w2.heap.size = pb at H ⊢
  generalize w.heap.size = rb at H ⊢
  generalize (o : Int) + 1 + x1 = IT at H HRES ⊢
  generalize 1 + x2 = QT at H HRES ⊢
  have tkA : True := trivial
  go_wp2_with (go_at_call 78; clear tkA; refine (once_any b _ _ H.out.m.1).mono ?_; rintro e W3 ⟨v, rfl, m⟩; replace H := hid (H.out.turn m); clear m; cases v)
  · have tkB : True := trivial
    go_wp2_with (go_at_call 78; clear tkB; refine (once_any b _ _ H.out.m.1).mono ?_; rintro e W4 ⟨v, rfl, m⟩; replace H := hid (H.out.turn m); clear m; cases v)
    · have tkC : True := trivial
      go_wp2_with (go_at_call 78; clear tkC; refine (once_any b _ _ H.out.m.1).mono ?_; rintro e W5 ⟨v, rfl, m⟩; replace H := hid (H.out.turn m); clear m; obtain ⟨⟨c0, c1, c2, c3, c4, c5⟩, _⟩ := H.out.cells; obtain ⟨⟨r0, r1, r2, r3, r4, r5⟩, hfr2⟩ := H.out.ans; have q0 := hfr2 0; have q1 := hfr2 1; have q2 := hfr2 2; have q3 := hfr2 3; have q4 := hfr2 4; have q5 := hfr2 5; have hne : rb ≠ pb := H.out.ne; clear hfr2; cases v)
      · have HP : Hid (DP o n ⟨IT, QT, 0, 0, 40000, 0⟩) := hid (HRES.out _ _ _ _ (by omega) (by omega) (by omega) (by omega) (by omega) (by omega) (by omega) (by omega))
        have HF := hid H.out.fin
        simp only [wr6] at HF
        have z := HF.out.1
        have z0 := (z.cell 0).trans rfl; have z1 := (z.cell 1).trans rfl; have z2 := (z.cell 2).trans rfl; have z3 := (z.cell 3).trans rfl; have z4 := (z.cell 4).trans rfl; have z5 := (z.cell 5).trans rfl
        simp only [paA, List.getElem?_toArray, List.getElem?_cons_zero, List.getElem?_cons_succ] at z0 z1 z2 z3 z4 z5
        refine bodyPost_ret (v := .agg #[.int .i64 IT, .int .i64 QT, .int .i64 (0), .int .i64 (0), .int .i64 (40000), .int .i64 (0)]) (by simp [results, Try.results104, go_sem, z0, z1, z2, z3, z4, z5]; try rfl) rfl ?_
        exact ⟨⟨IT, QT, 0, 0, 40000, 0⟩, rfl, HP.out, HF.out.2⟩
      · clear c0 c1 c2 c3 c4 c5 r0 r1 r2 r3 r4 r5 q0 q1 q2 q3 q4 q5 hne
        go_wp2_with (go_at_call 60; refine (below_any b _ _ H.out.m.1).mono ?_; rintro e W11 ⟨gW11, rfl, gW11a, gW11b, _, m⟩; replace gW11b := gW11b (by omega); replace H := hid (H.out.turn m); clear m; have hw9 : IntKind.i64.wrap (1 + gW11) = 1 + gW11 := IntWalk.i64_in _ ⟨by omega, by omega⟩; obtain ⟨⟨c0, c1, c2, c3, c4, c5⟩, hfr⟩ := H.out.cells; obtain ⟨⟨r0, r1, r2, r3, r4, r5⟩, hfr2⟩ := H.out.ans; have q0 := hfr2 0; have q1 := hfr2 1; have q2 := hfr2 2; have q3 := hfr2 3; have q4 := hfr2 4; have q5 := hfr2 5; have hne : rb ≠ pb := H.out.ne; clear hfr2; have f2 := hfr 2; have f3 := hfr 3; have f4 := hfr 4; have f5 := hfr 5; clear hfr)
        replace H := hid (H.out.s5 (1 + gW11))
        have HP : Hid (DP o n ⟨IT, QT, 0, 0, 40000, 1 + gW11⟩) := hid (HRES.out _ _ _ _ (by omega) (by omega) (by omega) (by omega) (by omega) (by omega) (by omega) (by omega))
        have HF := hid H.out.fin
        simp only [wr6] at HF
        have z := HF.out.1
        have z0 := (z.cell 0).trans rfl; have z1 := (z.cell 1).trans rfl; have z2 := (z.cell 2).trans rfl; have z3 := (z.cell 3).trans rfl; have z4 := (z.cell 4).trans rfl; have z5 := (z.cell 5).trans rfl
        simp only [paA, List.getElem?_toArray, List.getElem?_cons_zero, List.getElem?_cons_succ] at z0 z1 z2 z3 z4 z5
        refine bodyPost_ret (v := .agg #[.int .i64 IT, .int .i64 QT, .int .i64 (0), .int .i64 (0), .int .i64 (40000), .int .i64 (1 + gW11)]) (by simp [results, Try.results104, go_sem, z0, z1, z2, z3, z4, z5]; try rfl) rfl ?_
        exact ⟨⟨IT, QT, 0, 0, 40000, 1 + gW11⟩, rfl, HP.out, HF.out.2⟩
    · go_wp2_with (go_at_call 60; refine (below_any b _ _ H.out.m.1).mono ?_; rintro e W12 ⟨fW12, rfl, fW12a, fW12b, _, m⟩; replace fW12b := fW12b (by omega); replace H := hid (H.out.turn m); clear m; obtain ⟨⟨c0, c1, c2, c3, c4, c5⟩, hfr⟩ := H.out.cells; have f2 := hfr 2; have f3 := hfr 3; have f4 := hfr 4; have f5 := hfr 5; clear hfr)
      replace H := hid (H.out.s3 fW12)
      clear c0 c1 c2 c3 c4 c5 f2 f3 f4 f5
      generalize W12.setCell ⟨pb, 3, none⟩ (.int .i64 fW12) = W13 at H ⊢
      replace H := hid (H.out.turn ((Moved.refl H.out.m.1).drew))
      have HX : Hid (W13.drew.cell? ⟨pb, 3, none⟩ = some (.int .i64 fW12)) := hid H.out.cells.1.2.2.2.1
      refine wp_region_noPanic ?_
      refine wp_region_held_drew (S := fun w' => w'.cell? ⟨pb, 3, none⟩ = some (.int .i64 fW12)) (by kernel_rfl) (by exact HX.out) (fun hHeld => ?_)
      refine wpAnyH_take (i := 0) (oi := { dst := some 31, op := Go.Op.fieldAddr 28 (Go.Operand.tmp 7) 3, type := 0, pos := "l17_make.go:199", after := #[], guard := none }) (v := ?_) rfl (by kernel_rfl) (by kernel_rfl) (by kernel_rfl) (fun _ _ _ h => h) (Or.inl ⟨by rfl, ?_⟩) (by assumption) ?_
      rotate_left
      · (intro w hSw; (try dsimp only at hSw); go_simp <;> try with_reducible rfl)
      try simp only [Act.put, List.setIfInBounds_toArray, List.set_cons_zero, List.set_cons_succ]
      refine wpAnyH_take (i := 1) (oi := { dst := some 32, op := Go.Op.load 3 (Go.Operand.tmp 31), type := 3, pos := "l17_make.go:199", after := #[{ on := 0, ground := Go.Ground.data }], guard := none }) (v := ?_) rfl (by kernel_rfl) (by kernel_rfl) (by kernel_rfl) (fun _ _ _ h => h) (Or.inl ⟨by rfl, ?_⟩) (by assumption) ?_
      rotate_left
      · (intro w hSw; (try dsimp only at hSw); go_simp <;> try with_reducible rfl)
      try simp only [Act.put, List.setIfInBounds_toArray, List.set_cons_zero, List.set_cons_succ]
      refine wpAnyH_take (i := 2) (oi := { dst := some 33, op := Go.Op.move (Go.Operand.tmp 0), type := 70, pos := "l17_make.go:199", after := #[], guard := none }) (v := ?_) rfl (by kernel_rfl) (by kernel_rfl) (by kernel_rfl) (fun _ _ _ h => h) (Or.inl ⟨by rfl, ?_⟩) (by assumption) ?_
      rotate_left
      · (intro w hSw; (try dsimp only at hSw); go_simp <;> try with_reducible rfl)
      try simp only [Act.put, List.setIfInBounds_toArray, List.set_cons_zero, List.set_cons_succ]
      refine wpAnyH_ready (rs := [3]) (by kernel_rfl) (by simp) ?_
      refine AllReadyH.cons (o := { dst := some 34, op := Go.Op.call { callee := Go.Callee.value (Go.Operand.func 60), args := #[Go.Operand.tmp 33, Go.Operand.const (Go.Value.int Go.IntKind.i64 200)], argTypes := #[70, 3] }, type := 3, pos := "l17_make.go:199", after := #[{ on := 2, ground := Go.Ground.data }], guard := none }) rfl (fun K hK => ?_) (AllReadyH.nil)
      go_simp
      refine (below_any b _ _ H.out.m.1).mono ?_
      rintro e W14 ⟨lW14, rfl, lW14a, lW14b, _, m⟩
      replace lW14b := lW14b (by omega)
      replace H := hid (H.out.turn m)
      clear m HX
      have HA1 : W14.cell? ⟨pb, 3, none⟩ = some (.int .i64 fW12) := H.out.cells.1.2.2.2.1
      first | refine hK.out _ _ (by exact HA1) (fun hHeld => ?_) | (go_wp2_with fail; refine hK.out _ _ (by exact HA1) (fun hHeld => ?_))
      clear hK K
      try simp only [Act.put, List.setIfInBounds_toArray, List.set_cons_zero, List.set_cons_succ]
      clear HA1
      have hwl : IntKind.i64.wrap (fW12 + lW14) = fW12 + lW14 := IntWalk.i64_in _ ⟨by omega, by omega⟩
      refine wpAnyH_take (i := 4) (oi := { dst := some 35, op := Go.Op.binOp Go.BinOp.add 3 (Go.Operand.tmp 32) (Go.Operand.tmp 34) 3, type := 3, pos := "l17_make.go:199", after := #[{ on := 1, ground := Go.Ground.data }, { on := 3, ground := Go.Ground.data }], guard := none }) (v := ?_) rfl (by kernel_rfl) (by kernel_rfl) (by kernel_rfl) (fun _ _ _ h => h) (Or.inl ⟨by rfl, ?_⟩) (by assumption) ?_
      rotate_left
      · (intro w hSw; (try dsimp only at hSw); go_simp <;> try with_reducible rfl)
      try simp only [Act.put, List.setIfInBounds_toArray, List.set_cons_zero, List.set_cons_succ]
      refine wpAnyH_take (i := 5) (oi := { dst := some 36, op := Go.Op.fieldAddr 28 (Go.Operand.tmp 7) 4, type := 0, pos := "l17_make.go:199", after := #[{ on := 0, ground := Go.Ground.phase }, { on := 1, ground := Go.Ground.phase }, { on := 2, ground := Go.Ground.phase }, { on := 3, ground := Go.Ground.phase }, { on := 4, ground := Go.Ground.phase }], guard := none }) (v := ?_) rfl (by kernel_rfl) (by kernel_rfl) (by kernel_rfl) (fun _ _ _ h => h) (Or.inl ⟨by rfl, ?_⟩) (by assumption) ?_
      rotate_left
      · (intro w hSw; (try dsimp only at hSw); go_simp <;> try with_reducible rfl)
      try simp only [Act.put, List.setIfInBounds_toArray, List.set_cons_zero, List.set_cons_succ]
      refine wpAnyH_ready (rs := [6]) (by kernel_rfl) (by simp) ?_
      refine AllReadyH.cons (o := { dst := none, op := Go.Op.store 3 (Go.Operand.tmp 36) (Go.Operand.tmp 35), type := 0, pos := "l17_make.go:199", after := #[{ on := 5, ground := Go.Ground.data }, { on := 4, ground := Go.Ground.data }, { on := 3, ground := Go.Ground.chain }, { on := 0, ground := Go.Ground.phase }, { on := 1, ground := Go.Ground.phase }, { on := 2, ground := Go.Ground.phase }, { on := 3, ground := Go.Ground.phase }, { on := 4, ground := Go.Ground.phase }], guard := none }) rfl (fun K hK => ?_) (AllReadyH.nil)
      obtain ⟨⟨c0, c1, c2, c3, c4, c5⟩, hfr⟩ := H.out.cells
      have f4 := hfr 4
      have HY : (W14.setCell ⟨pb, 4, none⟩ (.int .i64 (fW12 + lW14))).cell? ⟨pb, 3, none⟩ = some (.int .i64 fW12) := (H.out.s4 _).cells.1.2.2.2.1
      clear hfr
      go_simp
      refine hK.out _ _ (by exact HY) (fun hHeld => ?_)
      clear hK K c0 c1 c2 c3 c4 c5 f4 HY
      try simp only [Act.put, List.setIfInBounds_toArray, List.set_cons_zero, List.set_cons_succ]
      refine wpAnyH_done (by kernel_rfl) ?_ _
      refine NoPanic.normal ?_
      clear hHeld hwl
      replace H := hid (H.out.s4 (fW12 + lW14))
      generalize W14.setCell ⟨pb, 4, none⟩ (.int .i64 (fW12 + lW14)) = W15 at H ⊢
      have tkC : True := trivial
      go_wp2_with (go_at_call 78; clear tkC; refine (once_any b _ _ H.out.m.1).mono ?_; rintro e W5 ⟨v, rfl, m⟩; replace H := hid (H.out.turn m); clear m; obtain ⟨⟨c0, c1, c2, c3, c4, c5⟩, _⟩ := H.out.cells; obtain ⟨⟨r0, r1, r2, r3, r4, r5⟩, hfr2⟩ := H.out.ans; have q0 := hfr2 0; have q1 := hfr2 1; have q2 := hfr2 2; have q3 := hfr2 3; have q4 := hfr2 4; have q5 := hfr2 5; have hne : rb ≠ pb := H.out.ne; clear hfr2; cases v)
      · have HP : Hid (DP o n ⟨IT, QT, 0, fW12, (fW12 + lW14), 0⟩) := hid (HRES.out _ _ _ _ (by omega) (by omega) (by omega) (by omega) (by omega) (by omega) (by omega) (by omega))
        have HF := hid H.out.fin
        simp only [wr6] at HF
        have z := HF.out.1
        have z0 := (z.cell 0).trans rfl; have z1 := (z.cell 1).trans rfl; have z2 := (z.cell 2).trans rfl; have z3 := (z.cell 3).trans rfl; have z4 := (z.cell 4).trans rfl; have z5 := (z.cell 5).trans rfl
        simp only [paA, List.getElem?_toArray, List.getElem?_cons_zero, List.getElem?_cons_succ] at z0 z1 z2 z3 z4 z5
        refine bodyPost_ret (v := .agg #[.int .i64 IT, .int .i64 QT, .int .i64 (0), .int .i64 (fW12), .int .i64 ((fW12 + lW14)), .int .i64 (0)]) (by simp [results, Try.results104, go_sem, z0, z1, z2, z3, z4, z5]; try rfl) rfl ?_
        exact ⟨⟨IT, QT, 0, fW12, (fW12 + lW14), 0⟩, rfl, HP.out, HF.out.2⟩
      · clear c0 c1 c2 c3 c4 c5 r0 r1 r2 r3 r4 r5 q0 q1 q2 q3 q4 q5 hne
        go_wp2_with (go_at_call 60; refine (below_any b _ _ H.out.m.1).mono ?_; rintro e W16 ⟨gW16, rfl, gW16a, gW16b, _, m⟩; replace gW16b := gW16b (by omega); replace H := hid (H.out.turn m); clear m; have hw9 : IntKind.i64.wrap (1 + gW16) = 1 + gW16 := IntWalk.i64_in _ ⟨by omega, by omega⟩; obtain ⟨⟨c0, c1, c2, c3, c4, c5⟩, hfr⟩ := H.out.cells; obtain ⟨⟨r0, r1, r2, r3, r4, r5⟩, hfr2⟩ := H.out.ans; have q0 := hfr2 0; have q1 := hfr2 1; have q2 := hfr2 2; have q3 := hfr2 3; have q4 := hfr2 4; have q5 := hfr2 5; have hne : rb ≠ pb := H.out.ne; clear hfr2; have f2 := hfr 2; have f3 := hfr 3; have f4 := hfr 4; have f5 := hfr 5; clear hfr)
        replace H := hid (H.out.s5 (1 + gW16))
        have HP : Hid (DP o n ⟨IT, QT, 0, fW12, (fW12 + lW14), 1 + gW16⟩) := hid (HRES.out _ _ _ _ (by omega) (by omega) (by omega) (by omega) (by omega) (by omega) (by omega) (by omega))
        have HF := hid H.out.fin
        simp only [wr6] at HF
        have z := HF.out.1
        have z0 := (z.cell 0).trans rfl; have z1 := (z.cell 1).trans rfl; have z2 := (z.cell 2).trans rfl; have z3 := (z.cell 3).trans rfl; have z4 := (z.cell 4).trans rfl; have z5 := (z.cell 5).trans rfl
        simp only [paA, List.getElem?_toArray, List.getElem?_cons_zero, List.getElem?_cons_succ] at z0 z1 z2 z3 z4 z5
        refine bodyPost_ret (v := .agg #[.int .i64 IT, .int .i64 QT, .int .i64 (0), .int .i64 (fW12), .int .i64 ((fW12 + lW14)), .int .i64 (1 + gW16)]) (by simp [results, Try.results104, go_sem, z0, z1, z2, z3, z4, z5]; try rfl) rfl ?_
        exact ⟨⟨IT, QT, 0, fW12, (fW12 + lW14), 1 + gW16⟩, rfl, HP.out, HF.out.2⟩
  · go_wp2_with (go_at_call 60; refine (below_any b _ _ H.out.m.1).mono ?_; rintro e W17 ⟨xs, rfl, xsa, xsb, _, m⟩; replace xsb := xsb (by omega); replace H := hid (H.out.turn m); clear m; obtain ⟨⟨c0, c1, c2, c3, c4, c5⟩, hfr⟩ := H.out.cells; have f2 := hfr 2; have f3 := hfr 3; have f4 := hfr 4; have f5 := hfr 5; clear hfr)
    replace H := hid (H.out.s2 xs)
    clear c0 c1 c2 c3 c4 c5 f2 f3 f4 f5
    generalize W17.setCell ⟨pb, 2, none⟩ (.int .i64 xs) = W18 at H ⊢
    have tkB : True := trivial
    go_wp2_with (go_at_call 78; clear tkB; refine (once_any b _ _ H.out.m.1).mono ?_; rintro e W4 ⟨v, rfl, m⟩; replace H := hid (H.out.turn m); clear m; cases v)
    · have tkC : True := trivial
      go_wp2_with (go_at_call 78; clear tkC; refine (once_any b _ _ H.out.m.1).mono ?_; rintro e W5 ⟨v, rfl, m⟩; replace H := hid (H.out.turn m); clear m; obtain ⟨⟨c0, c1, c2, c3, c4, c5⟩, _⟩ := H.out.cells; obtain ⟨⟨r0, r1, r2, r3, r4, r5⟩, hfr2⟩ := H.out.ans; have q0 := hfr2 0; have q1 := hfr2 1; have q2 := hfr2 2; have q3 := hfr2 3; have q4 := hfr2 4; have q5 := hfr2 5; have hne : rb ≠ pb := H.out.ne; clear hfr2; cases v)
      · have HP : Hid (DP o n ⟨IT, QT, xs, 0, 40000, 0⟩) := hid (HRES.out _ _ _ _ (by omega) (by omega) (by omega) (by omega) (by omega) (by omega) (by omega) (by omega))
        have HF := hid H.out.fin
        simp only [wr6] at HF
        have z := HF.out.1
        have z0 := (z.cell 0).trans rfl; have z1 := (z.cell 1).trans rfl; have z2 := (z.cell 2).trans rfl; have z3 := (z.cell 3).trans rfl; have z4 := (z.cell 4).trans rfl; have z5 := (z.cell 5).trans rfl
        simp only [paA, List.getElem?_toArray, List.getElem?_cons_zero, List.getElem?_cons_succ] at z0 z1 z2 z3 z4 z5
        refine bodyPost_ret (v := .agg #[.int .i64 IT, .int .i64 QT, .int .i64 (xs), .int .i64 (0), .int .i64 (40000), .int .i64 (0)]) (by simp [results, Try.results104, go_sem, z0, z1, z2, z3, z4, z5]; try rfl) rfl ?_
        exact ⟨⟨IT, QT, xs, 0, 40000, 0⟩, rfl, HP.out, HF.out.2⟩
      · clear c0 c1 c2 c3 c4 c5 r0 r1 r2 r3 r4 r5 q0 q1 q2 q3 q4 q5 hne
        go_wp2_with (go_at_call 60; refine (below_any b _ _ H.out.m.1).mono ?_; rintro e W19 ⟨gW19, rfl, gW19a, gW19b, _, m⟩; replace gW19b := gW19b (by omega); replace H := hid (H.out.turn m); clear m; have hw9 : IntKind.i64.wrap (1 + gW19) = 1 + gW19 := IntWalk.i64_in _ ⟨by omega, by omega⟩; obtain ⟨⟨c0, c1, c2, c3, c4, c5⟩, hfr⟩ := H.out.cells; obtain ⟨⟨r0, r1, r2, r3, r4, r5⟩, hfr2⟩ := H.out.ans; have q0 := hfr2 0; have q1 := hfr2 1; have q2 := hfr2 2; have q3 := hfr2 3; have q4 := hfr2 4; have q5 := hfr2 5; have hne : rb ≠ pb := H.out.ne; clear hfr2; have f2 := hfr 2; have f3 := hfr 3; have f4 := hfr 4; have f5 := hfr 5; clear hfr)
        replace H := hid (H.out.s5 (1 + gW19))
        have HP : Hid (DP o n ⟨IT, QT, xs, 0, 40000, 1 + gW19⟩) := hid (HRES.out _ _ _ _ (by omega) (by omega) (by omega) (by omega) (by omega) (by omega) (by omega) (by omega))
        have HF := hid H.out.fin
        simp only [wr6] at HF
        have z := HF.out.1
        have z0 := (z.cell 0).trans rfl; have z1 := (z.cell 1).trans rfl; have z2 := (z.cell 2).trans rfl; have z3 := (z.cell 3).trans rfl; have z4 := (z.cell 4).trans rfl; have z5 := (z.cell 5).trans rfl
        simp only [paA, List.getElem?_toArray, List.getElem?_cons_zero, List.getElem?_cons_succ] at z0 z1 z2 z3 z4 z5
        refine bodyPost_ret (v := .agg #[.int .i64 IT, .int .i64 QT, .int .i64 (xs), .int .i64 (0), .int .i64 (40000), .int .i64 (1 + gW19)]) (by simp [results, Try.results104, go_sem, z0, z1, z2, z3, z4, z5]; try rfl) rfl ?_
        exact ⟨⟨IT, QT, xs, 0, 40000, 1 + gW19⟩, rfl, HP.out, HF.out.2⟩
    · go_wp2_with (go_at_call 60; refine (below_any b _ _ H.out.m.1).mono ?_; rintro e W20 ⟨fW20, rfl, fW20a, fW20b, _, m⟩; replace fW20b := fW20b (by omega); replace H := hid (H.out.turn m); clear m; obtain ⟨⟨c0, c1, c2, c3, c4, c5⟩, hfr⟩ := H.out.cells; have f2 := hfr 2; have f3 := hfr 3; have f4 := hfr 4; have f5 := hfr 5; clear hfr)
      replace H := hid (H.out.s3 fW20)
      clear c0 c1 c2 c3 c4 c5 f2 f3 f4 f5
      generalize W20.setCell ⟨pb, 3, none⟩ (.int .i64 fW20) = W21 at H ⊢
      replace H := hid (H.out.turn ((Moved.refl H.out.m.1).drew))
      have HX : Hid (W21.drew.cell? ⟨pb, 3, none⟩ = some (.int .i64 fW20)) := hid H.out.cells.1.2.2.2.1
      refine wp_region_noPanic ?_
      refine wp_region_held_drew (S := fun w' => w'.cell? ⟨pb, 3, none⟩ = some (.int .i64 fW20)) (by kernel_rfl) (by exact HX.out) (fun hHeld => ?_)
      refine wpAnyH_take (i := 0) (oi := { dst := some 31, op := Go.Op.fieldAddr 28 (Go.Operand.tmp 7) 3, type := 0, pos := "l17_make.go:199", after := #[], guard := none }) (v := ?_) rfl (by kernel_rfl) (by kernel_rfl) (by kernel_rfl) (fun _ _ _ h => h) (Or.inl ⟨by rfl, ?_⟩) (by assumption) ?_
      rotate_left
      · (intro w hSw; (try dsimp only at hSw); go_simp <;> try with_reducible rfl)
      try simp only [Act.put, List.setIfInBounds_toArray, List.set_cons_zero, List.set_cons_succ]
      refine wpAnyH_take (i := 1) (oi := { dst := some 32, op := Go.Op.load 3 (Go.Operand.tmp 31), type := 3, pos := "l17_make.go:199", after := #[{ on := 0, ground := Go.Ground.data }], guard := none }) (v := ?_) rfl (by kernel_rfl) (by kernel_rfl) (by kernel_rfl) (fun _ _ _ h => h) (Or.inl ⟨by rfl, ?_⟩) (by assumption) ?_
      rotate_left
      · (intro w hSw; (try dsimp only at hSw); go_simp <;> try with_reducible rfl)
      try simp only [Act.put, List.setIfInBounds_toArray, List.set_cons_zero, List.set_cons_succ]
      refine wpAnyH_take (i := 2) (oi := { dst := some 33, op := Go.Op.move (Go.Operand.tmp 0), type := 70, pos := "l17_make.go:199", after := #[], guard := none }) (v := ?_) rfl (by kernel_rfl) (by kernel_rfl) (by kernel_rfl) (fun _ _ _ h => h) (Or.inl ⟨by rfl, ?_⟩) (by assumption) ?_
      rotate_left
      · (intro w hSw; (try dsimp only at hSw); go_simp <;> try with_reducible rfl)
      try simp only [Act.put, List.setIfInBounds_toArray, List.set_cons_zero, List.set_cons_succ]
      refine wpAnyH_ready (rs := [3]) (by kernel_rfl) (by simp) ?_
      refine AllReadyH.cons (o := { dst := some 34, op := Go.Op.call { callee := Go.Callee.value (Go.Operand.func 60), args := #[Go.Operand.tmp 33, Go.Operand.const (Go.Value.int Go.IntKind.i64 200)], argTypes := #[70, 3] }, type := 3, pos := "l17_make.go:199", after := #[{ on := 2, ground := Go.Ground.data }], guard := none }) rfl (fun K hK => ?_) (AllReadyH.nil)
      go_simp
      refine (below_any b _ _ H.out.m.1).mono ?_
      rintro e W22 ⟨lW22, rfl, lW22a, lW22b, _, m⟩
      replace lW22b := lW22b (by omega)
      replace H := hid (H.out.turn m)
      clear m HX
      have HA1 : W22.cell? ⟨pb, 3, none⟩ = some (.int .i64 fW20) := H.out.cells.1.2.2.2.1
      first | refine hK.out _ _ (by exact HA1) (fun hHeld => ?_) | (go_wp2_with fail; refine hK.out _ _ (by exact HA1) (fun hHeld => ?_))
      clear hK K
      try simp only [Act.put, List.setIfInBounds_toArray, List.set_cons_zero, List.set_cons_succ]
      clear HA1
      have hwl : IntKind.i64.wrap (fW20 + lW22) = fW20 + lW22 := IntWalk.i64_in _ ⟨by omega, by omega⟩
      refine wpAnyH_take (i := 4) (oi := { dst := some 35, op := Go.Op.binOp Go.BinOp.add 3 (Go.Operand.tmp 32) (Go.Operand.tmp 34) 3, type := 3, pos := "l17_make.go:199", after := #[{ on := 1, ground := Go.Ground.data }, { on := 3, ground := Go.Ground.data }], guard := none }) (v := ?_) rfl (by kernel_rfl) (by kernel_rfl) (by kernel_rfl) (fun _ _ _ h => h) (Or.inl ⟨by rfl, ?_⟩) (by assumption) ?_
      rotate_left
      · (intro w hSw; (try dsimp only at hSw); go_simp <;> try with_reducible rfl)
      try simp only [Act.put, List.setIfInBounds_toArray, List.set_cons_zero, List.set_cons_succ]
      refine wpAnyH_take (i := 5) (oi := { dst := some 36, op := Go.Op.fieldAddr 28 (Go.Operand.tmp 7) 4, type := 0, pos := "l17_make.go:199", after := #[{ on := 0, ground := Go.Ground.phase }, { on := 1, ground := Go.Ground.phase }, { on := 2, ground := Go.Ground.phase }, { on := 3, ground := Go.Ground.phase }, { on := 4, ground := Go.Ground.phase }], guard := none }) (v := ?_) rfl (by kernel_rfl) (by kernel_rfl) (by kernel_rfl) (fun _ _ _ h => h) (Or.inl ⟨by rfl, ?_⟩) (by assumption) ?_
      rotate_left
      · (intro w hSw; (try dsimp only at hSw); go_simp <;> try with_reducible rfl)
      try simp only [Act.put, List.setIfInBounds_toArray, List.set_cons_zero, List.set_cons_succ]
      refine wpAnyH_ready (rs := [6]) (by kernel_rfl) (by simp) ?_
      refine AllReadyH.cons (o := { dst := none, op := Go.Op.store 3 (Go.Operand.tmp 36) (Go.Operand.tmp 35), type := 0, pos := "l17_make.go:199", after := #[{ on := 5, ground := Go.Ground.data }, { on := 4, ground := Go.Ground.data }, { on := 3, ground := Go.Ground.chain }, { on := 0, ground := Go.Ground.phase }, { on := 1, ground := Go.Ground.phase }, { on := 2, ground := Go.Ground.phase }, { on := 3, ground := Go.Ground.phase }, { on := 4, ground := Go.Ground.phase }], guard := none }) rfl (fun K hK => ?_) (AllReadyH.nil)
      obtain ⟨⟨c0, c1, c2, c3, c4, c5⟩, hfr⟩ := H.out.cells
      have f4 := hfr 4
      have HY : (W22.setCell ⟨pb, 4, none⟩ (.int .i64 (fW20 + lW22))).cell? ⟨pb, 3, none⟩ = some (.int .i64 fW20) := (H.out.s4 _).cells.1.2.2.2.1
      clear hfr
      go_simp
      refine hK.out _ _ (by exact HY) (fun hHeld => ?_)
      clear hK K c0 c1 c2 c3 c4 c5 f4 HY
      try simp only [Act.put, List.setIfInBounds_toArray, List.set_cons_zero, List.set_cons_succ]
      refine wpAnyH_done (by kernel_rfl) ?_ _
      refine NoPanic.normal ?_
      clear hHeld hwl
      replace H := hid (H.out.s4 (fW20 + lW22))
      generalize W22.setCell ⟨pb, 4, none⟩ (.int .i64 (fW20 + lW22)) = W23 at H ⊢
      have tkC : True := trivial
      go_wp2_with (go_at_call 78; clear tkC; refine (once_any b _ _ H.out.m.1).mono ?_; rintro e W5 ⟨v, rfl, m⟩; replace H := hid (H.out.turn m); clear m; obtain ⟨⟨c0, c1, c2, c3, c4, c5⟩, _⟩ := H.out.cells; obtain ⟨⟨r0, r1, r2, r3, r4, r5⟩, hfr2⟩ := H.out.ans; have q0 := hfr2 0; have q1 := hfr2 1; have q2 := hfr2 2; have q3 := hfr2 3; have q4 := hfr2 4; have q5 := hfr2 5; have hne : rb ≠ pb := H.out.ne; clear hfr2; cases v)
      · have HP : Hid (DP o n ⟨IT, QT, xs, fW20, (fW20 + lW22), 0⟩) := hid (HRES.out _ _ _ _ (by omega) (by omega) (by omega) (by omega) (by omega) (by omega) (by omega) (by omega))
        have HF := hid H.out.fin
        simp only [wr6] at HF
        have z := HF.out.1
        have z0 := (z.cell 0).trans rfl; have z1 := (z.cell 1).trans rfl; have z2 := (z.cell 2).trans rfl; have z3 := (z.cell 3).trans rfl; have z4 := (z.cell 4).trans rfl; have z5 := (z.cell 5).trans rfl
        simp only [paA, List.getElem?_toArray, List.getElem?_cons_zero, List.getElem?_cons_succ] at z0 z1 z2 z3 z4 z5
        refine bodyPost_ret (v := .agg #[.int .i64 IT, .int .i64 QT, .int .i64 (xs), .int .i64 (fW20), .int .i64 ((fW20 + lW22)), .int .i64 (0)]) (by simp [results, Try.results104, go_sem, z0, z1, z2, z3, z4, z5]; try rfl) rfl ?_
        exact ⟨⟨IT, QT, xs, fW20, (fW20 + lW22), 0⟩, rfl, HP.out, HF.out.2⟩
      · clear c0 c1 c2 c3 c4 c5 r0 r1 r2 r3 r4 r5 q0 q1 q2 q3 q4 q5 hne
        go_wp2_with (go_at_call 60; refine (below_any b _ _ H.out.m.1).mono ?_; rintro e W24 ⟨gW24, rfl, gW24a, gW24b, _, m⟩; replace gW24b := gW24b (by omega); replace H := hid (H.out.turn m); clear m; have hw9 : IntKind.i64.wrap (1 + gW24) = 1 + gW24 := IntWalk.i64_in _ ⟨by omega, by omega⟩; obtain ⟨⟨c0, c1, c2, c3, c4, c5⟩, hfr⟩ := H.out.cells; obtain ⟨⟨r0, r1, r2, r3, r4, r5⟩, hfr2⟩ := H.out.ans; have q0 := hfr2 0; have q1 := hfr2 1; have q2 := hfr2 2; have q3 := hfr2 3; have q4 := hfr2 4; have q5 := hfr2 5; have hne : rb ≠ pb := H.out.ne; clear hfr2; have f2 := hfr 2; have f3 := hfr 3; have f4 := hfr 4; have f5 := hfr 5; clear hfr)
        replace H := hid (H.out.s5 (1 + gW24))
        have HP : Hid (DP o n ⟨IT, QT, xs, fW20, (fW20 + lW22), 1 + gW24⟩) := hid (HRES.out _ _ _ _ (by omega) (by omega) (by omega) (by omega) (by omega) (by omega) (by omega) (by omega))
        have HF := hid H.out.fin
        simp only [wr6] at HF
        have z := HF.out.1
        have z0 := (z.cell 0).trans rfl; have z1 := (z.cell 1).trans rfl; have z2 := (z.cell 2).trans rfl; have z3 := (z.cell 3).trans rfl; have z4 := (z.cell 4).trans rfl; have z5 := (z.cell 5).trans rfl
        simp only [paA, List.getElem?_toArray, List.getElem?_cons_zero, List.getElem?_cons_succ] at z0 z1 z2 z3 z4 z5
        refine bodyPost_ret (v := .agg #[.int .i64 IT, .int .i64 QT, .int .i64 (xs), .int .i64 (fW20), .int .i64 ((fW20 + lW22)), .int .i64 (1 + gW24)]) (by simp [results, Try.results104, go_sem, z0, z1, z2, z3, z4, z5]; try rfl) rfl ?_
        exact ⟨⟨IT, QT, xs, fW20, (fW20 + lW22), 1 + gW24⟩, rfl, HP.out, HF.out.2⟩
end Go.Proofs.Ytmbdeafpfdeigaa

namespace Go.Proofs.Ytmbdeafpfdeigaa
open Go.ChangeShapes Go.WideShapes Go.ChangeAt Go.RowKit
set_option linter.unusedVariables false
set_option linter.unusedSimpArgs false

set_option maxRecDepth 20000 in
theorem pickS_any (b k L : Nat) (cs : Array Value) (w : World) (hc : Cursor w b) (hr : CB w k cs 9) (hk : k ≠ b) (hL : 1 ≤ L ∧ L ≤ 1000) (hs : ∀ j, j < L → ∃ t : ByteArray, cs[j]? = some (.string t) ∧ t.size ≤ 40) :
    Calls Try.prog 102 #[.pointer (some ⟨b, 0, none⟩), .slice (some ⟨k, 0, none⟩) L L] w fun e w' => (∃ t : ByteArray, e = .returned (.string t) ∧ t.size ≤ 40) ∧ Moved b w w' := by
  have HC : Hid (Cursor w b) := hc
  have HR : Hid (CB w k cs 9) := hr
  have HS : Hid (∀ j, j < L → ∃ t : ByteArray, cs[j]? = some (.string t) ∧ t.size ≤ 40) := hs
  have hL1 : (1 : Int) ≤ (L : Int) := by omega
  have hL2 : (L : Int) ≤ 1000 := by omega
  clear hc hr hs
  go_enter Try.func102, Try.ntmps102
  go_wp2_with (go_at_call 60; refine (below_any b _ _ HC.out).mono ?_; rintro e w1 ⟨x, rfl, x0, x1, x2, m1⟩; have x3 := x1 hL1; obtain ⟨j, rfl⟩ : ∃ j : Nat, x = (j : Int) := ⟨x.toNat, by omega⟩; have C1 := HR.out.turns m1.2 hk; obtain ⟨t, ht, hts⟩ := HS.out j (by omega); have c1 : w1.cell? ⟨k, j, none⟩ = some (.string t) := (C1.cell j).trans ht; have M1 : Hid (Moved b w w1) := m1; clear m1 C1 x1 x2 ht)
  go_returns
  exact ⟨⟨t, rfl, hts⟩, M1.out⟩

theorem piece_size (n : Nat) (h : n < 10) : ((⟨#[48, 49, 50, 51, 52, 53, 54, 55, 56, 57]⟩ : ByteArray).extract n (n + 1)).size = 1 := by
  rw [ByteArray.size_extract]
  show min (n + 1) 10 - n = 1
  omega

set_option maxRecDepth 20000 in
theorem text_small (n : Nat) (w : World) (h : n < 10) :
    Calls Try.prog 103 #[.int .i64 (n : Int)] w fun e w' => e = .returned (.string ((⟨#[48, 49, 50, 51, 52, 53, 54, 55, 56, 57]⟩ : ByteArray).extract n (n + 1))) ∧ ∃ q, w' = w.drewN q := by
  have h0 : (0 : Int) ≤ n := by omega
  have h1 : (n : Int) < 10 := by omega
  go_enter Try.func103, Try.ntmps103
  go_wp2_with fail
  go_returns
  exact ⟨rfl, 0, rfl⟩

theorem text_join (n : Nat) (A B : ByteArray) (w : World) (h0 : (10 : Int) ≤ n) (hw1 : wrap64 ((n : Int) / 10) = (n : Int) / 10) (hw2 : IntKind.i64.wrap ((n : Int) / 10) = (n : Int) / 10) (sa : A.size ≤ 100) (sb : B.size ≤ 100)
    (e1 : (⟨#[48, 49, 50, 51, 52, 53, 54, 55, 56, 57]⟩ : ByteArray).extract (n % 10) (n % 10 + 1) = B)
    (ih : ∀ w : World, Calls Try.prog 103 #[.int .i64 ((n : Int) / 10)] w fun e w' => e = .returned (.string A) ∧ ∃ q, w' = w.drewN q) :
    Calls Try.prog 103 #[.int .i64 (n : Int)] w fun e w' => e = .returned (.string (A ++ B)) ∧ ∃ q, w' = w.drewN q := by
  have IH : Hid (∀ w : World, Calls Try.prog 103 #[.int .i64 ((n : Int) / 10)] w fun e w' => e = .returned (.string A) ∧ ∃ q, w' = w.drewN q) := ih
  have E1 : Hid ((⟨#[48, 49, 50, 51, 52, 53, 54, 55, 56, 57]⟩ : ByteArray).extract (n % 10) (n % 10 + 1) = B) := e1
  have SA : Hid (A.size ≤ 100) := sa
  have SB : Hid (B.size ≤ 100) := sb
  clear ih e1 sa sb
  go_enter Try.func103, Try.ntmps103
  go_wp2_with fail
  have e1 := E1.out
  have sa := SA.out
  have sb := SB.out
  go_quiet ((go_at_call 103; exact Calls.quiet_of (IH.out _)))
  go_wp2
  go_returns
  exact ⟨rfl, _, rfl⟩

theorem text_any (n : Nat) (w : World) (h : n < 100) :
    Calls Try.prog 103 #[.int .i64 (n : Int)] w fun e w' => (∃ t : ByteArray, e = .returned (.string t) ∧ t.size ≤ 4) ∧ ∃ q, w' = w.drewN q := by
  by_cases h10 : n < 10
  · refine (text_small n w h10).mono ?_
    rintro e w' ⟨rfl, hq⟩
    exact ⟨⟨_, rfl, by rw [piece_size n h10]; omega⟩, hq⟩
  have h0 : (10 : Int) ≤ n := by omega
  have hd : n / 10 < 10 := by omega
  refine (text_join n _ _ w h0 (by unfold wrap64; omega) (IntWalk.i64_in _ (by omega)) (by rw [piece_size (n / 10) hd]; omega) (by rw [piece_size (n % 10) (by omega)]; omega) rfl (fun w => by
    have := text_small (n / 10) w hd
    rw [show ((n / 10 : Nat) : Int) = (n : Int) / 10 by omega] at this
    exact this)).mono ?_
  rintro e w' ⟨rfl, hq⟩
  exact ⟨⟨_, rfl, by rw [ByteArray.size_append, piece_size (n / 10) hd, piece_size (n % 10) (by omega)]; omega⟩, hq⟩

end Go.Proofs.Ytmbdeafpfdeigaa

namespace Go.Proofs.Ytmbdeafpfdeigaa
open Go Go.ChangeShapes Go.WideShapes Go.ChangeAt Go.RowKit
set_option linter.unusedVariables false
set_option linter.unusedSimpArgs false

theorem oper_append {P : Program} {w : World} {o : Oper} {a : Act} {K : Act → World → Prop} {Q : Exit → Act → World → Prop} (s x : Operand) (t : TypeId)
    (ho : o.op = .call { callee := .builtin .append, args := #[s, x], argTypes := #[t, t] })
    (base : Nat) (e : TypeId) (i : TypeInfo) (z : Value) (size bytes : Nat) (ht : P.underlying t = some (.slice e)) (hi : P.info? e = some i) (hz : i.zero = some z)
    (hsize : i.size = size) (hby : i.bytes = bytes) (hzs : z.cells.size = size) (hsz : 0 < size)
    (v : Value) (n : Nat) (xs : List Value) (hs : a.eval s = v) (hown : w.ownsRow base e size v n xs)
    (ad : Addr) (m c : Nat) (news : List Value) (hx : a.eval x = .slice (some ad) m c) (hl : news.length = m * size) (hnews : ∀ j u, news[j]? = some u → w.cell? (ad.add j) = some u) (h1 : ∀ u ∈ news, u.oneCell' = true)
    (h63 : n + m ≤ maxLen) (hbytes : (n + m) * bytes ≤ 140737488355328) (hbase : base ≤ w.heap.size)
    (h : ∀ v' w', w'.ownsRow base e size v' (n + m) (xs ++ news) → w.grownBy w' v.ownBlock → (v'.ownBlock = v.ownBlock ∨ v'.ownBlock = some w.heap.size) → K (a.put o.dst v') w') :
    Oper.wp P o a w K Q := by
  obtain ⟨v', w', hr, h2, h3, h4, h5⟩ := run_append_own_at (P := P) w base t o.type e i z size bytes ht hi hz hsize hby hzs hsz v n xs hown ad m c news hl hnews h1 h63 hbytes hbase
  unfold Oper.wp execOp
  simp only [ho, resolve, invoke, builtin, Sem.run_bind, Sem.run_pure, Result.andThen_ok, List.map_toArray, List.map_cons, List.map_nil, hs, hx, hr]
  exact h v' w' h2 h3 h5
theorem Moved.grown {b : Nat} {w W W' : World} {row : Option Nat} (h : Moved b w W) (hb : b < w.heap.size) (g : W.grownBy W' row) (hr : ∀ k, row = some k → w.heap.size ≤ k) : Moved b w W' :=
  ⟨h.1.grown g (fun k e => by have := hr k e; omega), h.2.grown g hr⟩
theorem grown_block {W W' : World} {row : Option Nat} (g : W.grownBy W' row) {k : Nat} (hk : k < W.heap.size) (hr : row ≠ some k) : W'.heap[k]? = W.heap[k]? := g.block k hk (fun e => hr e.symm)
/-- An item in the making: its own box; its parts in a row of their own, or none yet. -/
structure IX (b : Nat) (w : World) (xb : Nat) (nm : ByteArray) (ba : Int) (ph : Bool) (pv : Value) (pn : Nat) (pz : Nat → PA6) (W : World) : Prop where
  m : Moved b w W
  x : CB W xb #[.string nm, .int .i64 ba, .bool ph, pv, .slice none 0 0] 31
  p : W.ownsRow w.heap.size 28 6 pv pn (rowPA6 pz pn)
  lo : b < w.heap.size ∧ w.heap.size ≤ xb
section
variable {b : Nat} {w W W' : World} {xb : Nat} {nm : ByteArray} {ba : Int} {ph : Bool} {pv : Value} {pn : Nat} {pz : Nat → PA6}
theorem IX.turn (h : IX b w xb nm ba ph pv pn pz W) (k : Moved b W W') : IX b w xb nm ba ph pv pn pz W' := by
  have := h.lo
  refine ⟨h.m.trans k, h.x.turns k.2 (by omega), arow_block h.p (fun g hg => ?_), h.lo⟩
  obtain ⟨g1, g2⟩ := h.p.lt g hg
  exact k.2.block g g2 (by omega)
theorem IX.alloc (h : IX b w xb nm ba ph pv pn pz W) (o : Obj) : IX b w xb nm ba ph pv pn pz (W.alloc o) := h.turn ((Moved.refl h.m.1).alloc o)
theorem IX.drew (h : IX b w xb nm ba ph pv pn pz W) : IX b w xb nm ba ph pv pn pz W.drew := h.turn (Moved.refl h.m.1).drew
/-- The row's block is not the item's box. -/
theorem IX.apart (h : IX b w xb nm ba ph pv pn pz W) : pv.ownBlock ≠ some xb := by
  rcases h.p.2 with ⟨e, _⟩ | ⟨g, cap, cur, e, _, hg, _⟩
  · rw [e]; simp [Value.ownBlock]
  · rw [e]
    intro q
    simp [Value.ownBlock] at q
    subst q
    have := h.x
    unfold CB at this
    rw [hg] at this
    simp at this
theorem IX.box (h : IX b w xb nm ba ph pv pn pz W) {W3 : World} (hgr : W.grownBy W3 pv.ownBlock) : CB W3 xb #[.string nm, .int .i64 ba, .bool ph, pv, .slice none 0 0] 31 := by
  unfold CB; rw [grown_block hgr h.x.lt h.apart]; exact h.x
/-- Behind an append to its parts, and the store of it. -/
theorem IX.add (h : IX b w xb nm ba ph pv pn pz W) {v7 : Value} {W3 : World} {x : PA6} (hown : W3.ownsRow w.heap.size 28 6 v7 (pn + 1) (rowPA6 pz pn ++ [.int .i64 x.item, .int .i64 x.qty, .int .i64 x.scr, .int .i64 x.fst, .int .i64 x.lst, .int .i64 x.grp])) (hgr : W.grownBy W3 pv.ownBlock) : IX b w xb nm ba ph v7 (pn + 1) (fun j => if j = pn then x else pz j) (W3.setCell ⟨xb, 3, none⟩ v7) := by
  have hlo := h.lo
  have hx3 : CB W3 xb #[.string nm, .int .i64 ba, .bool ph, pv, .slice none 0 0] 31 := by
    unfold CB; rw [grown_block hgr h.x.lt h.apart]; exact h.x
  have hrow : rowPA6 (fun j => if j = pn then x else pz j) (pn + 1) = rowPA6 pz pn ++ [.int .i64 x.item, .int .i64 x.qty, .int .i64 x.scr, .int .i64 x.fst, .int .i64 x.lst, .int .i64 x.grp] := by
    have e : ∀ k, k ≤ pn → rowPA6 (fun j => if j = pn then x else pz j) k = rowPA6 pz k := fun k => by
      induction k with
      | zero => intro _; rfl
      | succ k ih => intro hk; show rowPA6 _ k ++ _ = rowPA6 _ k ++ _; rw [ih (by omega)]; simp only [show ¬ k = pn by omega, if_false]
    show rowPA6 _ pn ++ _ = _
    rw [e pn (Nat.le_refl _)]
    simp
  have hap : v7.ownBlock ≠ some xb := by
    obtain ⟨g, cap, e, _⟩ := ownsRow_some hown (by omega)
    rcases hown.2 with ⟨_, e2⟩ | ⟨g2, cap2, cur, e2, _, hg, _⟩
    · omega
    · rw [e2]
      intro q
      simp [Value.ownBlock] at q
      subst q
      have := hx3
      unfold CB at this
      rw [hg] at this
      simp at this
  refine ⟨(h.m.grown hlo.1 hgr (fun k e => (h.p.lt k e).1)).setHigh hlo.1 hlo.2 _ _, hx3.set 3 v7, ?_, hlo⟩
  rw [hrow]
  exact arow_block hown (fun g hg => Below.heap_setCell _ _ _ _ (by simp; intro e; subst e; exact hap hg))
end
/-- An item as it lies in a row: its words, and what its two slices hold. -/
structure IV where
  nm : ByteArray
  ba : Int
  ph : Bool
  pv : Value
  pn : Nat
  pz : Nat → PA6
  sv : Value
  sn : Nat
  sz : Nat → PA6
def rowIV (c : Nat → IV) : Nat → List Value
  | 0 => []
  | k + 1 => rowIV c k ++ [.string (c k).nm, .int .i64 (c k).ba, .bool (c k).ph, (c k).pv, (c k).sv]
theorem rowIV_len (c : Nat → IV) : ∀ n, (rowIV c n).length = n * 5
  | 0 => rfl
  | n + 1 => by simp [rowIV, rowIV_len c n]; omega
def addIV (c : Nat → IV) (k : Nat) (x : IV) (j : Nat) : IV := if j = k then x else c j
theorem rowIV_add (c : Nat → IV) (k : Nat) (x : IV) : rowIV (addIV c k x) (k + 1) = rowIV c k ++ [.string x.nm, .int .i64 x.ba, .bool x.ph, x.pv, x.sv] := by
  have e : ∀ q, q ≤ k → rowIV (addIV c k x) q = rowIV c q := fun q => by
    induction q with
    | zero => intro _; rfl
    | succ q ih => intro hq; show rowIV _ q ++ _ = rowIV _ q ++ _; rw [ih (by omega)]; simp only [addIV, show ¬ q = k by omega, if_false]
  show rowIV _ k ++ _ = _
  rw [e k (Nat.le_refl _)]
  simp [addIV]
/-- An item's two rows in memory, in blocks from base on. -/
structure IW (base : Nat) (x : IV) (W : World) : Prop where
  p : W.ownsRow base 28 6 x.pv x.pn (rowPA6 x.pz x.pn)
  s : W.ownsRow base 28 6 x.sv x.sn (rowPA6 x.sz x.sn)
  sz : x.nm.size ≤ 20 ∧ x.pn ≤ 4 ∧ x.sn ≤ 1
/-- Items drawn so far, beside the cursor. -/
structure OX (b : Nat) (w : World) (v : Value) (k : Nat) (c : Nat → IV) (W : World) : Prop where
  m : Moved b w W
  o : W.ownsRow w.heap.size 31 5 v k (rowIV c k)
  r : ∀ j, j < k → IW w.heap.size (c j) W
  lo : b < w.heap.size
  ap : ∀ i j g, i < k → j < k → (c i).pv.ownBlock = some g → (i ≠ j → (c j).pv.ownBlock ≠ some g) ∧ (c j).sv.ownBlock ≠ some g
section
variable {b base : Nat} {w W W' : World} {v : Value} {k : Nat} {c : Nat → IV} {x : IV}
theorem IW.turn (h : IW base x W) (hb : b < base) (t : Turns b W W') : IW base x W' := by
  refine ⟨arow_block h.p (fun g hg => ?_), arow_block h.s (fun g hg => ?_), h.sz⟩
  · obtain ⟨g1, g2⟩ := h.p.lt g hg; exact t.block g g2 (by omega)
  · obtain ⟨g1, g2⟩ := h.s.lt g hg; exact t.block g g2 (by omega)
theorem OX.turn (h : OX b w v k c W) (m : Moved b W W') : OX b w v k c W' := by
  have := h.lo
  refine ⟨h.m.trans m, arow_block h.o (fun g hg => ?_), fun j hj => (h.r j hj).turn h.lo m.2, h.lo, h.ap⟩
  obtain ⟨g1, g2⟩ := h.o.lt g hg
  exact m.2.block g g2 (by omega)
/-- A row of parts whose block lies elsewhere stays behind an append to the items. -/
theorem part_apart {row : Value} {n n2 : Nat} {xs : List Value} {zs : List Value} {base base2 : Nat} (h : W.ownsRow base 28 6 v n xs) (h2 : W.ownsRow base2 31 5 row n2 zs) : ∀ g, v.ownBlock = some g → row.ownBlock ≠ some g := by
  intro g hg
  rcases h.2 with ⟨e, _⟩ | ⟨g1, _, _, e, _, hg1, _⟩
  · rw [e] at hg; simp [Value.ownBlock] at hg
  · rw [e] at hg
    simp [Value.ownBlock] at hg
    subst hg
    rcases h2.2 with ⟨e2, _⟩ | ⟨g2, _, _, e2, _, hg2, _⟩
    · rw [e2]; simp [Value.ownBlock]
    · rw [e2]
      intro q
      simp [Value.ownBlock] at q
      subst q
      rw [hg1] at hg2
      simp at hg2
theorem OX.add (h : OX b w v k c W) (hx : IW w.heap.size x W) {v7 : Value} (hown : W'.ownsRow w.heap.size 31 5 v7 (k + 1) (rowIV c k ++ [.string x.nm, .int .i64 x.ba, .bool x.ph, x.pv, x.sv])) (hgr : W.grownBy W' v.ownBlock) (B : Nat) (hold : ∀ j g, j < k → ((c j).pv.ownBlock = some g ∨ (c j).sv.ownBlock = some g) → g < B) (hnew : ∀ g, (x.pv.ownBlock = some g ∨ x.sv.ownBlock = some g) → B ≤ g) (hself : ∀ g, x.pv.ownBlock = some g → x.sv.ownBlock ≠ some g) : OX b w v7 (k + 1) (addIV c k x) W' := by
  have hk : ∀ y : IV, IW w.heap.size y W → IW w.heap.size y W' := fun y hy => by
    refine ⟨arow_block hy.p (fun g hg => ?_), arow_block hy.s (fun g hg => ?_), hy.sz⟩
    · exact grown_block hgr (hy.p.lt g hg).2 (part_apart hy.p h.o g hg)
    · exact grown_block hgr (hy.s.lt g hg).2 (part_apart hy.s h.o g hg)
  refine ⟨h.m.grown h.lo hgr (fun q e => (h.o.lt q e).1), by rw [rowIV_add]; exact hown, fun j hj => ?_, h.lo, fun i j g hi hj => ?_⟩
  · unfold addIV
    split
    · exact hk x hx
    · exact hk _ (h.r j (by omega))
  · unfold addIV
    by_cases e1 : i = k
    · by_cases e2 : j = k
      · simp only [e1, e2, if_true]
        exact fun q => ⟨fun e => absurd rfl e, hself g q⟩
      · simp only [e1, e2, if_true, if_false]
        intro q
        have h1 := hnew g (.inl q)
        exact ⟨fun _ e => by have := hold j g (by omega) (.inl e); omega, fun e => by have := hold j g (by omega) (.inr e); omega⟩
    · by_cases e2 : j = k
      · simp only [e1, e2, if_true, if_false]
        intro q
        have h1 := hold i g (by omega) (.inl q)
        exact ⟨fun _ e => by have := hnew g (.inl e); omega, fun e => by have := hnew g (.inr e); omega⟩
      · simp only [e1, e2, if_false]
        exact h.ap i j g (by omega) (by omega)
end
theorem own_form {W : World} {base n s : Nat} {t : TypeId} {v : Value} {xs : List Value} (h : W.ownsRow base t s v n xs) : ∃ ad cap, v = .slice ad n cap := by
  rcases h.2 with ⟨e, e2⟩ | ⟨g, cap, cur, e, _⟩
  · exact ⟨none, 0, by rw [e, e2]⟩
  · exact ⟨_, _, e⟩
theorem own_lower {W : World} {base base2 n s : Nat} {t : TypeId} {v : Value} {xs : List Value} (h : W.ownsRow base t s v n xs) (hb : base2 ≤ base) : W.ownsRow base2 t s v n xs := by
  refine ⟨h.1, ?_⟩
  rcases h.2 with e | ⟨g, cap, cur, e, h1, h2⟩
  · exact .inl e
  · exact .inr ⟨g, cap, cur, e, by omega, h2⟩
/-- An item in the making, what comes out beside with it. -/
structure JX (b : Nat) (w : World) (xb : Nat) (it : IV) (W : World) : Prop where
  m : Moved b w W
  x : CB W xb #[.string it.nm, .int .i64 it.ba, .bool it.ph, it.pv, it.sv] 31
  p : W.ownsRow w.heap.size 28 6 it.pv it.pn (rowPA6 it.pz it.pn)
  s : W.ownsRow w.heap.size 28 6 it.sv it.sn (rowPA6 it.sz it.sn)
  lo : b < w.heap.size ∧ w.heap.size ≤ xb
  ap : ∀ g, it.pv.ownBlock = some g → it.sv.ownBlock ≠ some g
section
variable {b : Nat} {w W W' : World} {xb : Nat} {nm : ByteArray} {ba : Int} {ph : Bool} {pv sv : Value} {pn sn : Nat} {pz sz : Nat → PA6}
theorem IX.jx (h : IX b w xb nm ba ph pv pn pz W) (z : Nat → PA6) : JX b w xb ⟨nm, ba, ph, pv, pn, pz, .slice none 0 0, 0, z⟩ W := ⟨h.m, h.x, h.p, ⟨rfl, .inl ⟨rfl, rfl⟩⟩, h.lo, fun g _ => by simp [Value.ownBlock]⟩
theorem JX.turn {x : IV} (h : JX b w xb x W) (k : Moved b W W') : JX b w xb x W' := by
  have := h.lo
  refine ⟨h.m.trans k, h.x.turns k.2 (by omega), arow_block h.p (fun g hg => ?_), arow_block h.s (fun g hg => ?_), h.lo, h.ap⟩
  · obtain ⟨g1, g2⟩ := h.p.lt g hg; exact k.2.block g g2 (by omega)
  · obtain ⟨g1, g2⟩ := h.s.lt g hg; exact k.2.block g g2 (by omega)
theorem row_box {base n : Nat} {v : Value} {xs : List Value} {cs : Array Value} (h : W.ownsRow base 28 6 v n xs) (hx : CB W xb cs 31) : v.ownBlock ≠ some xb := by
  rcases h.2 with ⟨e, _⟩ | ⟨g, cap, cur, e, _, hg, _⟩
  · rw [e]; simp [Value.ownBlock]
  · rw [e]
    intro q
    simp [Value.ownBlock] at q
    subst q
    unfold CB at hx
    rw [hg] at hx
    simp at hx
theorem JX.setPh (h : JX b w xb ⟨nm, ba, ph, pv, pn, pz, sv, sn, sz⟩ W) (v : Bool) : JX b w xb ⟨nm, ba, v, pv, pn, pz, sv, sn, sz⟩ (W.setCell ⟨xb, 2, none⟩ (.bool v)) := by
  refine ⟨h.m.setHigh h.lo.1 h.lo.2 _ _, h.x.set 2 (.bool v), arow_block h.p (fun g hg => Below.heap_setCell _ _ _ _ ?_), arow_block h.s (fun g hg => Below.heap_setCell _ _ _ _ ?_), h.lo, h.ap⟩
  · have := row_box h.p h.x; simp; intro e; subst e; exact this hg
  · have := row_box h.s h.x; simp; intro e; subst e; exact this hg
theorem JX.box (h : JX b w xb ⟨nm, ba, ph, pv, pn, pz, .slice none 0 0, sn, sz⟩ W) {W3 : World} (hgr : W.grownBy W3 (Value.ownBlock (.slice none 0 0))) : CB W3 xb #[.string nm, .int .i64 ba, .bool ph, pv, .slice none 0 0] 31 := by
  unfold CB; rw [grown_block hgr h.x.lt (by simp [Value.ownBlock])]; exact h.x
theorem JX.also (h : JX b w xb ⟨nm, ba, ph, pv, pn, pz, .slice none 0 0, 0, sz⟩ W) {v7 : Value} {W3 : World} {x : PA6} (hown : W3.ownsRow w.heap.size 28 6 v7 (0 + 1) ([] ++ [.int .i64 x.item, .int .i64 x.qty, .int .i64 x.scr, .int .i64 x.fst, .int .i64 x.lst, .int .i64 x.grp])) (hgr : W.grownBy W3 (Value.ownBlock (.slice none 0 0))) (hloc : v7.ownBlock = Value.ownBlock (.slice none 0 0) ∨ v7.ownBlock = some W.heap.size) : JX b w xb ⟨nm, ba, ph, pv, pn, pz, v7, 1, fun _ => x⟩ (W3.setCell ⟨xb, 4, none⟩ v7) := by
  have hlo := h.lo
  have hx3 := h.box hgr
  have hp3 : W3.ownsRow w.heap.size 28 6 pv pn (rowPA6 pz pn) := arow_block h.p (fun g hg => grown_block hgr (h.p.lt g hg).2 (by simp [Value.ownBlock]))
  refine ⟨(h.m.grown hlo.1 hgr (fun k e => by simp [Value.ownBlock] at e)).setHigh hlo.1 hlo.2 _ _, hx3.set 4 v7, arow_block hp3 (fun g hg => Below.heap_setCell _ _ _ _ ?_), arow_block hown (fun g hg => Below.heap_setCell _ _ _ _ ?_), hlo, fun g hg => ?_⟩
  · have := row_box hp3 hx3; simp; intro e; subst e; exact this hg
  · have := row_box hown hx3; simp; intro e; subst e; exact this hg
  · have g1 := (h.p.lt g hg).2
    show v7.ownBlock ≠ some g
    rcases hloc with e | e
    · rw [e]; simp [Value.ownBlock]
    · rw [e]; intro q; injection q with q; omega
theorem JX.iw {x : IV} {base : Nat} (h : JX b w xb x W) (hb : base ≤ w.heap.size) (hz : x.nm.size ≤ 20 ∧ x.pn ≤ 4 ∧ x.sn ≤ 1) : IW base x W := ⟨own_lower h.p hb, own_lower h.s hb, hz⟩
theorem JX.cells (h : JX b w xb ⟨nm, ba, ph, pv, pn, pz, sv, sn, sz⟩ W) : (W.cell? ⟨xb, 0, none⟩ = some (.string nm) ∧ W.cell? ⟨xb, 1, none⟩ = some (.int .i64 ba) ∧ W.cell? ⟨xb, 2, none⟩ = some (.bool ph) ∧ W.cell? ⟨xb, 3, none⟩ = some pv ∧ W.cell? ⟨xb, 4, none⟩ = some sv) ∧ ∀ o, W.frozen? ⟨xb, o, none⟩ = false :=
  ⟨⟨(h.x.cell 0).trans rfl, (h.x.cell 1).trans rfl, (h.x.cell 2).trans rfl, (h.x.cell 3).trans rfl, (h.x.cell 4).trans rfl⟩, fun o => h.x.fr o⟩
end
end Go.Proofs.Ytmbdeafpfdeigaa

namespace Go.Proofs.Ytmbdeafpfdeigaa
open Go Go.ChangeShapes Go.WideShapes Go.ChangeAt Go.RowKit
set_option linter.unusedVariables false
set_option linter.unusedSimpArgs false

def fiveIV (x : IV) : List Value := [.string x.nm, .int .i64 x.ba, .bool x.ph, x.pv, x.sv]
theorem rowIV_five (c : Nat → IV) (k : Nat) : rowIV c (k + 1) = rowIV c k ++ fiveIV (c k) := rfl
theorem rowIV_same {c d : Nat → IV} : ∀ n, (∀ j, j < n → c j = d j) → rowIV c n = rowIV d n
  | 0, _ => rfl
  | n + 1, h => by rw [rowIV_five, rowIV_five, rowIV_same n (fun j hj => h j (by omega)), h n (by omega)]
theorem rowIV_set {c : Nat → IV} {k t : Nat} {u : Value} {x : IV} (h : (fiveIV (c k)).set t u = fiveIV x) (ht : t < 5) : ∀ n, k < n → (rowIV c n).set (k * 5 + t) u = rowIV (addIV c k x) n
  | 0, hk => by omega
  | n + 1, hk => by
    rw [rowIV_five, rowIV_five]
    have hl := rowIV_len c n
    by_cases e : k = n
    · subst e
      rw [List.set_append_right _ _ (by omega), show k * 5 + t - (rowIV c k).length = t by omega, h, rowIV_same (d := addIV c k x) k (fun j hj => by simp only [addIV, show ¬ j = k by omega, if_false])]
      simp only [addIV, if_true]
    · rw [List.set_append_left _ _ (by omega), rowIV_set h ht n (by omega)]
      simp only [addIV, show ¬ n = k by omega, if_false]
theorem rowPA6_setx {z : Nat → PA6} {y : Int} {o : Nat} : ∀ n, o < n * 6 → ∃ z', (rowPA6 z n).set o (.int .i64 y) = rowPA6 z' n
  | 0, h => by omega
  | n + 1, h => by
    have hl := rowPA6_len z n
    by_cases e : o < n * 6
    · obtain ⟨z1, h1⟩ := rowPA6_setx (z := z) (y := y) (o := o) n e
      refine ⟨fun j => if j = n then z n else z1 j, ?_⟩
      have e2 : ∀ q, q ≤ n → rowPA6 (fun j => if j = n then z n else z1 j) q = rowPA6 z1 q := fun q => by
        induction q with
        | zero => intro _; rfl
        | succ q ih => intro hq; show rowPA6 _ q ++ _ = rowPA6 _ q ++ _; rw [ih (by omega)]; simp only [show ¬ q = n by omega, if_false]
      show (rowPA6 z n ++ _).set o _ = rowPA6 _ n ++ _
      rw [List.set_append_left _ _ (by omega), h1, e2 n (Nat.le_refl _)]
      simp
    · obtain ⟨t, ht⟩ : ∃ t, o = n * 6 + t := ⟨o - n * 6, by omega⟩
      have ht6 : t < 6 := by omega
      have e2 : ∀ (x : PA6) q, q ≤ n → rowPA6 (fun j => if j = n then x else z j) q = rowPA6 z q := fun x q => by
        induction q with
        | zero => intro _; rfl
        | succ q ih => intro hq; show rowPA6 _ q ++ _ = rowPA6 _ q ++ _; rw [ih (by omega)]; simp only [show ¬ q = n by omega, if_false]
      have key : ∃ x : PA6, [Value.int .i64 (z n).item, .int .i64 (z n).qty, .int .i64 (z n).scr, .int .i64 (z n).fst, .int .i64 (z n).lst, .int .i64 (z n).grp].set t (.int .i64 y) = [Value.int .i64 x.item, .int .i64 x.qty, .int .i64 x.scr, .int .i64 x.fst, .int .i64 x.lst, .int .i64 x.grp] := by
        rcases (show t = 0 ∨ t = 1 ∨ t = 2 ∨ t = 3 ∨ t = 4 ∨ t = 5 by omega) with rfl | rfl | rfl | rfl | rfl | rfl
        · exact ⟨⟨y, (z n).qty, (z n).scr, (z n).fst, (z n).lst, (z n).grp⟩, rfl⟩
        · exact ⟨⟨(z n).item, y, (z n).scr, (z n).fst, (z n).lst, (z n).grp⟩, rfl⟩
        · exact ⟨⟨(z n).item, (z n).qty, y, (z n).fst, (z n).lst, (z n).grp⟩, rfl⟩
        · exact ⟨⟨(z n).item, (z n).qty, (z n).scr, y, (z n).lst, (z n).grp⟩, rfl⟩
        · exact ⟨⟨(z n).item, (z n).qty, (z n).scr, (z n).fst, y, (z n).grp⟩, rfl⟩
        · exact ⟨⟨(z n).item, (z n).qty, (z n).scr, (z n).fst, (z n).lst, y⟩, rfl⟩
      obtain ⟨x, hx⟩ := key
      refine ⟨fun j => if j = n then x else z j, ?_⟩
      show (rowPA6 z n ++ _).set o _ = rowPA6 _ n ++ _
      rw [List.set_append_right _ _ (by omega), show o - (rowPA6 z n).length = t by omega, hx, e2 x n (Nat.le_refl _)]
      simp
/-- An item's two rows, whatever their numbers. -/
structure SW (base : Nat) (x : IV) (W : World) : Prop where
  p : ∃ z, W.ownsRow base 28 6 x.pv x.pn (rowPA6 z x.pn)
  s : ∃ z, W.ownsRow base 28 6 x.sv x.sn (rowPA6 z x.sn)
  sz : x.nm.size ≤ 40 ∧ x.pn ≤ 5 ∧ x.sn ≤ 1
structure SX (b : Nat) (w : World) (v : Value) (n : Nat) (c : Nat → IV) (W : World) : Prop where
  m : Moved b w W
  o : W.ownsRow w.heap.size 31 5 v n (rowIV c n)
  r : ∀ j, j < n → SW w.heap.size (c j) W
  lo : b < w.heap.size
section
variable {b base : Nat} {w W W' : World} {v : Value} {n : Nat} {c : Nat → IV} {x : IV}
theorem OX.sx (h : OX b w v n c W) : SX b w v n c W := ⟨h.m, h.o, fun j hj => ⟨⟨_, (h.r j hj).p⟩, ⟨_, (h.r j hj).s⟩, by have := (h.r j hj).sz; omega⟩, h.lo⟩
theorem SW.keep (h : SW base x W) (hk : ∀ g, base ≤ g → g < W.heap.size → (x.pv.ownBlock = some g ∨ x.sv.ownBlock = some g) → W'.heap[g]? = W.heap[g]?) : SW base x W' := by
  obtain ⟨⟨z1, h1⟩, ⟨z2, h2⟩, h3⟩ := h
  exact ⟨⟨z1, arow_block h1 (fun g hg => hk g (h1.lt g hg).1 (h1.lt g hg).2 (.inl hg))⟩, ⟨z2, arow_block h2 (fun g hg => hk g (h2.lt g hg).1 (h2.lt g hg).2 (.inr hg))⟩, h3⟩
theorem SX.turn (h : SX b w v n c W) (m : Moved b W W') : SX b w v n c W' := by
  have := h.lo
  refine ⟨h.m.trans m, arow_block h.o (fun g hg => ?_), fun j hj => (h.r j hj).keep (fun g g1 g2 _ => m.2.block g g2 (by omega)), h.lo⟩
  obtain ⟨g1, g2⟩ := h.o.lt g hg
  exact m.2.block g g2 (by omega)
/-- A part's number stored, wherever it lies. -/
theorem row_store {pg o : Nat} {y : Int} {vv : Value} {m : Nat} (h : ∃ z, W.ownsRow base 28 6 vv m (rowPA6 z m)) : ∃ z, (W.setCell ⟨pg, o, none⟩ (.int .i64 y)).ownsRow base 28 6 vv m (rowPA6 z m) := by
  obtain ⟨z, h⟩ := h
  obtain ⟨ad, cap, rfl⟩ := own_form h
  rcases ad with _ | ⟨g, of, sp⟩
  · rcases h.2 with e | ⟨g, cap2, cur, e, _⟩
    · exact ⟨z, h.1, .inl e⟩
    · simp at e
  · have h2 := h
    rcases h.2 with ⟨e, _⟩ | ⟨g2, cap2, cur, e, hb, hg, hc1, hc2, hc3, hc4⟩
    · simp at e
    · simp only [Value.slice.injEq, Option.some.injEq, Addr.mk.injEq] at e
      obtain ⟨⟨rfl, rfl, rfl⟩, _, rfl⟩ := e
      by_cases e3 : g = pg
      · subst e3
        by_cases ho : o < m * 6
        · obtain ⟨z', hz⟩ := rowPA6_setx (z := z) (y := y) m ho
          exact ⟨z', by rw [← hz]; exact own_set h2 o _ ho⟩
        · have hs := CB.set (w := W) hg o (.int .i64 y)
          refine ⟨z, h2.1, .inr ⟨g, cap, cur.setIfInBounds o (.int .i64 y), rfl, hb, hs, hc1, hc2, by simpa using hc3, ?_⟩⟩
          rw [← hc4]
          simp only [Array.toList_setIfInBounds]
          rw [List.take_set_of_le (by omega)]
      · exact ⟨z, arow_block h2 (fun q hq => Below.heap_setCell _ _ _ _ (by simp [Value.ownBlock] at hq; subst hq; simpa using e3))⟩
/-- A word of an item stored in the row's own block. -/
theorem SX.word {g cap k t : Nat} {u : Value} (h : SX b w (.slice (some ⟨g, 0, none⟩) n cap) n c W) (hk : k < n) (ht : t < 5) (hu : (fiveIV (c k)).set t u = fiveIV x) (hx : SW w.heap.size x W) : SX b w (.slice (some ⟨g, 0, none⟩) n cap) n (addIV c k x) (W.setCell ⟨g, k * 5 + t, none⟩ u) := by
  have hg := h.o.lt g rfl
  have keep : ∀ y : IV, SW w.heap.size y W → SW w.heap.size y (W.setCell ⟨g, k * 5 + t, none⟩ u) := fun y hy => by
    obtain ⟨⟨z1, h1⟩, ⟨z2, h2⟩, h3⟩ := hy
    refine ⟨⟨z1, arow_block h1 (fun q hq => Below.heap_setCell _ _ _ _ ?_)⟩, ⟨z2, arow_block h2 (fun q hq => Below.heap_setCell _ _ _ _ ?_)⟩, h3⟩
    · have := part_apart h1 h.o q hq; simp [Value.ownBlock] at this; simp; omega
    · have := part_apart h2 h.o q hq; simp [Value.ownBlock] at this; simp; omega
  refine ⟨h.m.setHigh h.lo hg.1 _ _, ?_, fun j hj => ?_, h.lo⟩
  · rw [← rowIV_set hu ht n hk]; exact own_set h.o _ _ (by omega)
  · unfold addIV
    split
    · exact keep x hx
    · exact keep _ (h.r j hj)
/-- A number of some part stored, in a block that is not the items' own. -/
theorem SX.part {pg o : Nat} {y : Int} (h : SX b w v n c W) (h1 : w.heap.size ≤ pg) (h2 : v.ownBlock ≠ some pg) : SX b w v n c (W.setCell ⟨pg, o, none⟩ (.int .i64 y)) := by
  refine ⟨h.m.setHigh h.lo h1 _ _, arow_block h.o (fun q hq => Below.heap_setCell _ _ _ _ (by simp; intro e; subst e; exact h2 hq)), fun j hj => ?_, h.lo⟩
  obtain ⟨p1, p2, p3⟩ := h.r j hj
  exact ⟨row_store p1, row_store p2, p3⟩
/-- One part more of an item's own, and the store of its row. -/
theorem SX.grow {g cap k : Nat} {v7 : Value} {W3 : World} {z : Nat → PA6} {p : PA6} (h : SX b w (.slice (some ⟨g, 0, none⟩) n cap) n c W) (hk : k < n) (hown : W3.ownsRow w.heap.size 28 6 v7 ((c k).pn + 1) (rowPA6 z (c k).pn ++ [.int .i64 p.item, .int .i64 p.qty, .int .i64 p.scr, .int .i64 p.fst, .int .i64 p.lst, .int .i64 p.grp])) (hgr : W.grownBy W3 (c k).pv.ownBlock) (hb : (c k).pn ≤ 4) (hap : ∀ j q, j < n → (c k).pv.ownBlock = some q → (k ≠ j → (c j).pv.ownBlock ≠ some q) ∧ (c j).sv.ownBlock ≠ some q) : SX b w (.slice (some ⟨g, 0, none⟩) n cap) n (addIV c k { c k with pv := v7, pn := (c k).pn + 1 }) (W3.setCell ⟨g, k * 5 + 3, none⟩ v7) := by
  have hg := h.o.lt g rfl
  obtain ⟨⟨z1, h1⟩, ⟨z2, h2⟩, h3⟩ := h.r k hk
  have ho3 : W3.ownsRow w.heap.size 31 5 (.slice (some ⟨g, 0, none⟩) n cap) n (rowIV c n) := arow_block h.o (fun q hq => grown_block hgr (h.o.lt q hq).2 (fun e => part_apart h1 h.o q e hq))
  have st : ∀ (vv : Value) (m : Nat) (xs : List Value), W3.ownsRow w.heap.size 28 6 vv m xs → (W3.setCell ⟨g, k * 5 + 3, none⟩ v7).ownsRow w.heap.size 28 6 vv m xs := fun vv m xs hh => arow_block hh (fun q hq => Below.heap_setCell _ _ _ _ (by have := part_apart hh ho3 q hq; simp [Value.ownBlock] at this; simp; omega))
  have gr : ∀ (vv : Value) (m : Nat) (xs : List Value), W.ownsRow w.heap.size 28 6 vv m xs → (∀ q, (c k).pv.ownBlock = some q → vv.ownBlock ≠ some q) → W3.ownsRow w.heap.size 28 6 vv m xs := fun vv m xs hh hn => arow_block hh (fun q hq => grown_block hgr (hh.lt q hq).2 (fun e => hn q e hq))
  refine ⟨(h.m.grown h.lo hgr (fun q e => (h1.lt q e).1)).setHigh h.lo hg.1 _ _, ?_, fun j hj => ?_, h.lo⟩
  · rw [← rowIV_set (x := { c k with pv := v7, pn := (c k).pn + 1 }) (u := v7) (t := 3) rfl (by omega) n hk]
    exact own_set ho3 _ _ (by omega)
  · by_cases e : j = k
    · subst e
      simp only [addIV, if_true]
      refine ⟨⟨fun q => if q = (c j).pn then p else z q, ?_⟩, ⟨z2, st _ _ _ (gr _ _ _ h2 (fun q hq => (hap j q hj hq).2))⟩, ⟨h3.1, by show (c j).pn + 1 ≤ 5; omega, h3.2.2⟩⟩
      have e2 : ∀ q, q ≤ (c j).pn → rowPA6 (fun i => if i = (c j).pn then p else z i) q = rowPA6 z q := fun q => by
        induction q with
        | zero => intro _; rfl
        | succ q ih => intro hq; show rowPA6 _ q ++ _ = rowPA6 _ q ++ _; rw [ih (by omega)]; simp only [show ¬ q = (c j).pn by omega, if_false]
      have e3 : rowPA6 (fun i => if i = (c j).pn then p else z i) ((c j).pn + 1) = rowPA6 z (c j).pn ++ [.int .i64 p.item, .int .i64 p.qty, .int .i64 p.scr, .int .i64 p.fst, .int .i64 p.lst, .int .i64 p.grp] := by
        show rowPA6 _ (c j).pn ++ _ = _
        rw [e2 _ (Nat.le_refl _)]
        simp
      show World.ownsRow _ _ _ _ v7 ((c j).pn + 1) (rowPA6 _ ((c j).pn + 1))
      rw [e3]
      exact st _ _ _ hown
    · simp only [addIV, e, if_false]
      obtain ⟨⟨y1, k1⟩, ⟨y2, k2⟩, k3⟩ := h.r j hj
      exact ⟨⟨y1, st _ _ _ (gr _ _ _ k1 (fun q hq => (hap j q hj hq).1 (fun e3 => e e3.symm)))⟩, ⟨y2, st _ _ _ (gr _ _ _ k2 (fun q hq => (hap j q hj hq).2))⟩, k3⟩
theorem rowIV_get (c : Nat → IV) : ∀ n j, j < n → (rowIV c n)[j * 5]? = some (.string (c j).nm) ∧ (rowIV c n)[j * 5 + 1]? = some (.int .i64 (c j).ba) ∧ (rowIV c n)[j * 5 + 2]? = some (.bool (c j).ph) ∧ (rowIV c n)[j * 5 + 3]? = some (c j).pv ∧ (rowIV c n)[j * 5 + 4]? = some (c j).sv
  | 0, j, h => by omega
  | n + 1, j, h => by
    have e := rowIV_len c n
    by_cases hj : j = n
    · subst hj
      simp only [rowIV]
      refine ⟨?_, ?_, ?_, ?_, ?_⟩
      · rw [List.getElem?_append_right (by omega), show j * 5 - (rowIV c j).length = 0 by omega]; rfl
      · rw [List.getElem?_append_right (by omega), show j * 5 + 1 - (rowIV c j).length = 1 by omega]; rfl
      · rw [List.getElem?_append_right (by omega), show j * 5 + 2 - (rowIV c j).length = 2 by omega]; rfl
      · rw [List.getElem?_append_right (by omega), show j * 5 + 3 - (rowIV c j).length = 3 by omega]; rfl
      · rw [List.getElem?_append_right (by omega), show j * 5 + 4 - (rowIV c j).length = 4 by omega]; rfl
    · obtain ⟨a0, a1, a2, a3, a4⟩ := rowIV_get c n j (by omega)
      simp only [rowIV]
      refine ⟨?_, ?_, ?_, ?_, ?_⟩ <;> (rw [List.getElem?_append_left (by omega)]; assumption)
theorem own_cell {g m cap size : Nat} {e : TypeId} {xs : List Value} (h : W.ownsRow base e size (.slice (some ⟨g, 0, none⟩) m cap) m xs) {j : Nat} {u : Value} (hu : xs[j]? = some u) : W.cell? ⟨g, j, none⟩ = some u ∧ ∀ o, W.frozen? ⟨g, o, none⟩ = false := by
  rcases h.2 with ⟨q, _⟩ | ⟨g2, cap2, cur, q, hb, hg, h1, h2, h3, h4⟩
  · cases q
  · simp only [Value.slice.injEq, Option.some.injEq, Addr.mk.injEq] at q
    obtain ⟨⟨rfl, _, _⟩, _, rfl⟩ := q
    have hc : CB W g cur e := hg
    refine ⟨?_, fun o => hc.fr o⟩
    rw [hc.cell]
    have hl : j < xs.length := by
      rcases Nat.lt_or_ge j xs.length with q | q
      · exact q
      · rw [List.getElem?_eq_none q] at hu; cases hu
    rw [← h4] at hu
    rw [List.getElem?_take] at hu
    split at hu
    · simpa using hu
    · cases hu
/-- The cells of one item. -/
theorem SX.cells {g cap k : Nat} (h : SX b w (.slice (some ⟨g, 0, none⟩) n cap) n c W) (hk : k < n) : (W.cell? ⟨g, k * 5, none⟩ = some (.string (c k).nm) ∧ W.cell? ⟨g, k * 5 + 1, none⟩ = some (.int .i64 (c k).ba) ∧ W.cell? ⟨g, k * 5 + 2, none⟩ = some (.bool (c k).ph) ∧ W.cell? ⟨g, k * 5 + 3, none⟩ = some (c k).pv ∧ W.cell? ⟨g, k * 5 + 4, none⟩ = some (c k).sv) ∧ ∀ o, W.frozen? ⟨g, o, none⟩ = false := by
  obtain ⟨a0, a1, a2, a3, a4⟩ := rowIV_get c n k hk
  exact ⟨⟨(own_cell h.o a0).1, (own_cell h.o a1).1, (own_cell h.o a2).1, (own_cell h.o a3).1, (own_cell h.o a4).1⟩, (own_cell h.o a0).2⟩
theorem own_PAr {ad : Option Addr} {m cap : Nat} {z : Nat → PA6} (h : W.ownsRow base 28 6 (.slice ad m cap) m (rowPA6 z m)) : PAr W ad m z ∧ m ≤ cap := by
  rcases h.2 with ⟨q, q2⟩ | ⟨g, cap2, cur, q, hb, hg, h1, h2, h3, h4⟩
  · subst q2; exact ⟨.inl rfl, Nat.zero_le _⟩
  · simp only [Value.slice.injEq] at q
    obtain ⟨rfl, _, rfl⟩ := q
    refine ⟨.inr ⟨g, 0, rfl, lt_of_block hg, fun j hj => ?_⟩, h1⟩
    obtain ⟨a0, a1, a2, a3, a4, a5⟩ := rowPA6_get z m j hj
    unfold AtPA
    rw [Nat.zero_add]
    exact ⟨(own_cell h a0).1, (own_cell h a1).1, (own_cell h a2).1, (own_cell h a3).1, (own_cell h a4).1, (own_cell h a5).1⟩
/-- As a row of items. -/
theorem SX.row {ad : Option Addr} {cap : Nat} (h : SX b w (.slice ad n cap) n c W) : ∃ d : Nat → IT, ITr W ad n d ∧ ∀ j, j < n → (d j).name.size ≤ 40 ∧ (d j).parn ≤ 5 ∧ (d j).alsn ≤ 1 := by
  have hx : ∀ j, ∃ y : IT, j < n → (y.name = (c j).nm ∧ y.batch = (c j).ba ∧ y.pha = (c j).ph ∧ y.parn = (c j).pn ∧ y.alsn = (c j).sn ∧ ∃ ra rc sa sc, (c j).pv = .slice ra y.parn rc ∧ (c j).sv = .slice sa y.alsn sc ∧ PAr W ra y.parn y.parz ∧ PAr W sa y.alsn y.alsz ∧ y.parn ≤ rc ∧ y.alsn ≤ sc) := fun j => by
    by_cases hj : j < n
    · obtain ⟨⟨z1, h1⟩, ⟨z2, h2⟩, h3⟩ := h.r j hj
      obtain ⟨ra, rc, e1⟩ := own_form h1
      obtain ⟨sa, sc, e2⟩ := own_form h2
      rw [e1] at h1
      rw [e2] at h2
      exact ⟨⟨(c j).nm, (c j).ba, (c j).ph, (c j).pn, z1, (c j).sn, z2⟩, fun _ => ⟨rfl, rfl, rfl, rfl, rfl, ra, rc, sa, sc, e1, e2, (own_PAr h1).1, (own_PAr h2).1, (own_PAr h1).2, (own_PAr h2).2⟩⟩
    · exact ⟨⟨ByteArray.empty, 0, false, 0, fun _ => ⟨0, 0, 0, 0, 0, 0⟩, 0, fun _ => ⟨0, 0, 0, 0, 0, 0⟩⟩, fun q => absurd q hj⟩
  refine ⟨fun j => Classical.choose (hx j), ?_, fun j hj => ?_⟩
  · rcases Nat.eq_zero_or_pos n with e | e
    · exact .inl e
    · obtain ⟨g, cap2, e2, hb⟩ := ownsRow_some h.o e
      simp only [Value.slice.injEq] at e2
      obtain ⟨rfl, _, rfl⟩ := e2
      refine .inr ⟨g, 0, rfl, (h.o.lt g rfl).2, fun j hj => ?_⟩
      obtain ⟨q1, q2, q3, q4, q5, ra, rc, sa, sc, q6, q7, q8, q9, q10, q11⟩ := Classical.choose_spec (hx j) hj
      obtain ⟨⟨a0, a1, a2, a3, a4⟩, _⟩ := h.cells hj
      rw [q6] at a3
      rw [q7] at a4
      refine ⟨ra, rc, sa, sc, q10, q11, ?_, ?_, ?_, ?_, ?_, q8, q9⟩
      · rw [Nat.zero_add, q1]; exact a0
      · rw [Nat.zero_add, q2]; exact a1
      · rw [Nat.zero_add, q3]; exact a2
      · rw [Nat.zero_add]; exact a3
      · rw [Nat.zero_add]; exact a4
  · have := Classical.choose_spec (hx j) hj
    rw [this.1, this.2.2.2.1, this.2.2.2.2.1]
    exact (h.r j hj).sz
end
end Go.Proofs.Ytmbdeafpfdeigaa
