/- The draw of a chart: its accounts lie in a new row, each part of one ahead or of none. -/
import Derived.Test.YtkplhiahfebmlaaDoorDn
import Derived.Test.YtkplhiahfebmlaaDoorSc
namespace Go.Proofs.YtkplhiahfebmlaaDoor
open Go.ChangeShapes Go.WideShapes Go.ChangeAt Go.RowKit
set_option linter.unusedVariables false
set_option linter.unusedSimpArgs false

def noA : C3 := ⟨ByteArray.empty, 0, 0⟩
def gl (l : List C3) (j : Nat) : C3 := l.getD j noA
def FewB (l : List C3) : Prop := ∀ x ∈ l, x.code.size ≤ 60
theorem gl_few {l : List C3} (h : FewB l) (j : Nat) : (gl l j).code.size ≤ 60 := by
  unfold gl
  rcases Nat.lt_or_ge j l.length with q | q
  · rw [List.getD_eq_getElem?_getD, List.getElem?_eq_getElem q]
    exact h _ (List.getElem_mem q)
  · rw [List.getD_eq_getElem?_getD, List.getElem?_eq_none q]
    show ByteArray.empty.size ≤ 60
    decide
theorem gl_old {l : List C3} {x : C3} {j : Nat} (h : j < l.length) : gl (l ++ [x]) j = gl l j := by
  unfold gl
  rw [List.getD_eq_getElem?_getD, List.getD_eq_getElem?_getD, List.getElem?_append_left h]
theorem gl_new {l : List C3} {x : C3} : gl (l ++ [x]) l.length = x := by
  unfold gl
  rw [List.getD_eq_getElem?_getD, List.getElem?_append_right (Nat.le_refl _)]
  simp
def LowL (l : List C3) : Prop := Low (par (gl l)) l.length
theorem LowL.snoc {l : List C3} {x : C3} (h : LowL l) (hx : -1 ≤ x.places ∧ x.places < (l.length : Int)) : LowL (l ++ [x]) := by
  intro i hi
  rw [List.length_append] at hi
  by_cases e : i = l.length
  · subst e
    show -1 ≤ (gl (l ++ [x]) l.length).places ∧ _
    rw [show par (gl (l ++ [x])) l.length = x.places by unfold par; rw [gl_new]]
    rw [gl_new]; exact hx
  · have hlt : i < l.length := by simp at hi; omega
    have := h i hlt
    unfold par at this ⊢
    rw [gl_old hlt]; exact this

/-- The draw under way: the cursor b, the row of what is drawn. -/
structure D0 (w : World) (b : Nat) (v : Value) (l : List C3) (W : World) : Prop where
  cur : Cursor W b
  trn : Turns b w W
  row : W.ownsRow w.heap.size 30 3 v l.length (flatC l)
  lo : b < w.heap.size

/-- .. and the box A of the account that is drawn. -/
structure D1 (w : World) (b A : Nat) (s : ByteArray) (p k : Int) (v : Value) (l : List C3) (W : World) : Prop where
  d0 : D0 w b v l W
  box : CB W A #[.string s, .int .i64 p, .int .i64 k] 30
  far : w.heap.size ≤ A
  ne : some A ≠ v.ownBlock

section
variable {w W W' : World} {b A : Nat} {s : ByteArray} {p k : Int} {v : Value} {l : List C3}
theorem D0.moved (h : D0 w b v l W) (m : Moved b W W') : D0 w b v l W' :=
  ⟨m.1, h.trn.trans m.2, row_block h.row (fun g hg => m.2.block g (h.row.lt g hg).2 (by have := (h.row.lt g hg).1; have := h.lo; omega)), h.lo⟩
theorem D0.alloc (h : D0 w b v l W) (o : Obj) : D0 w b v l (W.alloc o) := ⟨h.cur.alloc o, h.trn.alloc o, h.row.alloc o, h.lo⟩
theorem D0.drewN (h : D0 w b v l W) (q : Nat) : D0 w b v l (W.drewN q) := ⟨h.cur.below ⟨rfl, rfl, rfl, Nat.le_refl _, fun _ _ => rfl⟩, h.trn.drewN q, row_block h.row (fun g hg => rfl), h.lo⟩
theorem D1.moved (h : D1 w b A s p k v l W) (m : Moved b W W') : D1 w b A s p k v l W' :=
  ⟨h.d0.moved m, h.box.turns m.2 (by have := h.far; have := h.d0.lo; omega), h.far, h.ne⟩
theorem D1.drewN (h : D1 w b A s p k v l W) (q : Nat) : D1 w b A s p k v l (W.drewN q) := ⟨h.d0.drewN q, h.box, h.far, h.ne⟩
theorem D0.box (h : D0 w b v l W) (s : ByteArray) (p k : Int) : D1 w b W.heap.size s p k v l (W.alloc (.cells #[.string s, .int .i64 p, .int .i64 k] 30 (0, 0))) :=
  ⟨h.alloc _, CB.new _ _, h.trn.size, fun e => by have := (h.row.lt _ e.symm).2; omega⟩
theorem D1.setA (h : D1 w b A s p k v l W) (o : Nat) (u : Value) (s' : ByteArray) (p' k' : Int) (hu : (#[.string s, .int .i64 p, .int .i64 k] : Array Value).setIfInBounds o u = #[.string s', .int .i64 p', .int .i64 k']) : D1 w b A s' p' k' v l (W.setCell ⟨A, o, none⟩ u) := by
  have hf := h.far
  have hlo := h.d0.lo
  refine ⟨⟨h.d0.cur.low (by simp) (fun x hx => heap_set (by omega)), ?_, row_set h.d0.row h.ne u, h.d0.lo⟩, hu ▸ h.box.set o u, h.far, h.ne⟩
  exact h.d0.trn.grown ⟨rfl, rfl, rfl, by simp, fun x hx hne => heap_set (fun e => hne (by rw [e]))⟩ (row := some A) (fun g hg => by cases hg; exact hf)
theorem D1.cells (h : D1 w b A s p k v l W) : W.cell? ⟨A, 0, none⟩ = some (.string s) ∧ W.cell? ⟨A, 1, none⟩ = some (.int .i64 p) ∧ W.cell? ⟨A, 2, none⟩ = some (.int .i64 k) :=
  ⟨(h.box.cell 0).trans rfl, (h.box.cell 1).trans rfl, (h.box.cell 2).trans rfl⟩
theorem D0.cr (h : D0 w b v l W) : ∃ ad cap, v = .slice ad l.length cap ∧ CR W ad l.length (gl l) := by
  by_cases h0 : l.length = 0
  · obtain ⟨ad, cap, e⟩ := row_form h.row
    exact ⟨ad, cap, e, .inl h0⟩
  · obtain ⟨g, cap, e, _⟩ := ownsRow_some h.row (by omega)
    have hr := h.row
    rw [e] at hr
    exact ⟨_, cap, e, curs_row hr⟩
end

set_option maxRecDepth 100000 in
theorem info30 : ∃ i, Tryd.prog.info? 30 = some i ∧ i.zero = some (.agg #[.string ByteArray.empty, .int .i64 0, .int .i64 0]) ∧ i.size = 3 ∧ i.bytes = 32 := by
  obtain ⟨i0, hi⟩ : ∃ i, Tryd.prog.info? 30 = some i := ⟨_, rfl⟩
  have hz0 : i0.zero = some (.agg #[.string ByteArray.empty, .int .i64 0, .int .i64 0]) := by
    have : (Tryd.prog.info? 30).bind (·.zero) = some (.agg #[.string ByteArray.empty, .int .i64 0, .int .i64 0]) := by kernel_rfl
    rw [hi] at this; exact this
  have hz1 : i0.size = 3 := by
    have : (Tryd.prog.info? 30).map (·.size) = some 3 := by kernel_rfl
    rw [hi] at this; simpa using this
  have hz2 : i0.bytes = 32 := by
    have : (Tryd.prog.info? 30).map (·.bytes) = some 32 := by kernel_rfl
    rw [hi] at this; simpa using this
  exact ⟨i0, hi, hz0, hz1, hz2⟩

theorem three_at {w : World} {n : Nat} (hb : w.heap.size = n) (x : C3) (t : TypeId) : ∀ j u, x.cells[j]? = some u → (w.alloc (.cells #[.string x.code, .int .i64 x.places, .int .i64 x.step] t)).cell? ((⟨n, 0, none⟩ : Addr).add j) = some u := hb ▸ three_new w x t

def ChartP (b : Nat) (w : World) (e : Ending) (w' : World) : Prop :=
  ∃ (l : List C3) (ad : Option Addr) (cap : Nat), e = .returned (.slice ad l.length cap) ∧ D0 w b (.slice ad l.length cap) l w' ∧ LowL l ∧ FewB l ∧ 1 ≤ l.length ∧ l.length ≤ 70

set_option maxRecDepth 20000 in
set_option maxHeartbeats 8000000 in
theorem drawChart_any (b : Nat) (most : Int) (w : World) (hc : Cursor w b) (hm : 1 ≤ most ∧ most ≤ 60) :
    Calls Tryd.prog 39 #[.pointer (some ⟨b, 0, none⟩), .int .i64 most] w (ChartP b w) := by
  have hlo := hc.lt
  have HD0 : Hid (D0 w b (.slice (some ⟨w.heap.size, 0, none⟩) 0 0) [] (w.alloc (.cells #[] 30 (0, 0)))) := ⟨hc.alloc _, (Turns.refl _ _).alloc _, World.ownsRow_made w #[] 0 (Nat.le_refl _) (Nat.zero_le _) rfl, hlo⟩
  obtain ⟨i0, hi, hz0, hz1, hz2⟩ := info30
  clear hc
  go_enter Tryd.func39, Tryd.ntmps39
  go_wp2_with (go_at_call 67; refine (below_any b _ _ HD0.out.cur).mono ?_; rintro e w1 ⟨x, rfl, x0, x1, x2, m1⟩; have x3 := x1 hm.1; have HD1 : Hid (D0 w b (.slice (some ⟨w.heap.size, 0, none⟩) 0 0) [] w1) := HD0.out.moved m1; clear m1 x1 x2)
  go_loopw [5, 6] (fun u n wr => ∃ (l : List C3) (ad : Option Addr) (cap : Nat) (m : Nat), u = .slice ad l.length cap ∧ n = .int .i64 (m : Int) ∧ (m : Int) + (l.length : Int) = 3 + x ∧ D0 w b (.slice ad l.length cap) l wr ∧ LowL l ∧ FewB l) (fun u n _ => (intOf n).toNat)
  case atStart => exact ⟨[], _, _, (3 + x).toNat, rfl, by rw [show (((3 + x).toNat : Nat) : Int) = 3 + x by omega], by simp; omega, HD1.out, fun i hi => by simp at hi, fun y hy => by simp at hy⟩
  case round =>
    obtain ⟨l, ad, cap, m, rfl, rfl, hml, hD, hLow, hFew⟩ := hrel
    by_cases hm0 : 0 < m
    · obtain ⟨m', rfl⟩ : ∃ m', m = m' + 1 := ⟨m - 1, by omega⟩
      have hll : l.length ≤ 62 := by omega
      have hm2 : (0 : Int) < ((m' + 1 : Nat) : Int) := by omega
      have hm3 : ((m' + 1 : Nat) : Int) ≤ 63 := by omega
      have HD : Hid (D0 w b (.slice ad l.length cap) l wr) := hD
      have HLo : Hid (LowL l) := hLow
      have HFe : Hid (FewB l) := hFew
      clear hD hLow hFew
      go_wp2_with (first
        | (go_at_call 70; refine (drawName_any b wr HD.out.cur).mono ?_; rintro e w2 ⟨⟨t, rfl, ht⟩, m2⟩; have HD2 : Hid (D0 w b (.slice ad l.length cap) l w2) := HD.out.moved m2; clear m2)
        | (go_at_call 67; refine (below_any b _ w2 HD2.out.cur).mono ?_; rintro e w3 ⟨y, rfl, y0, y1, y2, m3⟩; have y3 := y1 (by decide); have HD3 : Hid (D0 w b (.slice ad l.length cap) l w3) := HD2.out.moved m3; clear m3 y1 y2))
      have HDA : Hid (D1 w b w3.heap.size t (-1) (1 + y) (.slice ad l.length cap) l (w3.alloc (.cells #[.string t, .int .i64 (-1), .int .i64 (1 + y)] 30 (0, 0)))) := HD3.out.box _ _ _
      obtain ⟨A, hA⟩ : ∃ A, w3.heap.size = A := ⟨_, rfl⟩
      rw [hA] at HDA ⊢
      have hll2 : (l.length : Int) ≤ 62 := by omega
      clear hA
      go_loopw [9] (fun u wq => ∃ (j : Nat) (s : ByteArray), j ≤ l.length ∧ u = .int .i64 (j : Int) ∧ s.size ≤ 60 ∧ D1 w b A s (-1) (1 + y) (.slice ad l.length cap) l wq) (fun u _ => l.length - (intOf u).toNat)
      case atStart => exact ⟨0, t, Nat.zero_le _, rfl, by omega, HDA.out⟩
      case round =>
        obtain ⟨j, s, hj, rfl, hs, hDA⟩ := hrel
        have HDA2 : Hid (D1 w b A s (-1) (1 + y) (.slice ad l.length cap) l wr) := hDA
        obtain ⟨a0, a1, a2⟩ := hDA.cells
        clear hDA
        by_cases hjl : j < l.length
        · obtain ⟨ad', cap', ev, hcr⟩ := HDA2.out.d0.cr
          obtain ⟨kb, off, rfl, _⟩ : ∃ k off, ad = some ⟨k, off, none⟩ ∧ k < wr.heap.size := by
            simp only [Value.slice.injEq] at ev
            rw [ev.1]
            exact hcr.addr (by omega)
          have hcr2 : CR wr (some ⟨kb, off, none⟩) l.length (gl l) := by simp only [Value.slice.injEq] at ev; rw [ev.1]; exact hcr
          obtain ⟨r0, _, _⟩ := hcr2.cell hjl
          obtain ⟨ys, hys⟩ : ∃ ys, (gl l j).code = ys := ⟨_, rfl⟩
          rw [hys] at r0
          have hjl2 : (j : Int) < (l.length : Int) := by omega
          clear ev hcr hcr2 hys
          by_cases g : ys = s
          · have e1 := lists_t g
            clear g
            go_wp2
            go_quiet (fail)
            have HDA3 : Hid (D1 w b A s (-1) (1 + y) (.slice (some ⟨kb, off, none⟩) l.length cap) l (wr.drewN nq)) := HDA2.out.drewN nq
            have fA := HDA2.out.box.fr 0
            go_wp2_with (go_at_call 71; refine (text_any l.length _ (by omega)).mono ?_; rintro e wt ⟨⟨tx, rfl, htx⟩, qt, rfl⟩)
            go_roundw
            case rel => exact ⟨j + 1, ⟨#[110]⟩ ++ tx, by omega, by go_num, by rw [ByteArray.size_append]; show 1 + tx.size ≤ 60; omega, (HDA2.out.drewN (nq + qt)).setA 0 (.string (⟨#[110]⟩ ++ tx)) _ _ _ rfl⟩
            case measure => simp [intOf]; omega
          · have e1 := lists_f g
            clear g
            go_wp2
            go_quiet (fail)
            go_wp2
            go_roundw
            case rel => exact ⟨j + 1, s, by omega, by go_num, hs, HDA2.out.drewN _⟩
            case measure => simp [intOf]; omega
        · have dj : ¬ ((j : Int) < (l.length : Int)) := by omega
          by_cases hl0 : l.length = 0
          · have d0 : decide ((0 : Int) < (l.length : Int)) = false := decide_eq_false (by omega)
            have d1 : ¬ ((0 : Int) < (l.length : Int)) := by omega
            have d2 : ¬ (0 < l.length) := by omega
            clear hl0
            go_wp2_with (at_builtin; refine wpList_append_own_at _ rfl _ _ 24 rfl w.heap.size 30 i0 (.agg #[.string ByteArray.empty, .int .i64 0, .int .i64 0]) 3 32 Tryd.underlying24 hi hz0 hz1 hz2 rfl (by decide) (.slice ad l.length cap) l.length (flatC l) rfl (HDA2.out.d0.row.alloc _) ⟨wr.heap.size, 0, none⟩ 1 1 (C3.cells ⟨s, (-1), (1 + y)⟩) rfl rfl (three_at (by simp) ⟨s, (-1), (1 + y)⟩ 30) (three_one ⟨s, (-1), (1 + y)⟩) (by unfold maxLen; omega) (by omega) (by have := HDA2.out.d0.trn.size; (try simp at this); simp; omega) ?_; intro v' w9 hown9 hgrow9 _ hloc9; obtain ⟨ad9, cap9, rfl⟩ := row_form hown9; have HN : Hid (D0 w b (.slice ad9 (l.length + 1) cap9) (l ++ [⟨s, (-1), (1 + y)⟩]) w9) := ⟨(HDA2.out.d0.cur.alloc _).grown hgrow9 (fun g hg => by have := (HDA2.out.d0.row.lt g hg).1; omega), (HDA2.out.d0.trn.alloc _).grown hgrow9 (fun g hg => (HDA2.out.d0.row.lt g hg).1), by rw [flatC_snoc, List.length_append]; exact hown9, hlo⟩; clear hown9 hgrow9 hloc9)
            go_roundw
            case rel => exact ⟨l ++ [⟨s, (-1), (1 + y)⟩], ad9, cap9, m', by rw [List.length_append]; rfl, by go_num, by rw [List.length_append]; show (m' : Int) + ((l.length + 1 : Nat) : Int) = 3 + x; omega, by rw [List.length_append]; exact HN.out, HLo.out.snoc (by show (-1 : Int) ≤ -1 ∧ (-1 : Int) < _; omega), fun q hq => by
              rcases List.mem_append.1 hq with hq | hq
              · exact HFe.out q hq
              · simp at hq; subst hq; exact hs⟩
            case measure => simp [intOf]
          · have hl1 : (0 : Int) < (l.length : Int) := by omega
            go_wp2_with (first
              | (go_at_call 66; refine (once_any b _ wr HDA2.out.d0.cur).mono ?_; rintro e w4 ⟨xo, rfl, m4⟩; have HDA4 : Hid (D1 w b A s (-1) (1 + y) (.slice ad l.length cap) l w4) := HDA2.out.moved m4; have a40 := HDA4.out.cells.1; have a41 := HDA4.out.cells.2.1; have a42 := HDA4.out.cells.2.2; clear m4 a0 a1 a2; cases xo)
              | (go_at_call 67; refine (below_any b _ w4 HDA4.out.d0.cur).mono ?_; rintro e w5 ⟨uy, rfl, u0, u1, u2, m5⟩; have u3 := u1 (by decide); have HDA5 : Hid (D1 w b A s (-1) (1 + y) (.slice ad l.length cap) l w5) := HDA4.out.moved m5; clear m5 u1 u2 a40 a41 a42)
              | (at_builtin; refine wpList_append_own_at _ rfl _ _ 24 rfl w.heap.size 30 i0 (.agg #[.string ByteArray.empty, .int .i64 0, .int .i64 0]) 3 32 Tryd.underlying24 hi hz0 hz1 hz2 rfl (by decide) (.slice ad l.length cap) l.length (flatC l) rfl (HDA4.out.d0.row.alloc _) ⟨w4.heap.size, 0, none⟩ 1 1 (C3.cells ⟨s, (-1), (1 + y)⟩) rfl rfl (three_at (by simp) ⟨s, (-1), (1 + y)⟩ 30) (three_one ⟨s, (-1), (1 + y)⟩) (by unfold maxLen; omega) (by omega) (by have := HDA4.out.d0.trn.size; (try simp at this); simp; omega) ?_; intro v' w9 hown9 hgrow9 _ hloc9; obtain ⟨ad9, cap9, rfl⟩ := row_form hown9; have HN : Hid (D0 w b (.slice ad9 (l.length + 1) cap9) (l ++ [⟨s, (-1), (1 + y)⟩]) w9) := ⟨(HDA4.out.d0.cur.alloc _).grown hgrow9 (fun g hg => by have := (HDA4.out.d0.row.lt g hg).1; omega), (HDA4.out.d0.trn.alloc _).grown hgrow9 (fun g hg => (HDA4.out.d0.row.lt g hg).1), by rw [flatC_snoc, List.length_append]; exact hown9, hlo⟩; clear hown9 hgrow9 hloc9))
            · obtain ⟨ad', cap', ev, hcr⟩ := HDA5.out.d0.cr
              obtain ⟨kb, off, rfl, _⟩ : ∃ k off, ad = some ⟨k, off, none⟩ ∧ k < w5.heap.size := by
                simp only [Value.slice.injEq] at ev
                rw [ev.1]
                exact hcr.addr (by omega)
              have HCR : Hid (CR w5 (some ⟨kb, off, none⟩) l.length (gl l)) := by simp only [Value.slice.injEq] at ev; rw [ev.1]; exact hcr
              have fa1 := HDA5.out.box.fr 1
              have fa2 := HDA5.out.box.fr 2
              obtain ⟨a50, a51, a52⟩ := HDA5.out.cells
              have hneA : A ≠ kb := fun e => HDA5.out.ne (by rw [e]; rfl)
              clear ev hcr dj hl0
              go_loop [10, 11] (fun u v => ∃ (on up : Nat), on < l.length ∧ up ≤ 3 ∧ u = .int .i64 (on : Int) ∧ v = .int .i64 (up : Int)) (fun u v => (intOf v).toNat)
              case atStart => exact ⟨l.length - 1, uy.toNat, by omega, by omega, by rw [show ((l.length - 1 : Nat) : Int) = (l.length : Int) - 1 by omega], by rw [show ((uy.toNat : Nat) : Int) = uy by omega]⟩
              case round =>
                obtain ⟨on, up, hon, hup3, rfl, rfl⟩ := hrel
                obtain ⟨r0, r1, r2⟩ := HCR.out.cell hon
                have hon2 : (on : Int) < (l.length : Int) := by omega
                have hlow := HLo.out on hon
                have hpp : (gl l on).places = par (gl l) on := rfl
                rw [hpp] at r1
                by_cases hgo : 0 < up ∧ 0 ≤ par (gl l) on
                · obtain ⟨hg1, hg2⟩ := hgo
                  obtain ⟨q, hq⟩ : ∃ q : Nat, par (gl l) on = (q : Int) := ⟨(par (gl l) on).toNat, by omega⟩
                  rw [hq] at r1 hlow
                  obtain ⟨up', rfl⟩ : ∃ u', up = u' + 1 := ⟨up - 1, by omega⟩
                  have hu1 : (0 : Int) < ((up' + 1 : Nat) : Int) := by omega
                  have hu2 : ((up' + 1 : Nat) : Int) ≤ 3 := by omega
                  clear hq hpp hg1 hg2
                  go_wp2
                  go_round
                  case rel => exact ⟨q, up', by omega, by omega, by go_num, by go_num⟩
                  case measure => simp [intOf]
                · obtain ⟨kk, hkk⟩ : ∃ kk, (gl l on).step = kk := ⟨_, rfl⟩
                  rw [hkk] at r2
                  obtain ⟨pp, hpq⟩ : ∃ pp, par (gl l) on = pp := ⟨_, rfl⟩
                  rw [hpq] at r1 hgo
                  obtain ⟨d, hd⟩ : ∃ d : Int, (dep (par (gl l)) (on + 1) : Int) - 1 = d := ⟨_, rfl⟩
                  have HDP : Hid (Calls Tryd.prog 51 #[.slice (some ⟨kb, off, none⟩) l.length cap, .int .i64 (on : Int)] w5 fun e w' => e = .returned (.int .i64 d) ∧ w' = w5) := l4Deep_eq _ l.length cap (gl l) w5 on (by omega) HCR.out hon (HLo.out.mono (by omega)) hd
                  clear hpp hkk hpq hd hlow
                  by_cases hd8 : d < 8
                  · have HST : Hid (D1 w b A s (on : Int) kk (.slice (some ⟨kb, off, none⟩) l.length cap) l ((w5.setCell ⟨A, 1, none⟩ (.int .i64 (on : Int))).setCell ⟨A, 2, none⟩ (.int .i64 kk))) := (HDA5.out.setA 1 (.int .i64 (on : Int)) s (on : Int) (1 + y) rfl).setA 2 (.int .i64 kk) s (on : Int) kk rfl
                    have hcr1 : (w5.setCell ⟨A, 1, none⟩ (.int .i64 (on : Int))).cell? ⟨kb, off + on * 3 + 2, none⟩ = some (.int .i64 kk) := (World.cell?_of_block (heap_set (fun e => hneA e.symm))).trans r2
                    have HB1 := HDA5.out.box.set 1 (.int .i64 (on : Int))
                    have c12 : (w5.setCell ⟨A, 1, none⟩ (.int .i64 (on : Int))).cell? ⟨A, 2, none⟩ = some (.int .i64 (1 + y)) := (HB1.cell 2).trans rfl
                    obtain ⟨s0, s1, s2⟩ := HST.out.cells
                    clear HB1
                    rcases (by omega : up = 0 ∨ (0 < up ∧ pp < 0)) with hup | ⟨hup, hpn⟩
                    · subst hup
                      go_wp2_with (first
                        | (go_at_call 51; refine HDP.out.mono ?_; rintro e w' ⟨rfl, ew⟩; replace ew := ew.symm; subst ew)
                        | (at_builtin; refine wpList_append_own_at _ rfl _ _ 24 rfl w.heap.size 30 i0 (.agg #[.string ByteArray.empty, .int .i64 0, .int .i64 0]) 3 32 Tryd.underlying24 hi hz0 hz1 hz2 rfl (by decide) (.slice (some ⟨kb, off, none⟩) l.length cap) l.length (flatC l) rfl (HST.out.d0.row.alloc _) ⟨w5.heap.size, 0, none⟩ 1 1 (C3.cells ⟨s, (on : Int), kk⟩) rfl rfl (three_at (by simp) ⟨s, (on : Int), kk⟩ 30) (three_one ⟨s, (on : Int), kk⟩) (by unfold maxLen; omega) (by omega) (by have := HST.out.d0.trn.size; (try simp at this); simp; omega) ?_; intro v' w9 hown9 hgrow9 _ hloc9; obtain ⟨ad9, cap9, rfl⟩ := row_form hown9; have HN : Hid (D0 w b (.slice ad9 (l.length + 1) cap9) (l ++ [⟨s, (on : Int), kk⟩]) w9) := ⟨(HST.out.d0.cur.alloc _).grown hgrow9 (fun g hg => by have := (HST.out.d0.row.lt g hg).1; omega), (HST.out.d0.trn.alloc _).grown hgrow9 (fun g hg => (HST.out.d0.row.lt g hg).1), by rw [flatC_snoc, List.length_append]; exact hown9, hlo⟩; clear hown9 hgrow9 hloc9))
                      go_roundw
                      case rel => exact ⟨l ++ [⟨s, (on : Int), kk⟩], ad9, cap9, m', by rw [List.length_append]; rfl, by go_num, by rw [List.length_append]; show (m' : Int) + ((l.length + 1 : Nat) : Int) = 3 + x; omega, by rw [List.length_append]; exact HN.out, HLo.out.snoc (by show (-1 : Int) ≤ on ∧ (on : Int) < _; omega), fun q hq => by
                        rcases List.mem_append.1 hq with hq | hq
                        · exact HFe.out q hq
                        · simp at hq; subst hq; exact hs⟩
                      case measure => simp [intOf]
                    · have hu1 : (0 : Int) < (up : Int) := by omega
                      go_wp2_with (first
                        | (go_at_call 51; refine HDP.out.mono ?_; rintro e w' ⟨rfl, ew⟩; replace ew := ew.symm; subst ew)
                        | (at_builtin; refine wpList_append_own_at _ rfl _ _ 24 rfl w.heap.size 30 i0 (.agg #[.string ByteArray.empty, .int .i64 0, .int .i64 0]) 3 32 Tryd.underlying24 hi hz0 hz1 hz2 rfl (by decide) (.slice (some ⟨kb, off, none⟩) l.length cap) l.length (flatC l) rfl (HST.out.d0.row.alloc _) ⟨w5.heap.size, 0, none⟩ 1 1 (C3.cells ⟨s, (on : Int), kk⟩) rfl rfl (three_at (by simp) ⟨s, (on : Int), kk⟩ 30) (three_one ⟨s, (on : Int), kk⟩) (by unfold maxLen; omega) (by omega) (by have := HST.out.d0.trn.size; (try simp at this); simp; omega) ?_; intro v' w9 hown9 hgrow9 _ hloc9; obtain ⟨ad9, cap9, rfl⟩ := row_form hown9; have HN : Hid (D0 w b (.slice ad9 (l.length + 1) cap9) (l ++ [⟨s, (on : Int), kk⟩]) w9) := ⟨(HST.out.d0.cur.alloc _).grown hgrow9 (fun g hg => by have := (HST.out.d0.row.lt g hg).1; omega), (HST.out.d0.trn.alloc _).grown hgrow9 (fun g hg => (HST.out.d0.row.lt g hg).1), by rw [flatC_snoc, List.length_append]; exact hown9, hlo⟩; clear hown9 hgrow9 hloc9))
                      go_roundw
                      case rel => exact ⟨l ++ [⟨s, (on : Int), kk⟩], ad9, cap9, m', by rw [List.length_append]; rfl, by go_num, by rw [List.length_append]; show (m' : Int) + ((l.length + 1 : Nat) : Int) = 3 + x; omega, by rw [List.length_append]; exact HN.out, HLo.out.snoc (by show (-1 : Int) ≤ on ∧ (on : Int) < _; omega), fun q hq => by
                        rcases List.mem_append.1 hq with hq | hq
                        · exact HFe.out q hq
                        · simp at hq; subst hq; exact hs⟩
                      case measure => simp [intOf]
                  · rcases (by omega : up = 0 ∨ (0 < up ∧ pp < 0)) with hup | ⟨hup, hpn⟩
                    · subst hup
                      go_wp2_with (first
                        | (go_at_call 51; refine HDP.out.mono ?_; rintro e w' ⟨rfl, ew⟩; replace ew := ew.symm; subst ew)
                        | (at_builtin; refine wpList_append_own_at _ rfl _ _ 24 rfl w.heap.size 30 i0 (.agg #[.string ByteArray.empty, .int .i64 0, .int .i64 0]) 3 32 Tryd.underlying24 hi hz0 hz1 hz2 rfl (by decide) (.slice (some ⟨kb, off, none⟩) l.length cap) l.length (flatC l) rfl (HDA5.out.d0.row.alloc _) ⟨w5.heap.size, 0, none⟩ 1 1 (C3.cells ⟨s, (-1), (1 + y)⟩) rfl rfl (three_at (by simp) ⟨s, (-1), (1 + y)⟩ 30) (three_one ⟨s, (-1), (1 + y)⟩) (by unfold maxLen; omega) (by omega) (by have := HDA5.out.d0.trn.size; (try simp at this); simp; omega) ?_; intro v' w9 hown9 hgrow9 _ hloc9; obtain ⟨ad9, cap9, rfl⟩ := row_form hown9; have HN : Hid (D0 w b (.slice ad9 (l.length + 1) cap9) (l ++ [⟨s, (-1), (1 + y)⟩]) w9) := ⟨(HDA5.out.d0.cur.alloc _).grown hgrow9 (fun g hg => by have := (HDA5.out.d0.row.lt g hg).1; omega), (HDA5.out.d0.trn.alloc _).grown hgrow9 (fun g hg => (HDA5.out.d0.row.lt g hg).1), by rw [flatC_snoc, List.length_append]; exact hown9, hlo⟩; clear hown9 hgrow9 hloc9))
                      go_roundw
                      case rel => exact ⟨l ++ [⟨s, (-1), (1 + y)⟩], ad9, cap9, m', by rw [List.length_append]; rfl, by go_num, by rw [List.length_append]; show (m' : Int) + ((l.length + 1 : Nat) : Int) = 3 + x; omega, by rw [List.length_append]; exact HN.out, HLo.out.snoc (by show (-1 : Int) ≤ -1 ∧ (-1 : Int) < _; omega), fun q hq => by
                        rcases List.mem_append.1 hq with hq | hq
                        · exact HFe.out q hq
                        · simp at hq; subst hq; exact hs⟩
                      case measure => simp [intOf]
                    · have hu1 : (0 : Int) < (up : Int) := by omega
                      go_wp2_with (first
                        | (go_at_call 51; refine HDP.out.mono ?_; rintro e w' ⟨rfl, ew⟩; replace ew := ew.symm; subst ew)
                        | (at_builtin; refine wpList_append_own_at _ rfl _ _ 24 rfl w.heap.size 30 i0 (.agg #[.string ByteArray.empty, .int .i64 0, .int .i64 0]) 3 32 Tryd.underlying24 hi hz0 hz1 hz2 rfl (by decide) (.slice (some ⟨kb, off, none⟩) l.length cap) l.length (flatC l) rfl (HDA5.out.d0.row.alloc _) ⟨w5.heap.size, 0, none⟩ 1 1 (C3.cells ⟨s, (-1), (1 + y)⟩) rfl rfl (three_at (by simp) ⟨s, (-1), (1 + y)⟩ 30) (three_one ⟨s, (-1), (1 + y)⟩) (by unfold maxLen; omega) (by omega) (by have := HDA5.out.d0.trn.size; (try simp at this); simp; omega) ?_; intro v' w9 hown9 hgrow9 _ hloc9; obtain ⟨ad9, cap9, rfl⟩ := row_form hown9; have HN : Hid (D0 w b (.slice ad9 (l.length + 1) cap9) (l ++ [⟨s, (-1), (1 + y)⟩]) w9) := ⟨(HDA5.out.d0.cur.alloc _).grown hgrow9 (fun g hg => by have := (HDA5.out.d0.row.lt g hg).1; omega), (HDA5.out.d0.trn.alloc _).grown hgrow9 (fun g hg => (HDA5.out.d0.row.lt g hg).1), by rw [flatC_snoc, List.length_append]; exact hown9, hlo⟩; clear hown9 hgrow9 hloc9))
                      go_roundw
                      case rel => exact ⟨l ++ [⟨s, (-1), (1 + y)⟩], ad9, cap9, m', by rw [List.length_append]; rfl, by go_num, by rw [List.length_append]; show (m' : Int) + ((l.length + 1 : Nat) : Int) = 3 + x; omega, by rw [List.length_append]; exact HN.out, HLo.out.snoc (by show (-1 : Int) ≤ -1 ∧ (-1 : Int) < _; omega), fun q hq => by
                        rcases List.mem_append.1 hq with hq | hq
                        · exact HFe.out q hq
                        · simp at hq; subst hq; exact hs⟩
                      case measure => simp [intOf]
            · skip
              go_roundw
              case rel => exact ⟨l ++ [⟨s, (-1), (1 + y)⟩], ad9, cap9, m', by rw [List.length_append]; rfl, by go_num, by rw [List.length_append]; show (m' : Int) + ((l.length + 1 : Nat) : Int) = 3 + x; omega, by rw [List.length_append]; exact HN.out, HLo.out.snoc (by show (-1 : Int) ≤ -1 ∧ (-1 : Int) < _; omega), fun q hq => by
                rcases List.mem_append.1 hq with hq | hq
                · exact HFe.out q hq
                · simp at hq; subst hq; exact hs⟩
              case measure => simp [intOf]
    · obtain rfl : m = 0 := by omega
      have HF : Hid (ChartP b w (.returned (.slice ad l.length cap)) wr) := ⟨l, ad, cap, rfl, hD, hLow, hFew, by omega, by omega⟩
      clear hD hLow hFew
      go_wp2
      go_returns
      exact HF.out

end Go.Proofs.YtkplhiahfebmlaaDoor
