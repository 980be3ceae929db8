/- The program's iterator over the lines of a ledger within some days: what it hands over, whatever the loop's body that keeps what lay below n0. The program's iterator over the lines of a ledger, of whatever lines. -/
import Derived.RangeFuncFrom
import Derived.RangeFuncNested
import Derived.RangeFuncBound
import Derived.RangeFuncCalls
import Derived.RangeFuncLeaves
import Derived.Shelf.Abstract
import Derived.Shelf.RegionOpen
import Derived.OwnWalkIn
import Derived.TacticsInMore
import Derived.LoopNIn
import Derived.LoopIn
import Derived.Scope
import Derived.Test.YtgnhpjlfdkpaiaaDoorB1
namespace Go.Proofs.YtgnhpjlfdkpaiaaDoor
open Go.RowKit Go.Shelf
attribute [local go_sem] Oper.semAt_some
set_option linter.unusedVariables false
set_option linter.unusedSimpArgs false

/-- Whatever lay below N, but for the blocks from lo to hi, lies as it lay. -/
structure KS (lo hi N : Nat) (W W' : World) : Prop where
  os : W'.os = W.os
  tape : W'.tape = W.tape
  output : W'.output = W.output
  size : W.heap.size ≤ W'.heap.size
  block : ∀ k, k < N → k < lo ∨ hi ≤ k → W'.heap[k]? = W.heap[k]?

theorem KS.refl (lo hi N : Nat) (W : World) : KS lo hi N W W := ⟨rfl, rfl, rfl, Nat.le_refl _, fun _ _ _ => rfl⟩
theorem KS.trans {lo hi N : Nat} {A B C : World} (h : KS lo hi N A B) (k : KS lo hi N B C) : KS lo hi N A C :=
  ⟨k.os.trans h.os, k.tape.trans h.tape, k.output.trans h.output, Nat.le_trans h.size k.size, fun j hj hl => (k.block j hj hl).trans (h.block j hj hl)⟩
theorem KS.of_below {lo hi N : Nat} {A B : World} (h : Below A.heap.size A B) (hN : N ≤ A.heap.size) : KS lo hi N A B :=
  ⟨h.os, h.tape, h.output, h.size, fun k hk _ => h.block k (by omega)⟩
theorem KS.set {lo hi N b o : Nat} {W : World} (h1 : lo ≤ b) (h2 : b < hi) (v : Value) : KS lo hi N W (W.setCell ⟨b, o, none⟩ v) :=
  ⟨rfl, rfl, rfl, by simp [World.setCell], fun k hk hl => Below.heap_setCell _ _ _ _ (by simp; omega)⟩
theorem KS.put {lo hi N : Nat} (W : World) (l : Nat) (o o' : Obj) (hl : N ≤ l) (h : W.heap[l]? = some o) : KS lo hi N W (W.putObj l o') := by
  have hg := grownBy_putObj' W l o'
  have hlt : l < W.heap.size := (Array.getElem?_eq_some_iff.1 h).1
  exact ⟨hg.os, hg.tape, hg.output, hg.size, fun k hk _ => hg.block k (by omega) (fun e => by cases e; omega)⟩
theorem KS.cell {lo hi N b o : Nat} {W W' : World} (h : KS lo hi N W W') (hb : b < N) (hl : b < lo ∨ hi ≤ b) : W'.cell? ⟨b, o, none⟩ = W.cell? ⟨b, o, none⟩ := World.cell?_of_block (w := W) (h.block b hb hl)
theorem grown_of {W W' : World} (b : Below W.heap.size W W') : W.grownBy W' none := ⟨b.os, b.tape, b.output, b.size, fun k hk _ => b.block k hk⟩
theorem wpIn_scope {n : Nat} {P : Program} {c : Code} {Q : Exit → Act → World → Prop} {a : Act} {w : World} (h : c.wpIn Fence.wide n P (Exit.noGoto Q) a w) : (Code.scope c).wpIn Fence.wide n P Q a w :=
  wpIn_wide.2 (wp_scope_straight ((wpIn_wide (n := n)).1 h))

/-- A line that can be summed. -/
abbrev SL := { l : L5 // lnS l }
def vals (l : List SL) : List L5 := l.map (·.1)
theorem vals_snoc (l : List SL) (x : SL) : vals (l ++ [x]) = vals l ++ [x.1] := by simp [vals]
theorem vals_len (l : List SL) : (vals l).length = l.length := by simp [vals]

theorem ks_cell {w W0 W' : World} {lo hi N : Nat} (b : Below w.heap.size w W0) (k : KS lo hi N W0 W') (h1 : w.heap.size ≤ lo) (h2 : w.heap.size ≤ N) (j o : Nat) (hj : j < w.heap.size) : W'.cell? ⟨j, o, none⟩ = w.cell? ⟨j, o, none⟩ := by
  rw [k.cell (by omega) (by omega), World.cell?_of_block (w := w) (b.block j hj)]
theorem LR.ks {w W0 W' : World} {ad : Option Addr} {len : Nat} {r : Nat → L5} {lo hi N : Nat} (H : LR w ad len r) (b : Below w.heap.size w W0) (k : KS lo hi N W0 W') (h1 : w.heap.size ≤ lo) (h2 : w.heap.size ≤ N) : LR W' ad len r := by
  have e := ks_cell b k h1 h2
  have hs := Nat.le_trans b.size k.size
  rcases H with h | ⟨j2, off2, e2, hk2, hc2⟩
  · exact .inl h
  · refine .inr ⟨j2, off2, e2, by omega, fun i hi => ?_⟩
    obtain ⟨z0, z1, z2, z3, z4⟩ := hc2 i hi
    exact ⟨by rw [e _ _ hk2]; exact z0, by rw [e _ _ hk2]; exact z1, by rw [e _ _ hk2]; exact z2, by rw [e _ _ hk2]; exact z3, by rw [e _ _ hk2]; exact z4⟩

set_option maxRecDepth 100000 in
set_option maxHeartbeats 4000000 in
theorem lines_in (n : Nat) (hn : 1 ≤ n) (l lo hi n₀ b1 b2 b3 : Nat) (f t : Int) (ad : Option Addr) (len cap : Nat) (es : Nat → E4) (J Jx : List SL → World → Prop) (W : World)
    (h : (len : Int) ≤ 1000) (hS : ∀ i, i < len → enS (es i)) (hn₀ : n₀ ≤ W.heap.size) (w0 : World) (hE : ER w0 ad len es) (hb0 : Below w0.heap.size w0 W) (hw1 : w0.heap.size ≤ lo) (hw2 : w0.heap.size ≤ n₀)
    (hm : ∀ W', KS lo hi n₀ W W' → W'.cell? ⟨b1, 0, none⟩ = some (.slice ad len cap) ∧ W'.cell? ⟨b2, 0, none⟩ = some (.int .i64 f) ∧ W'.cell? ⟨b3, 0, none⟩ = some (.int .i64 t))
    (hJ : AbidesFrom W.heap.size J)
    (hY : ∀ pre x W, J pre W → pre.length < (ylS f t es len).length → YieldAt Fence.wide (n - 1) Tryd.prog l #[x.1.agg] W fun e W' =>
      (e = .returned (.bool true) ∧ J (pre ++ [x]) W' ∧ KS lo hi n₀ W W') ∨ (e = .returned (.bool false) ∧ Jx (pre ++ [x]) W'))
    (h0 : J [] W) :
    CallsIn Fence.wide n Tryd.prog 127 #[.func (.yield l) #[] #[], .pointer (some ⟨b1, 0, none⟩), .pointer (some ⟨b2, 0, none⟩), .pointer (some ⟨b3, 0, none⟩)] W fun e W' => (∃ v, e = .returned v) ∧
      ((∃ ys, vals ys = ylS f t es len ∧ J ys W') ∨ (∃ pre, vals pre <+: ylS f t es len ∧ Jx pre W')) := by
  refine callsIn_of_wp Tryd.func127 rfl trivial ?_ rfl
  simp only [Tryd.ntmps127, List.size_toArray, List.length_cons, List.length_nil, Nat.reduceAdd, Nat.reduceSub, Array.replicate_succ, Array.replicate_zero, List.push_toArray, List.append_toArray, List.nil_append, List.cons_append]
  obtain ⟨m1, m2, m3⟩ := hm W (KS.refl _ _ _ _)
  have HE : Hid (ER w0 ad len es) := hE
  have HB0 : Hid (Below w0.heap.size w0 W) := hb0
  clear hE hb0
  have HM : Hid (∀ W', KS lo hi n₀ W W' → W'.cell? ⟨b1, 0, none⟩ = some (.slice ad len cap) ∧ W'.cell? ⟨b2, 0, none⟩ = some (.int .i64 f) ∧ W'.cell? ⟨b3, 0, none⟩ = some (.int .i64 t)) := hm
  have HS : Hid (∀ i, i < len → enS (es i)) := hS
  clear hm hS m2 m3
  gi_wp2
  gi_loopw [12] (fun p wr => ∃ (i : Nat) (pre : List SL), i ≤ len ∧ p = .int .i64 (i : Int) ∧ Hid (vals pre = ylS f t es i) ∧ J pre wr ∧ KS lo hi n₀ W wr) (fun p _ => len - (intOf p).toNat)
  case atStart => exact ⟨0, [], Nat.zero_le _, rfl, rfl, h0, KS.refl _ _ _ _⟩
  case round =>
    obtain ⟨i, pre, hi0, rfl, hx, hJs, hB⟩ := hrel
    obtain ⟨W1, hW1⟩ : ∃ W1, W1 = wr := ⟨_, rfl⟩
    subst hW1
    obtain ⟨m1, m2, m3⟩ := HM.out W1 hB
    have HB : Hid (KS lo hi n₀ W W1) := hB
    have HJ : Hid (J pre W1) := hJs
    have hsz : n₀ ≤ W1.heap.size := Nat.le_trans hn₀ hB.size
    clear hB hJs
    by_cases hlt : i < len
    · obtain ⟨kb, off, rfl, hkb⟩ := HE.out.addr (by omega)
      obtain ⟨c1, c2, c3, la, lca, c4, hl⟩ := HE.out.cell hlt
      have HLL : Hid (LR w0 la (es i).n (es i).ls) := hl
      have hkc := ks_cell HB0.out HB.out hw1 hw2 kb
      rw [← hkc _ hkb] at c1 c2 c3 c4
      clear hkc hl
      have hn60 : ((es i).n : Int) ≤ 60 := by have := (HS.out i hlt).1; omega
      have HBa : Hid (Below W1.heap.size W1 (W1.alloc (.cells #[.int .i64 (es i).day, .int .i64 (es i).ref, .string (es i).text, .slice la (es i).n lca] 32 (0, 0)))) := (Below.refl _ _).alloc (Nat.le_refl _) _
      have HJ2 : Hid (J pre (W1.alloc (.cells #[.int .i64 (es i).day, .int .i64 (es i).ref, .string (es i).text, .slice la (es i).n lca] 32 (0, 0)))) := hJ _ _ _ _ HJ.out (grown_of HBa.out) (fun r e => by cases e)
      have HB2 : Hid (KS lo hi n₀ W (W1.alloc (.cells #[.int .i64 (es i).day, .int .i64 (es i).ref, .string (es i).text, .slice la (es i).n lca] 32 (0, 0)))) := HB.out.trans (KS.of_below HBa.out hsz)
      have j2 : (W1.alloc (.cells #[.int .i64 (es i).day, .int .i64 (es i).ref, .string (es i).text, .slice la (es i).n lca] 32 (0, 0))).cell? ⟨b2, 0, none⟩ = some (.int .i64 f) := keep_cell HBa.out m2
      have j3 : (W1.alloc (.cells #[.int .i64 (es i).day, .int .i64 (es i).ref, .string (es i).text, .slice la (es i).n lca] 32 (0, 0))).cell? ⟨b3, 0, none⟩ = some (.int .i64 t) := keep_cell HBa.out m3
      by_cases hd2 : f ≤ (es i).day ∧ (es i).day ≤ t
      · have d1 := hd2.1
        have d2 := hd2.2
        have g1 : decide ((es i).day < f) = false := decide_eq_false (by omega)
        have g2 : decide (t < (es i).day) = false := decide_eq_false (by omega)
        have hx0 : Hid (vals pre = ylP f t es i 0) := by show _ = _; rw [ylP_zero]; exact hx.out
        gi_wp2
        gi_loopw [29] (fun p wr => ∃ (m : Nat) (pre : List SL), m ≤ (es i).n ∧ p = .int .i64 (m : Int) ∧ Hid (vals pre = ylP f t es i m) ∧ J pre wr ∧ KS lo hi n₀ W wr) (fun p _ => (es i).n - (intOf p).toNat)
        case atStart => exact ⟨0, pre, Nat.zero_le _, rfl, hx0, HJ2.out, HB2.out⟩
        case round =>
          clear hx hx0 HJ HJ2 HB HB2 HBa j2 j3 m1 m2 m3 c1 c2 c3
          obtain ⟨m, pre, hm0, rfl, hx, hJs, hB⟩ := hrel
          obtain ⟨m1, m2, m3⟩ := HM.out wr hB
          have HB : Hid (KS lo hi n₀ W wr) := hB
          have HJ : Hid (J pre wr) := hJs
          have hsz : n₀ ≤ wr.heap.size := Nat.le_trans hn₀ hB.size
          clear hB hJs
          by_cases hmt : m < (es i).n
          · have hll := HLL.out.ks HB0.out HB.out hw1 hw2
            obtain ⟨lb, lo2, rfl, _⟩ := hll.addr (by omega)
            obtain ⟨x0, x1, x2, x3, x4⟩ := hll.cell hmt
            have hxl : lnS ((es i).ls m) := (HS.out i hlt).2 m hmt
            have hx2 : Hid (vals (pre ++ [⟨(es i).ls m, hxl⟩]) = ylP f t es i (m + 1)) := by show _ = _; rw [vals_snoc, hx.out, ylP_in ⟨d1, d2⟩]
            have hlen : pre.length < (ylS f t es len).length := by
              obtain ⟨r, hr⟩ := ylP_pre (f := f) (t := t) (es := es) (i := i) (k := m + 1) (n := len) hlt (by omega)
              rw [hr, List.length_append, ← hx2.out, vals_len, List.length_append, List.length_singleton]
              omega
            have HBl : Hid (Below wr.heap.size wr (wr.alloc (.cells #[.int .i64 ((es i).ls m).acc, .int .i64 ((es i).ls m).dim, .int .i64 ((es i).ls m).cur, .int .i64 ((es i).ls m).amt, .int .i64 ((es i).ls m).base] 56 (0, 0)))) := (Below.refl _ _).alloc (Nat.le_refl _) _
            have HJ2 : Hid (J pre (wr.alloc (.cells #[.int .i64 ((es i).ls m).acc, .int .i64 ((es i).ls m).dim, .int .i64 ((es i).ls m).cur, .int .i64 ((es i).ls m).amt, .int .i64 ((es i).ls m).base] 56 (0, 0)))) := hJ _ _ _ _ HJ.out (grown_of HBl.out) (fun r e => by cases e)
            have HB2 : Hid (KS lo hi n₀ W (wr.alloc (.cells #[.int .i64 ((es i).ls m).acc, .int .i64 ((es i).ls m).dim, .int .i64 ((es i).ls m).cur, .int .i64 ((es i).ls m).amt, .int .i64 ((es i).ls m).base] 56 (0, 0)))) := HB.out.trans (KS.of_below HBl.out hsz)
            obtain ⟨fn, tmps, assign, body, hy, hR⟩ := hY pre ⟨(es i).ls m, hxl⟩ _ HJ2.out hlen
            dsimp only [L5.agg] at hy tmps hR
            clear hll m1 m2 m3
            gi_wp2
            refine hR.mono ?_
            rintro e W3 (⟨rfl, hJ3, hk3⟩ | ⟨rfl, hJx3⟩)
            · have HB3 : Hid (KS lo hi n₀ W W3) := HB2.out.trans hk3
              have HJ3 : Hid (J (pre ++ [⟨(es i).ls m, hxl⟩]) W3) := hJ3
              clear hk3 hJ3
              gi_wp2
              go_roundw
              case rel => exact ⟨m + 1, pre ++ [⟨(es i).ls m, hxl⟩], by omega, by go_num, hx2, HJ3.out, HB3.out⟩
              case measure => simp [intOf]; omega
            · have HJ3 : Hid (Jx (pre ++ [⟨(es i).ls m, hxl⟩]) W3) := hJx3
              clear hJx3
              gi_wp2
              refine bodyPost_ret (results_none rfl _ _ _) rfl ?_
              exact ⟨⟨_, rfl⟩, .inr ⟨pre ++ [⟨(es i).ls m, hxl⟩], by
                obtain ⟨r, hr⟩ := ylP_pre (f := f) (t := t) (es := es) (i := i) (k := m + 1) (n := len) hlt (by omega)
                exact ⟨r, by rw [hx2.out, hr]⟩, HJ3.out⟩⟩
          · obtain rfl : m = (es i).n := by omega
            have hx2 : Hid (vals pre = ylS f t es (i + 1)) := hx.out
            clear m1 m2 m3
            gi_wp2
            go_roundw
            case rel => exact ⟨i + 1, pre, by omega, by go_num, hx2, HJ.out, HB.out⟩
            case measure => simp [intOf]; omega
      · have hx2 : Hid (vals pre = ylS f t es (i + 1)) := by show _ = _; rw [ylS_out hd2]; exact hx.out
        by_cases d1 : (es i).day < f
        · have g1 : decide ((es i).day < f) = true := decide_eq_true d1
          clear hd2
          gi_wp2
          go_roundw
          case rel => exact ⟨i + 1, pre, by omega, by go_num, hx2, HJ2.out, HB2.out⟩
          case measure => simp [intOf]; omega
        · have g1 : decide ((es i).day < f) = false := decide_eq_false d1
          have g2 : decide (t < (es i).day) = true := decide_eq_true (by omega)
          clear hd2
          gi_wp2
          go_roundw
          case rel => exact ⟨i + 1, pre, by omega, by go_num, hx2, HJ2.out, HB2.out⟩
          case measure => simp [intOf]; omega
    · obtain rfl : i = len := by omega
      clear m1 m2 m3
      gi_wp2
      go_end0
      exact ⟨⟨_, rfl⟩, .inl ⟨pre, hx.out, HJ.out⟩⟩

/-- linesOf hands back a value that goes over these lines. -/
theorem lines_stops (n : Nat) (hn : 1 ≤ n) (lo hi n₀ b1 b2 b3 : Nat) (f t : Int) (ad : Option Addr) (len cap : Nat) (es : Nat → E4) (w : World)
    (h : (len : Int) ≤ 1000) (hS : ∀ i, i < len → enS (es i)) (hn₀ : n₀ ≤ w.heap.size) (w0 : World) (hE : ER w0 ad len es) (hb0 : Below w0.heap.size w0 w) (hw1 : w0.heap.size ≤ lo) (hw2 : w0.heap.size ≤ n₀)
    (hm : ∀ W', KS lo hi n₀ w W' → W'.cell? ⟨b1, 0, none⟩ = some (.slice ad len cap) ∧ W'.cell? ⟨b2, 0, none⟩ = some (.int .i64 f) ∧ W'.cell? ⟨b3, 0, none⟩ = some (.int .i64 t)) :
    SeqStopsK Fence.wide n Tryd.prog 127 #[.pointer (some ⟨b1, 0, none⟩), .pointer (some ⟨b2, 0, none⟩), .pointer (some ⟨b3, 0, none⟩)] (fun x : SL => #[x.1.agg]) (KS lo hi n₀)
      (fun ys => vals ys = ylS f t es len) (fun pre => vals pre <+: ylS f t es len) (ylS f t es len).length w :=
  fun l J Jx W hW hJ _ hY h0 => lines_in n hn l lo hi n₀ b1 b2 b3 f t ad len cap es J Jx W h hS (Nat.le_trans hn₀ hW.size) w0 hE (hb0.trans (hW.mono hb0.size)) hw1 hw2 (fun W' hW' => hm W' ((KS.of_below hW hn₀).trans hW')) hJ hY h0

theorem linesOf_any (ad : Option Addr) (n cap : Nat) (hd f t : Int) (w : World) :
    Calls Tryd.prog 74 #[.agg #[.slice ad n cap, .int .i64 hd], .int .i64 f, .int .i64 t] w fun e w' =>
      e = .returned (.func (.func 127) #[] #[.pointer (some ⟨w.heap.size, 0, none⟩), .pointer (some ⟨w.heap.size + 1, 0, none⟩), .pointer (some ⟨w.heap.size + 1 + 1, 0, none⟩)]) ∧
      w' = ((w.alloc (.cells #[.slice ad n cap, .int .i64 hd] 29 (0, 0))).alloc (.cells #[.int .i64 f] 3 (0, 0))).alloc (.cells #[.int .i64 t] 3 (0, 0)) := by
  go_enter Tryd.func74, Tryd.ntmps74
  go_wp2
  go_returns
  exact ⟨rfl, rfl⟩

end Go.Proofs.YtgnhpjlfdkpaiaaDoor


namespace Go.Proofs.YtgnhpjlfdkpaiaaDoor
open Go.RowKit Go.Shelf
attribute [local go_sem] Oper.semAt_some
set_option linter.unusedVariables false
set_option linter.unusedSimpArgs false

abbrev SQ (Q : L5 → Prop) := { l : L5 // Q l }
def valsQ {Q : L5 → Prop} (l : List (SQ Q)) : List L5 := l.map (·.1)
theorem valsQ_snoc {Q : L5 → Prop} (l : List (SQ Q)) (x : SQ Q) : valsQ (l ++ [x]) = valsQ l ++ [x.1] := by simp [valsQ]
theorem valsQ_len {Q : L5 → Prop} (l : List (SQ Q)) : (valsQ l).length = l.length := by simp [valsQ]

set_option maxRecDepth 100000 in
set_option maxHeartbeats 4000000 in
theorem linesQ_in (Q : L5 → Prop) (n : Nat) (hn : 1 ≤ n) (l lo hi n₀ b1 b2 b3 : Nat) (f t : Int) (ad : Option Addr) (len cap : Nat) (es : Nat → E4) (J Jx : List (SQ Q) → World → Prop) (W : World)
    (h : (len : Int) ≤ 1000) (hS : ∀ i, i < len → (es i).n ≤ 60 ∧ ∀ k, k < (es i).n → Q ((es i).ls k)) (hn₀ : n₀ ≤ W.heap.size) (w0 : World) (hE : ER w0 ad len es) (hb0 : Below w0.heap.size w0 W) (hw1 : w0.heap.size ≤ lo) (hw2 : w0.heap.size ≤ n₀)
    (hm : ∀ W', KS lo hi n₀ W W' → W'.cell? ⟨b1, 0, none⟩ = some (.slice ad len cap) ∧ W'.cell? ⟨b2, 0, none⟩ = some (.int .i64 f) ∧ W'.cell? ⟨b3, 0, none⟩ = some (.int .i64 t))
    (hJ : AbidesFrom W.heap.size J)
    (hY : ∀ pre x W, J pre W → pre.length < (ylS f t es len).length → YieldAt Fence.wide (n - 1) Tryd.prog l #[x.1.agg] W fun e W' =>
      (e = .returned (.bool true) ∧ J (pre ++ [x]) W' ∧ KS lo hi n₀ W W') ∨ (e = .returned (.bool false) ∧ Jx (pre ++ [x]) W'))
    (h0 : J [] W) :
    CallsIn Fence.wide n Tryd.prog 127 #[.func (.yield l) #[] #[], .pointer (some ⟨b1, 0, none⟩), .pointer (some ⟨b2, 0, none⟩), .pointer (some ⟨b3, 0, none⟩)] W fun e W' => (∃ v, e = .returned v) ∧
      ((∃ ys, valsQ ys = ylS f t es len ∧ J ys W') ∨ (∃ pre, valsQ pre <+: ylS f t es len ∧ Jx pre W')) := by
  refine callsIn_of_wp Tryd.func127 rfl trivial ?_ rfl
  simp only [Tryd.ntmps127, List.size_toArray, List.length_cons, List.length_nil, Nat.reduceAdd, Nat.reduceSub, Array.replicate_succ, Array.replicate_zero, List.push_toArray, List.append_toArray, List.nil_append, List.cons_append]
  obtain ⟨m1, m2, m3⟩ := hm W (KS.refl _ _ _ _)
  have HE : Hid (ER w0 ad len es) := hE
  have HB0 : Hid (Below w0.heap.size w0 W) := hb0
  clear hE hb0
  have HM : Hid (∀ W', KS lo hi n₀ W W' → W'.cell? ⟨b1, 0, none⟩ = some (.slice ad len cap) ∧ W'.cell? ⟨b2, 0, none⟩ = some (.int .i64 f) ∧ W'.cell? ⟨b3, 0, none⟩ = some (.int .i64 t)) := hm
  have HS : Hid (∀ i, i < len → (es i).n ≤ 60 ∧ ∀ k, k < (es i).n → Q ((es i).ls k)) := hS
  clear hm hS m2 m3
  gi_wp2
  gi_loopw [12] (fun p wr => ∃ (i : Nat) (pre : List (SQ Q)), i ≤ len ∧ p = .int .i64 (i : Int) ∧ Hid (valsQ pre = ylS f t es i) ∧ J pre wr ∧ KS lo hi n₀ W wr) (fun p _ => len - (intOf p).toNat)
  case atStart => exact ⟨0, [], Nat.zero_le _, rfl, rfl, h0, KS.refl _ _ _ _⟩
  case round =>
    obtain ⟨i, pre, hi0, rfl, hx, hJs, hB⟩ := hrel
    obtain ⟨W1, hW1⟩ : ∃ W1, W1 = wr := ⟨_, rfl⟩
    subst hW1
    obtain ⟨m1, m2, m3⟩ := HM.out W1 hB
    have HB : Hid (KS lo hi n₀ W W1) := hB
    have HJ : Hid (J pre W1) := hJs
    have hsz : n₀ ≤ W1.heap.size := Nat.le_trans hn₀ hB.size
    clear hB hJs
    by_cases hlt : i < len
    · obtain ⟨kb, off, rfl, hkb⟩ := HE.out.addr (by omega)
      obtain ⟨c1, c2, c3, la, lca, c4, hl⟩ := HE.out.cell hlt
      have HLL : Hid (LR w0 la (es i).n (es i).ls) := hl
      have hkc := ks_cell HB0.out HB.out hw1 hw2 kb
      rw [← hkc _ hkb] at c1 c2 c3 c4
      clear hkc hl
      have hn60 : ((es i).n : Int) ≤ 60 := by have := (HS.out i hlt).1; omega
      have HBa : Hid (Below W1.heap.size W1 (W1.alloc (.cells #[.int .i64 (es i).day, .int .i64 (es i).ref, .string (es i).text, .slice la (es i).n lca] 32 (0, 0)))) := (Below.refl _ _).alloc (Nat.le_refl _) _
      have HJ2 : Hid (J pre (W1.alloc (.cells #[.int .i64 (es i).day, .int .i64 (es i).ref, .string (es i).text, .slice la (es i).n lca] 32 (0, 0)))) := hJ _ _ _ _ HJ.out (grown_of HBa.out) (fun r e => by cases e)
      have HB2 : Hid (KS lo hi n₀ W (W1.alloc (.cells #[.int .i64 (es i).day, .int .i64 (es i).ref, .string (es i).text, .slice la (es i).n lca] 32 (0, 0)))) := HB.out.trans (KS.of_below HBa.out hsz)
      have j2 : (W1.alloc (.cells #[.int .i64 (es i).day, .int .i64 (es i).ref, .string (es i).text, .slice la (es i).n lca] 32 (0, 0))).cell? ⟨b2, 0, none⟩ = some (.int .i64 f) := keep_cell HBa.out m2
      have j3 : (W1.alloc (.cells #[.int .i64 (es i).day, .int .i64 (es i).ref, .string (es i).text, .slice la (es i).n lca] 32 (0, 0))).cell? ⟨b3, 0, none⟩ = some (.int .i64 t) := keep_cell HBa.out m3
      by_cases hd2 : f ≤ (es i).day ∧ (es i).day ≤ t
      · have d1 := hd2.1
        have d2 := hd2.2
        have g1 : decide ((es i).day < f) = false := decide_eq_false (by omega)
        have g2 : decide (t < (es i).day) = false := decide_eq_false (by omega)
        have hx0 : Hid (valsQ pre = ylP f t es i 0) := by show _ = _; rw [ylP_zero]; exact hx.out
        gi_wp2
        gi_loopw [29] (fun p wr => ∃ (m : Nat) (pre : List (SQ Q)), m ≤ (es i).n ∧ p = .int .i64 (m : Int) ∧ Hid (valsQ pre = ylP f t es i m) ∧ J pre wr ∧ KS lo hi n₀ W wr) (fun p _ => (es i).n - (intOf p).toNat)
        case atStart => exact ⟨0, pre, Nat.zero_le _, rfl, hx0, HJ2.out, HB2.out⟩
        case round =>
          clear hx hx0 HJ HJ2 HB HB2 HBa j2 j3 m1 m2 m3 c1 c2 c3
          obtain ⟨m, pre, hm0, rfl, hx, hJs, hB⟩ := hrel
          obtain ⟨m1, m2, m3⟩ := HM.out wr hB
          have HB : Hid (KS lo hi n₀ W wr) := hB
          have HJ : Hid (J pre wr) := hJs
          have hsz : n₀ ≤ wr.heap.size := Nat.le_trans hn₀ hB.size
          clear hB hJs
          by_cases hmt : m < (es i).n
          · have hll := HLL.out.ks HB0.out HB.out hw1 hw2
            obtain ⟨lb, lo2, rfl, _⟩ := hll.addr (by omega)
            obtain ⟨x0, x1, x2, x3, x4⟩ := hll.cell hmt
            have hxl : Q ((es i).ls m) := (HS.out i hlt).2 m hmt
            have hx2 : Hid (valsQ (pre ++ [⟨(es i).ls m, hxl⟩]) = ylP f t es i (m + 1)) := by show _ = _; rw [valsQ_snoc, hx.out, ylP_in ⟨d1, d2⟩]
            have hlen : pre.length < (ylS f t es len).length := by
              obtain ⟨r, hr⟩ := ylP_pre (f := f) (t := t) (es := es) (i := i) (k := m + 1) (n := len) hlt (by omega)
              rw [hr, List.length_append, ← hx2.out, valsQ_len, List.length_append, List.length_singleton]
              omega
            have HBl : Hid (Below wr.heap.size wr (wr.alloc (.cells #[.int .i64 ((es i).ls m).acc, .int .i64 ((es i).ls m).dim, .int .i64 ((es i).ls m).cur, .int .i64 ((es i).ls m).amt, .int .i64 ((es i).ls m).base] 56 (0, 0)))) := (Below.refl _ _).alloc (Nat.le_refl _) _
            have HJ2 : Hid (J pre (wr.alloc (.cells #[.int .i64 ((es i).ls m).acc, .int .i64 ((es i).ls m).dim, .int .i64 ((es i).ls m).cur, .int .i64 ((es i).ls m).amt, .int .i64 ((es i).ls m).base] 56 (0, 0)))) := hJ _ _ _ _ HJ.out (grown_of HBl.out) (fun r e => by cases e)
            have HB2 : Hid (KS lo hi n₀ W (wr.alloc (.cells #[.int .i64 ((es i).ls m).acc, .int .i64 ((es i).ls m).dim, .int .i64 ((es i).ls m).cur, .int .i64 ((es i).ls m).amt, .int .i64 ((es i).ls m).base] 56 (0, 0)))) := HB.out.trans (KS.of_below HBl.out hsz)
            obtain ⟨fn, tmps, assign, body, hy, hR⟩ := hY pre ⟨(es i).ls m, hxl⟩ _ HJ2.out hlen
            dsimp only [L5.agg] at hy tmps hR
            clear hll m1 m2 m3
            gi_wp2
            refine hR.mono ?_
            rintro e W3 (⟨rfl, hJ3, hk3⟩ | ⟨rfl, hJx3⟩)
            · have HB3 : Hid (KS lo hi n₀ W W3) := HB2.out.trans hk3
              have HJ3 : Hid (J (pre ++ [⟨(es i).ls m, hxl⟩]) W3) := hJ3
              clear hk3 hJ3
              gi_wp2
              go_roundw
              case rel => exact ⟨m + 1, pre ++ [⟨(es i).ls m, hxl⟩], by omega, by go_num, hx2, HJ3.out, HB3.out⟩
              case measure => simp [intOf]; omega
            · have HJ3 : Hid (Jx (pre ++ [⟨(es i).ls m, hxl⟩]) W3) := hJx3
              clear hJx3
              gi_wp2
              refine bodyPost_ret (results_none rfl _ _ _) rfl ?_
              exact ⟨⟨_, rfl⟩, .inr ⟨pre ++ [⟨(es i).ls m, hxl⟩], by
                obtain ⟨r, hr⟩ := ylP_pre (f := f) (t := t) (es := es) (i := i) (k := m + 1) (n := len) hlt (by omega)
                exact ⟨r, by rw [hx2.out, hr]⟩, HJ3.out⟩⟩
          · obtain rfl : m = (es i).n := by omega
            have hx2 : Hid (valsQ pre = ylS f t es (i + 1)) := hx.out
            clear m1 m2 m3
            gi_wp2
            go_roundw
            case rel => exact ⟨i + 1, pre, by omega, by go_num, hx2, HJ.out, HB.out⟩
            case measure => simp [intOf]; omega
      · have hx2 : Hid (valsQ pre = ylS f t es (i + 1)) := by show _ = _; rw [ylS_out hd2]; exact hx.out
        by_cases d1 : (es i).day < f
        · have g1 : decide ((es i).day < f) = true := decide_eq_true d1
          clear hd2
          gi_wp2
          go_roundw
          case rel => exact ⟨i + 1, pre, by omega, by go_num, hx2, HJ2.out, HB2.out⟩
          case measure => simp [intOf]; omega
        · have g1 : decide ((es i).day < f) = false := decide_eq_false d1
          have g2 : decide (t < (es i).day) = true := decide_eq_true (by omega)
          clear hd2
          gi_wp2
          go_roundw
          case rel => exact ⟨i + 1, pre, by omega, by go_num, hx2, HJ2.out, HB2.out⟩
          case measure => simp [intOf]; omega
    · obtain rfl : i = len := by omega
      clear m1 m2 m3
      gi_wp2
      go_end0
      exact ⟨⟨_, rfl⟩, .inl ⟨pre, hx.out, HJ.out⟩⟩

theorem linesQ_stops (Q : L5 → Prop) (n : Nat) (hn : 1 ≤ n) (lo hi n₀ b1 b2 b3 : Nat) (f t : Int) (ad : Option Addr) (len cap : Nat) (es : Nat → E4) (w : World)
    (h : (len : Int) ≤ 1000) (hS : ∀ i, i < len → (es i).n ≤ 60 ∧ ∀ k, k < (es i).n → Q ((es i).ls k)) (hn₀ : n₀ ≤ w.heap.size) (w0 : World) (hE : ER w0 ad len es) (hb0 : Below w0.heap.size w0 w) (hw1 : w0.heap.size ≤ lo) (hw2 : w0.heap.size ≤ n₀)
    (hm : ∀ W', KS lo hi n₀ w W' → W'.cell? ⟨b1, 0, none⟩ = some (.slice ad len cap) ∧ W'.cell? ⟨b2, 0, none⟩ = some (.int .i64 f) ∧ W'.cell? ⟨b3, 0, none⟩ = some (.int .i64 t)) :
    SeqStopsK Fence.wide n Tryd.prog 127 #[.pointer (some ⟨b1, 0, none⟩), .pointer (some ⟨b2, 0, none⟩), .pointer (some ⟨b3, 0, none⟩)] (fun x : SQ Q => #[x.1.agg]) (KS lo hi n₀)
      (fun ys => valsQ ys = ylS f t es len) (fun pre => valsQ pre <+: ylS f t es len) (ylS f t es len).length w :=
  fun l J Jx W hW hJ _ hY h0 => linesQ_in Q n hn l lo hi n₀ b1 b2 b3 f t ad len cap es J Jx W h hS (Nat.le_trans hn₀ hW.size) w0 hE (hb0.trans (hW.mono hb0.size)) hw1 hw2 (fun W' hW' => hm W' ((KS.of_below hW hn₀).trans hW')) hJ hY h0


end Go.Proofs.YtgnhpjlfdkpaiaaDoor

