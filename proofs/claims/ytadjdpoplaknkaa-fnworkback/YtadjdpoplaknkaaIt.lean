/- The program's iterator over working days: what it hands over, whatever the loop's body that keeps what lay below n0. -/
import Derived.RangeFuncFrom
import Derived.RangeFuncNested
import Derived.RangeFuncBound
import Derived.RangeFuncCalls
import Derived.RangeFuncLeaves
import Derived.Shelf.Abstract
import Derived.Shelf.RegionOpen
import Derived.OwnWalkIn
import Derived.TacticsInMore
import Derived.LoopNIn
import Derived.LoopIn
import Derived.Test.YtadjdpoplaknkaaSc
namespace Go.Proofs.Ytadjdpoplaknkaa
open Go.RowKit Go.Shelf
attribute [local go_sem] Oper.semAt_some
set_option linter.unusedVariables false
set_option linter.unusedSimpArgs false

/-- The worked days from d on, by steps of s. -/
noncomputable def wl (wd : Int → Bool) (s : Int) : Nat → Int → List Int
  | 0, _ => []
  | f + 1, d => if 0 ≤ d ∧ d ≤ 40000 then (if wd d = true then d :: wl wd s f (d + s) else wl wd s f (d + s)) else []

/-- How far it is to the end, and one. -/
def far (s d : Int) : Nat := if 0 ≤ d ∧ d ≤ 40000 then (if s = 1 then (40001 - d).toNat else (d + 1).toNat) + 1 else 1

/-- Whatever lay below N, but for the blocks from lo to hi, lies as it lay. -/
structure KS (lo hi N : Nat) (W W' : World) : Prop where
  os : W'.os = W.os
  tape : W'.tape = W.tape
  output : W'.output = W.output
  size : W.heap.size ≤ W'.heap.size
  block : ∀ k, k < N → k < lo ∨ hi ≤ k → W'.heap[k]? = W.heap[k]?

theorem KS.refl (lo hi N : Nat) (W : World) : KS lo hi N W W := ⟨rfl, rfl, rfl, Nat.le_refl _, fun _ _ _ => rfl⟩
theorem KS.trans {lo hi N : Nat} {A B C : World} (h : KS lo hi N A B) (k : KS lo hi N B C) : KS lo hi N A C :=
  ⟨k.os.trans h.os, k.tape.trans h.tape, k.output.trans h.output, Nat.le_trans h.size k.size, fun j hj hl => (k.block j hj hl).trans (h.block j hj hl)⟩
theorem KS.of_below {lo hi N : Nat} {A B : World} (h : Below A.heap.size A B) (hN : N ≤ A.heap.size) : KS lo hi N A B :=
  ⟨h.os, h.tape, h.output, h.size, fun k hk _ => h.block k (by omega)⟩
theorem KS.set {lo hi N b o : Nat} {W : World} (h1 : lo ≤ b) (h2 : b < hi) (v : Value) : KS lo hi N W (W.setCell ⟨b, o, none⟩ v) :=
  ⟨rfl, rfl, rfl, by simp [World.setCell], fun k hk hl => Below.heap_setCell _ _ _ _ (by simp; omega)⟩
theorem KS.put {lo hi N : Nat} (W : World) (l : Nat) (o o' : Obj) (hl : N ≤ l) (h : W.heap[l]? = some o) : KS lo hi N W (W.putObj l o') := by
  have hg := grownBy_putObj' W l o'
  have hlt : l < W.heap.size := (Array.getElem?_eq_some_iff.1 h).1
  exact ⟨hg.os, hg.tape, hg.output, hg.size, fun k hk _ => hg.block k (by omega) (fun e => by cases e; omega)⟩
theorem KS.cell {lo hi N b o : Nat} {W W' : World} (h : KS lo hi N W W') (hb : b < N) (hl : b < lo ∨ hi ≤ b) : W'.cell? ⟨b, o, none⟩ = W.cell? ⟨b, o, none⟩ := World.cell?_of_block (w := W) (h.block b hb hl)

theorem grown_of {W W' : World} (b : Below W.heap.size W W') : W.grownBy W' none := ⟨b.os, b.tape, b.output, b.size, fun k hk _ => b.block k hk⟩

theorem far_step {s d : Int} (hs : s = 1 ∨ s = -1) (h : 0 ≤ d ∧ d ≤ 40000) : far s d = far s (d + s) + 1 := by
  unfold far
  rw [if_pos h]
  rcases hs with rfl | rfl
  · rw [if_pos rfl]
    by_cases g : d + 1 ≤ 40000
    · rw [if_pos (by omega), if_pos rfl]; omega
    · rw [if_neg (by omega)]; omega
  · rw [if_neg (by omega)]
    by_cases g : 0 ≤ d + -1
    · rw [if_pos (by omega), if_neg (by omega)]; omega
    · rw [if_neg (by omega)]; omega

theorem wl_end (wd : Int → Bool) (s d : Int) (h : ¬ (0 ≤ d ∧ d ≤ 40000)) : wl wd s (far s d) d = [] := by
  unfold far; rw [if_neg h]; simp [wl, h]
theorem wl_work (wd : Int → Bool) {s d : Int} (hs : s = 1 ∨ s = -1) (h : 0 ≤ d ∧ d ≤ 40000) (hw : wd d = true) : wl wd s (far s d) d = d :: wl wd s (far s (d + s)) (d + s) := by
  rw [far_step hs h]; simp [wl, h, hw]
theorem wl_free (wd : Int → Bool) {s d : Int} (hs : s = 1 ∨ s = -1) (h : 0 ≤ d ∧ d ≤ 40000) (hw : wd d = false) : wl wd s (far s d) d = wl wd s (far s (d + s)) (d + s) := by
  rw [far_step hs h]; simp [wl, h, hw]

set_option maxRecDepth 100000 in
set_option maxHeartbeats 4000000 in
theorem days_in (n : Nat) (hn : 1 ≤ n) (l lo hi n₀ b1 b2 b3 : Nat) (first s off : Int) (ad : Option Addr) (len cap : Nat) (z : Nat → Int) (J Jx : List Int → World → Prop) (W : World)
    (hs : s = 1 ∨ s = -1) (f0 : -1 ≤ first) (f1 : first ≤ 40001) (o1 : 0 ≤ off) (o2 : off ≤ 126) (h : (len : Int) ≤ 1048576) (hA : Asc len z) (hn₀ : n₀ ≤ W.heap.size)
    (hm : ∀ W', KS lo hi n₀ W W' → W'.cell? ⟨b1, 0, none⟩ = some (.int .i64 first) ∧ W'.cell? ⟨b2, 0, none⟩ = some (.int .i64 s) ∧ W'.cell? ⟨b3, 0, none⟩ = some (.int .i64 off) ∧ W'.cell? ⟨b3, 1, none⟩ = some (.slice ad len cap) ∧ IR W' ad len z)
    (hJ : AbidesFrom W.heap.size J)
    (hY : ∀ pre x W, J pre W → pre.length < (wl (workB off len z) s (far s first) first).length → YieldAt Fence.wide (n - 1) Try.prog l #[.int .i64 x] W fun e W' =>
      (e = .returned (.bool true) ∧ J (pre ++ [x]) W' ∧ KS lo hi n₀ W W') ∨ (e = .returned (.bool false) ∧ Jx (pre ++ [x]) W'))
    (h0 : J [] W) :
    CallsIn Fence.wide n Try.prog 56 #[.func (.yield l) #[] #[], .pointer (some ⟨b1, 0, none⟩), .pointer (some ⟨b2, 0, none⟩), .pointer (some ⟨b3, 0, none⟩)] W fun e W' => (∃ v, e = .returned v) ∧
      ((∃ ys, ys = wl (workB off len z) s (far s first) first ∧ J ys W') ∨ (∃ pre, pre <+: wl (workB off len z) s (far s first) first ∧ Jx pre W')) := by
  refine callsIn_of_wp Try.func56 rfl trivial ?_ rfl
  simp only [Try.ntmps56, List.size_toArray, List.length_cons, List.length_nil, Nat.reduceAdd, Nat.reduceSub, Array.replicate_succ, Array.replicate_zero, List.push_toArray, List.append_toArray, List.nil_append, List.cons_append]
  obtain ⟨m1, m2, m3, m4, _⟩ := hm W (KS.refl _ _ _ _)
  have HM : Hid (∀ W', KS lo hi n₀ W W' → W'.cell? ⟨b1, 0, none⟩ = some (.int .i64 first) ∧ W'.cell? ⟨b2, 0, none⟩ = some (.int .i64 s) ∧ W'.cell? ⟨b3, 0, none⟩ = some (.int .i64 off) ∧ W'.cell? ⟨b3, 1, none⟩ = some (.slice ad len cap) ∧ IR W' ad len z) := hm
  have HA : Hid (Asc len z) := hA
  clear hm hA m2 m3 m4
  gi_wp2
  gi_loopw [5] (fun p wr => ∃ (D : Int) (pre : List Int), p = .int .i64 D ∧ -1 ≤ D ∧ D ≤ 40001 ∧ Hid (wl (workB off len z) s (far s first) first = pre ++ wl (workB off len z) s (far s D) D) ∧ J pre wr ∧ KS lo hi n₀ W wr) (fun p _ => far s (intOf p))
  case atStart => exact ⟨first, [], rfl, f0, f1, rfl, h0, KS.refl _ _ _ _⟩
  case round =>
    obtain ⟨D, pre, rfl, D0, D1, hx, hJs, hB⟩ := hrel
    obtain ⟨m1, m2, m3, m4, m5⟩ := HM.out wr hB
    have HI : Hid (IR wr ad len z) := m5
    have HB : Hid (KS lo hi n₀ W wr) := hB
    have HJ : Hid (J pre wr) := hJs
    clear m5 hB hJs
    by_cases hd : 0 ≤ D ∧ D ≤ 40000
    · have db := dayB_t hd
      have s1 : -1 ≤ s := by omega
      have s2 : s ≤ 1 := by omega
      have hsz : n₀ ≤ wr.heap.size := Nat.le_trans hn₀ HB.out.size
      have d0 := hd.1
      have d1 := hd.2
      rcases hw : workB off len z D
      · have hx2 : Hid (wl (workB off len z) s (far s first) first = pre ++ wl (workB off len z) s (far s (D + s)) (D + s)) := by unfold Hid; rw [hx.out, wl_free _ hs hd hw]
        have hfar := far_step hs hd
        gi_wp2_with (first
          | (refine ⟨trivial, ?_⟩; gi_at_call 36; refine (callsIn_wide.2 (isDay_eq _ _ _ db)).mono ?_; rintro e w' ⟨rfl, ew⟩; replace ew := ew.symm; subst ew)
          | (refine ⟨trivial, ?_⟩; gi_at_call 37; refine (callsIn_wide.2 (isFree_any _ _ _ _ z _ _ o1 o2 h HI.out HA.out d0 d1)).mono ?_; rintro e w2 ⟨rfl, b2⟩; rw [hw]; have HB2 : Hid (KS lo hi n₀ W w2) := HB.out.trans (KS.of_below b2 hsz); have HJ2 : Hid (J pre w2) := hJ _ _ _ _ HJ.out (grown_of b2) (fun r e => by cases e); obtain ⟨g1, g2, g3, g4, g5⟩ := HM.out w2 HB2.out; clear g5 b2))
        refine ⟨fun _ h => (by cases h), ?_⟩
        gi_wp2
        go_roundw
        case rel => exact ⟨D + s, pre, by go_num, by omega, by omega, hx2, HJ2.out, HB2.out⟩
        case measure => simp [intOf]; omega
      · have hx2 : Hid (wl (workB off len z) s (far s first) first = (pre ++ [D]) ++ wl (workB off len z) s (far s (D + s)) (D + s)) := by unfold Hid; rw [hx.out, wl_work _ hs hd hw]; simp
        have hlen : pre.length < (wl (workB off len z) s (far s first) first).length := by rw [hx2.out]; simp
        have hfar := far_step hs hd
        gi_wp2_with (first
          | (refine ⟨trivial, ?_⟩; gi_at_call 36; refine (callsIn_wide.2 (isDay_eq _ _ _ db)).mono ?_; rintro e w' ⟨rfl, ew⟩; replace ew := ew.symm; subst ew)
          | (refine ⟨trivial, ?_⟩; gi_at_call 37; refine (callsIn_wide.2 (isFree_any _ _ _ _ z _ _ o1 o2 h HI.out HA.out d0 d1)).mono ?_; rintro e w2 ⟨rfl, b2⟩; rw [hw]; have HB2 : Hid (KS lo hi n₀ W w2) := HB.out.trans (KS.of_below b2 hsz); have HJ2 : Hid (J pre w2) := hJ _ _ _ _ HJ.out (grown_of b2) (fun r e => by cases e); obtain ⟨fn, tmps, assign, body, hy, hR⟩ := hY pre D w2 HJ2.out hlen; clear b2))
        refine hR.mono ?_
        rintro e W3 (⟨rfl, hJ3, hk3⟩ | ⟨rfl, hJx3⟩)
        · have HB3 : Hid (KS lo hi n₀ W W3) := HB2.out.trans hk3
          have HJ3 : Hid (J (pre ++ [D]) W3) := hJ3
          obtain ⟨g1, g2, g3, g4, g5⟩ := HM.out W3 HB3.out
          clear g5 hk3 hJ3
          gi_wp2
          go_roundw
          case rel => exact ⟨D + s, pre ++ [D], by go_num, by omega, by omega, hx2, HJ3.out, HB3.out⟩
          case measure => simp [intOf]; omega
        · have HJ3 : Hid (Jx (pre ++ [D]) W3) := hJx3
          clear hJx3
          gi_wp2
          refine bodyPost_ret (results_none rfl _ _ _) rfl ?_
          exact ⟨⟨_, rfl⟩, .inr ⟨pre ++ [D], ⟨_, hx2.out.symm⟩, HJ3.out⟩⟩
    · have db := dayB_f hd
      have HF : Hid (pre = wl (workB off len z) s (far s first) first) := by unfold Hid; rw [hx.out, wl_end _ _ _ hd]; simp
      clear hd
      gi_wp2_with (refine ⟨trivial, ?_⟩; gi_at_call 36; refine (callsIn_wide.2 (isDay_eq _ _ _ db)).mono ?_; rintro e w' ⟨rfl, rfl⟩)
      go_end0
      exact ⟨⟨_, rfl⟩, .inl ⟨pre, HF.out, HJ.out⟩⟩

/-- workDays hands back a value that goes over these days. -/
theorem days_stops (n : Nat) (hn : 1 ≤ n) (lo hi n₀ b1 b2 b3 : Nat) (first s off : Int) (ad : Option Addr) (len cap : Nat) (z : Nat → Int) (w : World)
    (hs : s = 1 ∨ s = -1) (f0 : -1 ≤ first) (f1 : first ≤ 40001) (o1 : 0 ≤ off) (o2 : off ≤ 126) (h : (len : Int) ≤ 1048576) (hA : Asc len z) (hn₀ : n₀ ≤ w.heap.size)
    (hm : ∀ W', KS lo hi n₀ w W' → W'.cell? ⟨b1, 0, none⟩ = some (.int .i64 first) ∧ W'.cell? ⟨b2, 0, none⟩ = some (.int .i64 s) ∧ W'.cell? ⟨b3, 0, none⟩ = some (.int .i64 off) ∧ W'.cell? ⟨b3, 1, none⟩ = some (.slice ad len cap) ∧ IR W' ad len z) :
    SeqStopsK Fence.wide n Try.prog 56 #[.pointer (some ⟨b1, 0, none⟩), .pointer (some ⟨b2, 0, none⟩), .pointer (some ⟨b3, 0, none⟩)] (fun x : Int => #[Value.int .i64 x]) (KS lo hi n₀)
      (fun ys => ys = wl (workB off len z) s (far s first) first) (fun pre => pre <+: wl (workB off len z) s (far s first) first) (wl (workB off len z) s (far s first) first).length w :=
  fun l J Jx W hW hJ _ hY h0 => days_in n hn l lo hi n₀ b1 b2 b3 first s off ad len cap z J Jx W hs f0 f1 o1 o2 h hA (Nat.le_trans hn₀ hW.size) (fun W' hW' => hm W' ((KS.of_below hW hn₀).trans hW')) hJ hY h0

end Go.Proofs.Ytadjdpoplaknkaa
