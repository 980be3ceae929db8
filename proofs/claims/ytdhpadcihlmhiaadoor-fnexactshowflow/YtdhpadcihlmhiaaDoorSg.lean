/- One paper more, in the program. -/
import Derived.Test.YtdhpadcihlmhiaaDoorSf
namespace Go.Proofs.YtdhpadcihlmhiaaDoor
open Go.ChangeShapes Go.WideShapes Go.ChangeAt Go.RowKit
open Go.Lib (decDigits)
set_option linter.unusedVariables false
set_option linter.unusedSimpArgs false

theorem CB.block {w w' : World} {b : Nat} {cs : Array Value} {t : TypeId} (H : CB w b cs t) (hb : w'.heap[b]? = w.heap[b]?) : CB w' b cs t := by unfold CB at H ⊢; rw [hb]; exact H
set_option maxRecDepth 20000 in
set_option maxHeartbeats 4000000 in
theorem issue_any (B b mb : Nat) (sa : Option Addr) (ns cap k : Nat) (p q : Nat → P4) (s day : Int) (w : World) (H : NowAt w b mb sa ns cap k p) (hk : (k : Int) ≤ 400) (hwf : (Lit.int .i64 s).wf = true) (hBb : B ≤ b) (hBm : B ≤ mb) (hq : ∀ j, j < k → q j = p j) (hqs : (q k).ser = s) (hqd : (q k).day = day) :
    Calls Tryd.prog 57 #[.pointer (some ⟨b, 0, none⟩), .int .i64 s, .int .i64 day] w fun e w' => e = .returned (.agg #[.int .i64 s, .int .i64 ((cntP p s k : Int) + 1), .int .i64 day, .bool false]) ∧ NowAt w' b mb sa ns cap (k + 1) q ∧ Below B w w' := by
  have HN := hid H
  have n0 : w.cell? ⟨b, 0, none⟩ = some (.slice sa ns cap) := (H.blk.cell 0).trans rfl
  have n1 : w.cell? ⟨b, 1, none⟩ = some (.int .i64 (k : Int)) := (H.blk.cell 1).trans rfl
  have n2 : w.cell? ⟨b, 2, none⟩ = some (.map (some mb)) := (H.blk.cell 2).trans rfl
  have hA0 : Below w.heap.size w (w.alloc (.cells #[.int .i64 0, .int .i64 0, .int .i64 0, .bool false] 32 (0, 0))) := (Below.refl _ _).alloc (Nat.le_refl _) _
  have m0 := keep_cell hA0 n0
  have m1 := keep_cell hA0 n1
  have m2 := keep_cell hA0 n2
  have HA := hid hA0
  have HM : Hid (MP Tryd.prog 3 z2 (w.alloc (.cells #[.int .i64 0, .int .i64 0, .int .i64 0, .bool false] 32 (0, 0))) mb k (fun s => endV (cntP p s k) (lstP p s k))) := (H.below hA0).map
  have hcn : (cntP p s k : Int) ≤ 1000 := by have := cntP_le p s k; omega
  have HQ : Hid ((fun y => if y = s then endV (cntP p s k + 1) day else endV (cntP p y k) (lstP p y k)) = fun t => endV (cntP q t (k + 1)) (lstP q t (k + 1))) := by
    have e : ∀ t j, j ≤ k → cntP q t j = cntP p t j ∧ lstP q t j = lstP p t j := by
      intro t j
      induction j with
      | zero => intro _; exact ⟨rfl, rfl⟩
      | succ j ih =>
        intro hj
        have := ih (by omega)
        unfold cntP lstP
        rw [hq j (by omega), this.1, this.2]
        exact ⟨rfl, rfl⟩
    funext y
    by_cases h : y = s
    · subst h; rw [if_pos rfl, cntP_hit hqs, lstP_hit hqs, (e _ k (Nat.le_refl _)).1, hqd]
    · rw [if_neg h, cntP_miss (fun e => h (by rw [← e, hqs])), lstP_miss (fun e => h (by rw [← e, hqs])), (e _ k (Nat.le_refl _)).1, (e _ k (Nat.le_refl _)).2]
  have HF : Hid ((fun s => endV (cntP p s k) (lstP p s k)) s = endV (cntP p s k) (lstP p s k)) := rfl
  obtain ⟨cn, hcn0⟩ : ∃ x, cntP p s k = x := ⟨_, rfl⟩
  obtain ⟨lt, hlt0⟩ : ∃ x, lstP p s k = x := ⟨_, rfl⟩
  rw [hcn0]
  rw [hcn0] at hcn HQ
  replace HF : Hid ((fun s => endV (cntP p s k) (lstP p s k)) s = endV cn lt) := by have := HF.out; rw [hcn0, hlt0] at this; exact this
  have hblt := H.blk.lt
  have hmlt := H.map.lt
  have hne := H.ne
  clear hcn0 hlt0 hA0 H hq hqs hqd
  go_enter Tryd.func57, Tryd.ntmps57
  go_wp2_with (first
    | (at_lookup; refine wpList_lookup_mp _ rfl _ _ 132 rfl 3 137 key3 Tryd.underlying3 Tryd.underlying132 z2 (zeroEnd _) mb k (fun s => endV (cntP p s k) (lstP p s k)) rfl HM.out s rfl hwf (endV cn lt) HF.out ?_)
    | (go_at_call 100; go_loud (refine (next_any cn lt _ hcn).mono ?_; rintro e w1 ⟨rfl, b1⟩; have HN1 := hid (HN.out.below (bel_on HA.out b1)); have C6 : CB w1 w.heap.size #[.int .i64 0, .int .i64 0, .int .i64 0, .bool false] 32 := (CB.newAt (by rfl) _ _).below b1 (by simp); have HC6 := hid C6; have k1 : w1.cell? ⟨b, 1, none⟩ = some (.int .i64 (k : Int)) := keep_cell b1 m1; have k2 : w1.cell? ⟨b, 2, none⟩ = some (.map (some mb)) := keep_cell b1 m2; have HB1 : Hid (Below w.heap.size w w1) := bel_on HA.out b1; have hs1 := b1.size; have hs2 : w.heap.size < w1.heap.size := C6.lt; clear b1 C6))
    | (at_mapUpdate; refine wpList_mapUpdate_mp _ rfl _ _ _ 132 rfl 3 137 key3 Tryd.underlying3 Tryd.underlying132 z2 mb k (fun s => endV (cntP p s k) (lstP p s k)) rfl HN1.out.map (by unfold maxLen; omega) s (endV (cn + 1) day) rfl rfl hwf ?_; intro w2 hm2 hg2; have HM2 : Hid (MP Tryd.prog 3 z2 w2 mb (k + 1) (fun y => if y = s then endV (cn + 1) day else endV (cntP p y k) (lstP p y k))) := hm2; have bl2 : ∀ j, j < w1.heap.size → j ≠ mb → w2.heap[j]? = w1.heap[j]? := (fun j hj hn => hg2.block j hj (by simpa using hn)); have CB2 : CB w2 b #[.slice sa ns cap, .int .i64 (k : Int), .map (some mb)] 134 := HN1.out.blk.block (bl2 b (by omega) (by omega)); have C62 : CB w2 w.heap.size #[.int .i64 0, .int .i64 0, .int .i64 0, .bool false] 32 := HC6.out.block (bl2 _ hs2 (by omega)); have HG2 := hid hg2; have HCB2 := hid CB2; have HC62 := hid C62; have j1 := (CB2.cell 1).trans rfl; have f1 := CB2.fr 1; have i0 := (C62.cell 0).trans rfl; have i1 := (C62.cell 1).trans rfl; have i2 := (C62.cell 2).trans rfl; have i3 := (C62.cell 3).trans rfl; have g0 := C62.fr 0; have g1 := C62.fr 1; have g2 := C62.fr 2; have g3 := C62.fr 3; clear hm2 hg2 bl2 CB2 C62 k1 k2 m0 m1 m2))
  have hX := (((((HC62.out.other (c := b) (o := 1) (.int .i64 ((k : Int) + 1)) (by omega)).set 0 (.int .i64 s)).set 1 (.int .i64 ((cn : Int) + 1))).set 2 (.int .i64 day)).set 3 (.bool false))
  have hC := (((((HCB2.out.set 1 (.int .i64 ((k : Int) + 1))).other (c := w.heap.size) (o := 0) (.int .i64 s) (by omega)).other (c := w.heap.size) (o := 1) (.int .i64 ((cn : Int) + 1)) (by omega)).other (c := w.heap.size) (o := 2) (.int .i64 day) (by omega)).other (c := w.heap.size) (o := 3) (.bool false) (by omega))
  have hM : MP Tryd.prog 3 z2 (((((w2.setCell ⟨b, 1, none⟩ (.int .i64 ((k : Int) + 1))).setCell ⟨w.heap.size, 0, none⟩ (.int .i64 s)).setCell ⟨w.heap.size, 1, none⟩ (.int .i64 ((cn : Int) + 1))).setCell ⟨w.heap.size, 2, none⟩ (.int .i64 day)).setCell ⟨w.heap.size, 3, none⟩ (.bool false)) mb (k + 1) (fun t => endV (cntP q t (k + 1)) (lstP q t (k + 1))) := by
    rw [← HQ.out]
    refine HM2.out.block ?_
    rw [Below.heap_setCell _ _ _ _ (by show mb ≠ w.heap.size; omega), Below.heap_setCell _ _ _ _ (by show mb ≠ w.heap.size; omega), Below.heap_setCell _ _ _ _ (by show mb ≠ w.heap.size; omega), Below.heap_setCell _ _ _ _ (by show mb ≠ w.heap.size; omega), Below.heap_setCell _ _ _ _ (by show mb ≠ b; omega)]
  have hZ := ((((((((HB1.out.mono (by omega)).grown HG2.out (by omega) (fun g e => by cases e; exact hBm)).setCell (p := ⟨b, 1, none⟩) hBb (.int .i64 ((k : Int) + 1)))).setCell (p := ⟨w.heap.size, 0, none⟩) (by show B ≤ w.heap.size; omega) (.int .i64 s)).setCell (p := ⟨w.heap.size, 1, none⟩) (by show B ≤ w.heap.size; omega) (.int .i64 ((cn : Int) + 1))).setCell (p := ⟨w.heap.size, 2, none⟩) (by show B ≤ w.heap.size; omega) (.int .i64 day)).setCell (p := ⟨w.heap.size, 3, none⟩) (by show B ≤ w.heap.size; omega) (.bool false))
  have e0 := hX.cell 0
  have e1 := hX.cell 1
  have e2 := hX.cell 2
  have e3 := hX.cell 3
  simp at e0 e1 e2 e3
  have ek : ((k : Int) + 1) = ((k + 1 : Nat) : Int) := by omega
  clear hX j1 f1 i0 i1 i2 i3 g0 g1 g2 g3
  generalize (World.setCell _ _ _) = W5 at e0 e1 e2 e3 hC hM hZ ⊢
  refine bodyPost_ret (by simp [results, Tryd.results57, go_sem, e0, e1, e2, e3]; try rfl) rfl ?_
  exact ⟨rfl, ⟨by rw [← ek]; exact hC, hM, hne⟩, hZ⟩
end Go.Proofs.YtdhpadcihlmhiaaDoor
