/- Issue of the program. -/
import Derived.Test.YtdhpadcihlmhiaaDoorSu
namespace Go.Proofs.YtdhpadcihlmhiaaDoor
open Go.ChangeShapes Go.WideShapes Go.ChangeAt Go.RowKit
open Go.Lib (decDigits)
set_option linter.unusedVariables false
set_option linter.unusedSimpArgs false

set_option maxRecDepth 20000 in
set_option maxHeartbeats 4000000 in
theorem issue_all (B b mb : Nat) (sa : Option Addr) (ns cap k : Nat) (p q : Nat → P4) (s day : Int) (w : World) (H : NowAt w b mb sa ns cap k p) (hk : (k : Int) ≤ 400) (hwf : (Lit.int .i64 s).wf = true) (hBb : B ≤ b) (hBm : B ≤ mb) (hq : ∀ j, j < k → q j = p j) (hqs : (q k).ser = s) (hqd : (q k).day = day) :
    Calls Tryd.prog 57 #[.pointer (some ⟨b, 0, none⟩), .int .i64 s, .int .i64 day] w fun e w' => e = .returned (.agg #[.int .i64 s, .int .i64 ((cntP p s k : Int) + 1), .int .i64 day, .bool false]) ∧ NowAt w' b mb sa ns cap (k + 1) q ∧ (∀ y, y < w.heap.size → y ≠ b → y ≠ mb → w'.heap[y]? = w.heap[y]?) ∧ w.heap.size ≤ w'.heap.size ∧ Below B w w' := by
  have HN := hid H
  have n0 : w.cell? ⟨b, 0, none⟩ = some (.slice sa ns cap) := (H.blk.cell 0).trans rfl
  have n1 : w.cell? ⟨b, 1, none⟩ = some (.int .i64 (k : Int)) := (H.blk.cell 1).trans rfl
  have n2 : w.cell? ⟨b, 2, none⟩ = some (.map (some mb)) := (H.blk.cell 2).trans rfl
  have hA0 : Below w.heap.size w (w.alloc (.cells #[.int .i64 0, .int .i64 0, .int .i64 0, .bool false] 32 (0, 0))) := (Below.refl _ _).alloc (Nat.le_refl _) _
  have m0 := keep_cell hA0 n0
  have m1 := keep_cell hA0 n1
  have m2 := keep_cell hA0 n2
  have HA := hid hA0
  have HM : Hid (MP Tryd.prog 3 z2 (w.alloc (.cells #[.int .i64 0, .int .i64 0, .int .i64 0, .bool false] 32 (0, 0))) mb k (fun s => endV (cntP p s k) (lstP p s k))) := (H.below hA0).map
  have hcn : (cntP p s k : Int) ≤ 1000 := by have := cntP_le p s k; omega
  have HQ : Hid ((fun y => if y = s then endV (cntP p s k + 1) day else endV (cntP p y k) (lstP p y k)) = fun t => endV (cntP q t (k + 1)) (lstP q t (k + 1))) := by
    have e : ∀ t j, j ≤ k → cntP q t j = cntP p t j ∧ lstP q t j = lstP p t j := by
      intro t j
      induction j with
      | zero => intro _; exact ⟨rfl, rfl⟩
      | succ j ih =>
        intro hj
        have := ih (by omega)
        unfold cntP lstP
        rw [hq j (by omega), this.1, this.2]
        exact ⟨rfl, rfl⟩
    funext y
    by_cases h : y = s
    · subst h; rw [if_pos rfl, cntP_hit hqs, lstP_hit hqs, (e _ k (Nat.le_refl _)).1, hqd]
    · rw [if_neg h, cntP_miss (fun e => h (by rw [← e, hqs])), lstP_miss (fun e => h (by rw [← e, hqs])), (e _ k (Nat.le_refl _)).1, (e _ k (Nat.le_refl _)).2]
  have HF : Hid ((fun s => endV (cntP p s k) (lstP p s k)) s = endV (cntP p s k) (lstP p s k)) := rfl
  obtain ⟨cn, hcn0⟩ : ∃ x, cntP p s k = x := ⟨_, rfl⟩
  obtain ⟨lt, hlt0⟩ : ∃ x, lstP p s k = x := ⟨_, rfl⟩
  rw [hcn0]
  rw [hcn0] at hcn HQ
  replace HF : Hid ((fun s => endV (cntP p s k) (lstP p s k)) s = endV cn lt) := by have := HF.out; rw [hcn0, hlt0] at this; exact this
  have hblt := H.blk.lt
  have hmlt := H.map.lt
  have hne := H.ne
  clear hcn0 hlt0 hA0 H hq hqs hqd
  go_enter Tryd.func57, Tryd.ntmps57
  go_wp2_with (first
    | (at_lookup; refine wpList_lookup_mp _ rfl _ _ 132 rfl 3 137 key3 Tryd.underlying3 Tryd.underlying132 z2 (zeroEnd _) mb k (fun s => endV (cntP p s k) (lstP p s k)) rfl HM.out s rfl hwf (endV cn lt) HF.out ?_)
    | (go_at_call 100; go_loud (refine (next_any cn lt _ hcn).mono ?_; rintro e w1 ⟨rfl, b1⟩; have HN1 := hid (HN.out.below (bel_on HA.out b1)); have C6 : CB w1 w.heap.size #[.int .i64 0, .int .i64 0, .int .i64 0, .bool false] 32 := (CB.newAt (by rfl) _ _).below b1 (by simp); have HC6 := hid C6; have k1 : w1.cell? ⟨b, 1, none⟩ = some (.int .i64 (k : Int)) := keep_cell b1 m1; have k2 : w1.cell? ⟨b, 2, none⟩ = some (.map (some mb)) := keep_cell b1 m2; have HB1 : Hid (Below w.heap.size w w1) := bel_on HA.out b1; have hs1 := b1.size; have hs2 : w.heap.size < w1.heap.size := C6.lt; clear b1 C6))
    | (at_mapUpdate; refine wpList_mapUpdate_mp _ rfl _ _ _ 132 rfl 3 137 key3 Tryd.underlying3 Tryd.underlying132 z2 mb k (fun s => endV (cntP p s k) (lstP p s k)) rfl HN1.out.map (by unfold maxLen; omega) s (endV (cn + 1) day) rfl rfl hwf ?_; intro w2 hm2 hg2; have HM2 : Hid (MP Tryd.prog 3 z2 w2 mb (k + 1) (fun y => if y = s then endV (cn + 1) day else endV (cntP p y k) (lstP p y k))) := hm2; have bl2 : ∀ j, j < w1.heap.size → j ≠ mb → w2.heap[j]? = w1.heap[j]? := (fun j hj hn => hg2.block j hj (by simpa using hn)); have CB2 : CB w2 b #[.slice sa ns cap, .int .i64 (k : Int), .map (some mb)] 134 := HN1.out.blk.block (bl2 b (by omega) (by omega)); have C62 : CB w2 w.heap.size #[.int .i64 0, .int .i64 0, .int .i64 0, .bool false] 32 := HC6.out.block (bl2 _ hs2 (by omega)); have HG2 := hid hg2; have HCB2 := hid CB2; have HC62 := hid C62; have j1 := (CB2.cell 1).trans rfl; have f1 := CB2.fr 1; have i0 := (C62.cell 0).trans rfl; have i1 := (C62.cell 1).trans rfl; have i2 := (C62.cell 2).trans rfl; have i3 := (C62.cell 3).trans rfl; have g0 := C62.fr 0; have g1 := C62.fr 1; have g2 := C62.fr 2; have g3 := C62.fr 3; clear hm2 hg2 bl2 CB2 C62 k1 k2 m0 m1 m2))
  have hX := (((((HC62.out.other (c := b) (o := 1) (.int .i64 ((k : Int) + 1)) (by omega)).set 0 (.int .i64 s)).set 1 (.int .i64 ((cn : Int) + 1))).set 2 (.int .i64 day)).set 3 (.bool false))
  have hC := (((((HCB2.out.set 1 (.int .i64 ((k : Int) + 1))).other (c := w.heap.size) (o := 0) (.int .i64 s) (by omega)).other (c := w.heap.size) (o := 1) (.int .i64 ((cn : Int) + 1)) (by omega)).other (c := w.heap.size) (o := 2) (.int .i64 day) (by omega)).other (c := w.heap.size) (o := 3) (.bool false) (by omega))
  have hM : MP Tryd.prog 3 z2 (((((w2.setCell ⟨b, 1, none⟩ (.int .i64 ((k : Int) + 1))).setCell ⟨w.heap.size, 0, none⟩ (.int .i64 s)).setCell ⟨w.heap.size, 1, none⟩ (.int .i64 ((cn : Int) + 1))).setCell ⟨w.heap.size, 2, none⟩ (.int .i64 day)).setCell ⟨w.heap.size, 3, none⟩ (.bool false)) mb (k + 1) (fun t => endV (cntP q t (k + 1)) (lstP q t (k + 1))) := by
    rw [← HQ.out]
    refine HM2.out.block ?_
    rw [Below.heap_setCell _ _ _ _ (by show mb ≠ w.heap.size; omega), Below.heap_setCell _ _ _ _ (by show mb ≠ w.heap.size; omega), Below.heap_setCell _ _ _ _ (by show mb ≠ w.heap.size; omega), Below.heap_setCell _ _ _ _ (by show mb ≠ w.heap.size; omega), Below.heap_setCell _ _ _ _ (by show mb ≠ b; omega)]
  have hZ := ((((((((HB1.out.mono (by omega)).grown HG2.out (by omega) (fun g e => by cases e; exact hBm)).setCell (p := ⟨b, 1, none⟩) hBb (.int .i64 ((k : Int) + 1)))).setCell (p := ⟨w.heap.size, 0, none⟩) (by show B ≤ w.heap.size; omega) (.int .i64 s)).setCell (p := ⟨w.heap.size, 1, none⟩) (by show B ≤ w.heap.size; omega) (.int .i64 ((cn : Int) + 1))).setCell (p := ⟨w.heap.size, 2, none⟩) (by show B ≤ w.heap.size; omega) (.int .i64 day)).setCell (p := ⟨w.heap.size, 3, none⟩) (by show B ≤ w.heap.size; omega) (.bool false))
  have hKP : ∀ y, y < w.heap.size → y ≠ b → y ≠ mb → (((((w2.setCell ⟨b, 1, none⟩ (.int .i64 ((k : Int) + 1))).setCell ⟨w.heap.size, 0, none⟩ (.int .i64 s)).setCell ⟨w.heap.size, 1, none⟩ (.int .i64 ((cn : Int) + 1))).setCell ⟨w.heap.size, 2, none⟩ (.int .i64 day)).setCell ⟨w.heap.size, 3, none⟩ (.bool false)).heap[y]? = w.heap[y]? := fun y hy h1 h2 => by
    rw [Below.heap_setCell _ _ _ _ (by show y ≠ w.heap.size; omega), Below.heap_setCell _ _ _ _ (by show y ≠ w.heap.size; omega), Below.heap_setCell _ _ _ _ (by show y ≠ w.heap.size; omega), Below.heap_setCell _ _ _ _ (by show y ≠ w.heap.size; omega), Below.heap_setCell _ _ _ _ (by show y ≠ b; omega), HG2.out.block y (by have := HB1.out.size; omega) (by simpa using h2), HB1.out.block y hy]
  have hSZ := hZ.size
  have e0 := hX.cell 0
  have e1 := hX.cell 1
  have e2 := hX.cell 2
  have e3 := hX.cell 3
  simp at e0 e1 e2 e3
  have ek : ((k : Int) + 1) = ((k + 1 : Nat) : Int) := by omega
  clear hX j1 f1 i0 i1 i2 i3 g0 g1 g2 g3
  generalize (World.setCell _ _ _) = W5 at e0 e1 e2 e3 hC hM hZ hKP hSZ ⊢
  refine bodyPost_ret (by simp [results, Tryd.results57, go_sem, e0, e1, e2, e3]; try rfl) rfl ?_
  exact ⟨rfl, ⟨by rw [← ek]; exact hC, hM, hne⟩, hKP, hSZ, hZ⟩

def ext (p : Nat → P4) (n : Nat) (x : P4) : Nat → P4 := fun j => if j = n then x else p j
theorem ext_at (p : Nat → P4) (n : Nat) (x : P4) : ext p n x n = x := if_pos rfl
theorem ext_ne {p : Nat → P4} {n j : Nat} {x : P4} (h : j < n) : ext p n x j = p j := if_neg (by omega)
theorem row_ext (p : Nat → P4) (n : Nat) (x : P4) : ∀ k, k ≤ n → rowP4 (ext p n x) k = rowP4 p k
  | 0, _ => rfl
  | k + 1, h => by unfold rowP4; rw [row_ext p n x k (by omega), ext_ne (by omega)]
theorem row_snoc (p : Nat → P4) (n : Nat) (x : P4) : rowP4 (ext p n x) (n + 1) = rowP4 p n ++ [.int .i64 x.ser, .int .i64 x.num, .int .i64 x.day, .bool x.vd] := by
  show rowP4 (ext p n x) n ++ _ = _
  rw [row_ext p n x n (Nat.le_refl _), ext_at]
structure RI where
  n1 : Nat
  n2 : Nat
  p2 : Nat → P4
  b : Int
def newP (p : Nat → P4) (np : Nat) (s day : Int) : P4 := ⟨s, (cntP p s np : Int) + 1, day, false⟩
open Classical in
noncomputable def issueR (len : Nat) (c : Nat → S2) (np : Nat) (p : Nat → P4) (s day : Int) : RI := if RegP len c np p then (if refV len c np p s day = 0 then ⟨len, np + 1, ext p np (newP p np s day), 0⟩ else ⟨len, np, p, refV len c np p s day⟩) else ⟨0, 0, p, 1⟩
section
variable {len : Nat} {c : Nat → S2} {np : Nat} {p : Nat → P4} {s day : Int}
theorem issueR_n (h : ¬ RegP len c np p) : issueR len c np p s day = ⟨0, 0, p, 1⟩ := by unfold issueR; rw [if_neg h]
theorem issueR_f (h : RegP len c np p) (g : ¬ refV len c np p s day = 0) : issueR len c np p s day = ⟨len, np, p, refV len c np p s day⟩ := by unfold issueR; rw [if_pos h, if_neg g]
theorem issueR_t (h : RegP len c np p) (g : refV len c np p s day = 0) : issueR len c np p s day = ⟨len, np + 1, ext p np (newP p np s day), 0⟩ := by unfold issueR; rw [if_pos h, if_pos g]
theorem issueR_le : (issueR len c np p s day).n1 ≤ len ∧ (issueR len c np p s day).n2 ≤ np + 1 ∧ (np < (issueR len c np p s day).n2 → (issueR len c np p s day).n2 ≤ 1000) := by
  by_cases h : RegP len c np p
  · have := h.few
    by_cases g : refV len c np p s day = 0
    · rw [issueR_t h g]; exact ⟨Nat.le_refl _, Nat.le_refl _, fun _ => by show np + 1 ≤ 1000; omega⟩
    · rw [issueR_f h g]; exact ⟨Nat.le_refl _, Nat.le_succ _, fun q => absurd q (Nat.lt_irrefl _)⟩
  · rw [issueR_n h]; exact ⟨Nat.zero_le _, Nat.zero_le _, fun q => by have : np < 0 := q; omega⟩
end
/-- What Issue tells. -/
def IsI (c : Nat → S2) (R : RI) (w : World) (e : Ending) (w' : World) : Prop :=
  ∃ a2 c2 a3 c3, e = .returned (.tuple #[.agg #[.slice a2 R.n1 c2, .slice a3 R.n2 c3], .int .i64 R.b]) ∧ OwnS2 w' w.heap.size a2 R.n1 c ∧ OwnP4 w' w.heap.size a3 R.n2 R.p2 ∧ Below w.heap.size w w'

theorem one_src {w : World} {cs : Array Value} {g : Nat} (h : CB w g cs 32) {l : List Value} (e : cs.toList = l := by rfl) : ∀ j u, l[j]? = some u → w.cell? ((⟨g, 0, none⟩ : Addr).add j) = some u := fun j u hu => by
  have hadd : (⟨g, 0, none⟩ : Addr).add j = ⟨g, j, none⟩ := by cases j <;> simp [Addr.add]
  rw [hadd, h.cell, ← hu, ← e]; simp
theorem own_ne {w : World} {base n g : Nat} {a3 : Option Addr} {c3 : Nat} {xs : List Value} (h : w.ownsRow base 32 4 (.slice a3 n c3) n xs) {w0 : World} {cs : Array Value} (hc : CB w0 g cs 75) (e : some g = (Value.slice a3 n c3).ownBlock) (hk : ∀ y, y < w0.heap.size → base ≤ y → w.heap[y]? = w0.heap[y]?) (hb : base ≤ g) : False := by
  obtain ⟨_, h2⟩ := h
  rcases h2 with ⟨e1, _⟩ | ⟨g', cap, cur, e1, h0, hg, _⟩
  · rw [e1] at e; simp [Value.ownBlock] at e
  · rw [e1] at e
    simp [Value.ownBlock] at e
    subst e
    have hc2 : CB w g cs 75 := hc.block (hk g hc.lt hb)
    exact CB_ne hc2 hg (by decide) rfl
set_option maxRecDepth 20000 in
set_option maxHeartbeats 8000000 in
theorem implIssue_any (a b : Addr) (len cap : Nat) (c : Nat → S2) (np pcap : Nat) (p : Nat → P4) (s day : Int) (w : World) (h : (len : Int) ≤ 1048576) (hcap : len ≤ cap) (hs : ∀ j, (c j).pre.size ≤ maxLen) (hr : SRw w (some a) len c) (hn : (np : Int) ≤ 1048576) (hp : PRw w (some b) np p) (hw : ∀ j, (Lit.int .i64 (p j).ser).wf = true) (hT : TP w) (hwf : (Lit.int .i64 s).wf = true) :
    Calls Tryd.prog 18 #[.agg #[.slice (some a) len cap, .slice (some b) np pcap], .int .i64 s, .int .i64 day] w (IsI c (issueR len c np p s day) w) := by
  have HR : Hid (SRw w (some a) len c) := hr
  have HP : Hid (PRw w (some b) np p) := hp
  have HT : Hid (TP w) := hT
  have HBA : Hid (Below w.heap.size w ((w.alloc (.cells #[.slice (some a) len cap, .slice (some b) np pcap] 27 (0, 0))).alloc (.cells #[.slice none 0 0, .slice none 0 0] 27 (0, 0)))) := ((Below.refl _ _).alloc (Nat.le_refl _) _).alloc (by simp) _
  have HCF := hid (open_any (some a) len cap c (some b) np pcap p ((w.alloc (.cells #[.slice (some a) len cap, .slice (some b) np pcap] 27 (0, 0))).alloc (.cells #[.slice none 0 0, .slice none 0 0] 27 (0, 0))) h hcap hs (hr.below HBA.out) hn (hp.below HBA.out) hw (hT.below HBA.out))
  clear hr hp hT hw hs
  cases hb : regB len c np p
  · have HBB : Hid (regB len c np p = false) := hb
    have HV : Hid (issueR len c np p s day = ⟨0, 0, p, 1⟩) := issueR_n fun H => by rw [regB_t H] at hb; cases hb
    rw [HV.out]
    clear hb
    go_enter Tryd.func18, Tryd.ntmps18
    go_wp2_with (first | (go_at_call 54; go_loud (refine HCF.out.mono ?_; rintro e w1 ⟨bn, mb, rfl, hnow, b1⟩; rw [HBB.out]; obtain ⟨X0, X1, b2⟩ := two_bl b1; have HB1 : Hid (Below w.heap.size w w1) := b2; have k0 := (X0.cell 0).trans rfl; have k1 := (X0.cell 1).trans rfl; have k2 := (X1.cell 0).trans rfl; have k3 := (X1.cell 1).trans rfl; have f0 := X0.fr 0; have f1 := X0.fr 1; have f2 := X1.fr 0; have f3 := X1.fr 1; have HX0 := hid X0; have HX1 := hid X1; have hs1 : w.heap.size + 1 < w1.heap.size := X1.lt; clear hnow; clear b1 b2 HCF X0 X1)))
    have hX := ((HX1.out.set 0 (.slice none 0 0)).set 1 (.slice none 0 0))
    have hZ := ((HB1.out.setCell (p := ⟨w.heap.size + 1, 0, none⟩) (by simp; try omega) (.slice none 0 0)).setCell (p := ⟨w.heap.size + 1, 1, none⟩) (by simp; try omega) (.slice none 0 0))
    have e0 := hX.cell 0
    have e1 := hX.cell 1
    simp at e0 e1
    clear hX
    clear k0 k1 k2 k3 f0 f1 f2 f3
    generalize (World.setCell _ _ _) = W9 at e0 e1 hZ ⊢
    refine bodyPost_ret (by simp [results, Tryd.results18, go_sem, e0, e1]; try rfl) rfl ?_
    exact ⟨none, 0, none, 0, rfl, .inl rfl, .inl rfl, hZ⟩
  have HBB : Hid (regB len c np p = true) := hb
  have HRP : Hid (RegP len c np p) := regB_of hb
  have hnp4 : (np : Int) ≤ 400 := by have := HRP.out.few; omega
  clear hb
  obtain ⟨rv, hrv⟩ : ∃ x, refV len c np p s day = x := ⟨_, rfl⟩
  have HRV : Hid (refV len c np p s day = rv) := hrv
  by_cases hz : rv = 0
  · subst hz
    have HV : Hid (issueR len c np p s day = ⟨len, np + 1, ext p np (newP p np s day), 0⟩) := issueR_t HRP.out hrv
    rw [HV.out]
    clear hrv
    obtain ⟨iP, gi, gz0, gz1, gz2⟩ := infoP4
    go_enter Tryd.func18, Tryd.ntmps18
    go_wp2_with (first | (go_at_call 54; go_loud (refine HCF.out.mono ?_; rintro e w1 ⟨bn, mb, rfl, hnow, b1⟩; rw [HBB.out]; obtain ⟨X0, X1, b2⟩ := two_bl b1; have HB1 : Hid (Below w.heap.size w w1) := b2; have k0 := (X0.cell 0).trans rfl; have k1 := (X0.cell 1).trans rfl; have k2 := (X1.cell 0).trans rfl; have k3 := (X1.cell 1).trans rfl; have f0 := X0.fr 0; have f1 := X0.fr 1; have f2 := X1.fr 0; have f3 := X1.fr 1; have HX0 := hid X0; have HX1 := hid X1; have hs1 : w.heap.size + 1 < w1.heap.size := X1.lt; obtain ⟨hn1, hbn0, hmb0⟩ := hnow HRP.out; have HN1 := hid hn1; have hbn : w.heap.size + 1 + 1 ≤ bn := (by simpa using hbn0); have hmb : w.heap.size + 1 + 1 ≤ mb := (by simpa using hmb0); have hbl : bn < w1.heap.size := hn1.blk.lt; have hml : mb < w1.heap.size := hn1.map.lt; clear hnow hn1 hbn0 hmb0; clear b1 b2 HCF X0 X1)) | (go_at_call 55; go_loud (refine (refusal_eq bn mb (some a) len cap np c p s day _ _ HN1.out (HR.out.below HB1.out) hnp4 h hwf (HT.out.below HB1.out) HRV.out).mono ?_; rintro e w2 ⟨rfl, b2⟩; have HN2 := hid (HN1.out.below b2); have HB2 : Hid (Below w.heap.size w w2) := bel_on HB1.out b2; have X0 := HX0.out.below b2 HX0.out.lt; have X1 := HX1.out.below b2 HX1.out.lt; have HY0 := hid X0; have HY1 := hid X1; clear k0 k1 k2 k3 f0 f1 f2 f3; have k0 := (X0.cell 0).trans rfl; have k1 := (X0.cell 1).trans rfl; have k2 := (X1.cell 0).trans rfl; have k3 := (X1.cell 1).trans rfl; have f0 := X0.fr 0; have f1 := X0.fr 1; have f2 := X1.fr 0; have f3 := X1.fr 1; have hs2 : w1.heap.size ≤ w2.heap.size := b2.size; clear b2 X0 X1)) | (go_at_call 56; go_loud (refine (copied_any a b len cap c np pcap p _ h hn (HR.out.below HB2.out) (HP.out.below HB2.out)).mono ?_; rintro e w3 ⟨a2, c2, a3, c3, rfl, o2, o3, b3⟩; obtain ⟨O2, O3⟩ := own_pair o2 o3; have HO2 := hid O2; have HO3 := hid O3; have HOR2 := hid o2; have HOR3 := hid o3; have HN3 := hid (HN2.out.below b3); have HB3 : Hid (Below w.heap.size w w3) := bel_on HB2.out b3; have X0 := HY0.out.below b3 HY0.out.lt; have X1 := HY1.out.below b3 HY1.out.lt; have HZ0 := hid X0; have HZ1 := hid X1; clear k0 k1 k2 k3 f0 f1 f2 f3; have k0 := (X0.cell 0).trans rfl; have k1 := (X0.cell 1).trans rfl; have k2 := (X1.cell 0).trans rfl; have k3 := (X1.cell 1).trans rfl; have f0 := X0.fr 0; have f1 := X0.fr 1; have f2 := X1.fr 0; have f3 := X1.fr 1; have hs3 : w2.heap.size ≤ w3.heap.size := b3.size; clear b3 o2 o3 X0 X1 O2 O3)))
    have HBA0 := hid ((HZ0.out.set 0 (.slice a2 len c2)).set 1 (.slice a3 np c3))
    have HBA1 := hid ((HZ1.out.other (c := w.heap.size) (o := 0) (.slice a2 len c2) (by omega)).other (c := w.heap.size) (o := 1) (.slice a3 np c3) (by omega))
    have HNA := hid ((HN3.out.other (c := w.heap.size) (o := 0) (.slice a2 len c2) (by omega) (by omega)).other (c := w.heap.size) (o := 1) (.slice a3 np c3) (by omega) (by omega))
    have HRA3 := hid (ownsRow_put (ownsRow_put HOR3.out (b := w.heap.size) (o := 0) (.slice a2 len c2) (by omega)) (b := w.heap.size) (o := 1) (.slice a3 np c3) (by omega))
    have HRA2 := hid ((HO2.out.put (b := w.heap.size) (o := 0) (.slice a2 len c2) (by omega)).put (b := w.heap.size) (o := 1) (.slice a3 np c3) (by omega))
    have HBW := hid ((HB3.out.setCell (p := ⟨w.heap.size, 0, none⟩) (by simp) (.slice a2 len c2)).setCell (p := ⟨w.heap.size, 1, none⟩) (by simp) (.slice a3 np c3))
    have hsA : ((w3.setCell ⟨w.heap.size, 0, none⟩ (.slice a2 len c2)).setCell ⟨w.heap.size, 1, none⟩ (.slice a3 np c3)).heap.size = w3.heap.size := by simp
    clear k0 k1 k2 k3 f0 f1 f2 f3
    generalize ((w3.setCell ⟨w.heap.size, 0, none⟩ (.slice a2 len c2)).setCell ⟨w.heap.size, 1, none⟩ (.slice a3 np c3)) = WA at HBA0 HBA1 HNA HRA3 HRA2 HBW hsA ⊢
    have kA1 : WA.cell? ⟨w.heap.size, 1, none⟩ = some (.slice a3 np c3) := (HBA0.out.cell 1).trans (by simp)
    refine wp_region_noPanic ?_
    refine wp_region_held_drew (S := fun _ => True) (by kernel_rfl) trivial (fun hHeld => ?_)
    refine wpAnyH_take (i := 0) (oi := { dst := some 27, op := Go.Op.fieldAddr 27 (Go.Operand.tmp 3) 1, type := 0, pos := "l11_papers.go:169", after := #[], guard := none }) (v := ?_) rfl (by kernel_rfl) (by kernel_rfl) (by kernel_rfl) (fun _ _ _ h => h) (Or.inl ⟨by rfl, ?_⟩) (by assumption) ?_
    rotate_left
    · (intro w hSw; (try dsimp only at hSw); go_simp <;> try with_reducible rfl)
    try simp only [Act.put, List.setIfInBounds_toArray, List.set_cons_zero, List.set_cons_succ]
    refine wpAnyH_take (i := 2) (oi := { dst := some 29, op := Go.Op.move (Go.Operand.tmp 8), type := 79, pos := "l11_papers.go:169", after := #[], guard := none }) (v := ?_) rfl (by kernel_rfl) (by kernel_rfl) (by kernel_rfl) (fun _ _ _ h => h) (Or.inl ⟨by rfl, ?_⟩) (by assumption) ?_
    rotate_left
    · (intro w hSw; (try dsimp only at hSw); go_simp <;> try with_reducible rfl)
    try simp only [Act.put, List.setIfInBounds_toArray, List.set_cons_zero, List.set_cons_succ]
    refine wpAnyH_take (i := 3) (oi := { dst := some 30, op := Go.Op.move (Go.Operand.tmp 1), type := 3, pos := "l11_papers.go:169", after := #[], guard := none }) (v := ?_) rfl (by kernel_rfl) (by kernel_rfl) (by kernel_rfl) (fun _ _ _ h => h) (Or.inl ⟨by rfl, ?_⟩) (by assumption) ?_
    rotate_left
    · (intro w hSw; (try dsimp only at hSw); go_simp <;> try with_reducible rfl)
    try simp only [Act.put, List.setIfInBounds_toArray, List.set_cons_zero, List.set_cons_succ]
    refine wpAnyH_take (i := 4) (oi := { dst := some 31, op := Go.Op.move (Go.Operand.tmp 2), type := 3, pos := "l11_papers.go:169", after := #[], guard := none }) (v := ?_) rfl (by kernel_rfl) (by kernel_rfl) (by kernel_rfl) (fun _ _ _ h => h) (Or.inl ⟨by rfl, ?_⟩) (by assumption) ?_
    rotate_left
    · (intro w hSw; (try dsimp only at hSw); go_simp <;> try with_reducible rfl)
    try simp only [Act.put, List.setIfInBounds_toArray, List.set_cons_zero, List.set_cons_succ]
    have HNb : Hid (NowAt WA.drew bn mb (some a) len cap np p) := HNA.out.below (Below.refl _ _).drew
    have kb : WA.drew.cell? ⟨w.heap.size, 1, none⟩ = some (.slice a3 np c3) := kA1
    have hWb : WA.drew.heap.size = WA.heap.size := rfl
    have hBl : ∀ y : Nat, WA.drew.heap[y]? = WA.heap[y]? := fun _ => rfl
    have HBb : Hid (Below w.heap.size w WA.drew) := HBW.out.drew
    generalize WA.drew = Wb at HNb kb hWb hBl HBb ⊢
    refine wpAnyH_ready (rs := [1, 5]) (by kernel_rfl) (by simp) ?_
    refine AllReadyH.cons (o := { dst := some 28, op := Go.Op.load 25 (Go.Operand.tmp 27), type := 25, pos := "l11_papers.go:169", after := #[{ on := 0, ground := Go.Ground.data }], guard := none }) rfl (fun K hK => ?_) (AllReadyH.cons (o := { dst := some 32, op := Go.Op.call { callee := Go.Callee.value (Go.Operand.func 57), args := #[Go.Operand.tmp 29, Go.Operand.tmp 30, Go.Operand.tmp 31], argTypes := #[79, 3, 3] }, type := 32, pos := "l11_papers.go:169", after := #[{ on := 2, ground := Go.Ground.data }, { on := 3, ground := Go.Ground.data }, { on := 4, ground := Go.Ground.data }], guard := none }) rfl (fun K hK => ?_) (AllReadyH.nil))
    · go_simp
      first | refine hK.out _ _ trivial (fun hHeld => ?_) | (go_wp2_with fail; refine hK.out _ _ trivial (fun hHeld => ?_))
      clear hK K
      try simp only [Act.put, List.setIfInBounds_toArray, List.set_cons_zero, List.set_cons_succ]
      refine wpAnyH_ready (rs := [5]) (by kernel_rfl) (by simp) ?_
      refine AllReadyH.cons (o := { dst := some 32, op := Go.Op.call { callee := Go.Callee.value (Go.Operand.func 57), args := #[Go.Operand.tmp 29, Go.Operand.tmp 30, Go.Operand.tmp 31], argTypes := #[79, 3, 3] }, type := 32, pos := "l11_papers.go:169", after := #[{ on := 2, ground := Go.Ground.data }, { on := 3, ground := Go.Ground.data }, { on := 4, ground := Go.Ground.data }], guard := none }) rfl (fun K hK => ?_) (AllReadyH.nil)
      go_simp
      refine (issue_all (w.heap.size + 1 + 1) bn mb (some a) len cap np p (ext p np (newP p np s day)) s day _ HNb.out hnp4 hwf hbn hmb (fun j hj => ext_ne hj) (by rw [ext_at]; rfl) (by rw [ext_at]; rfl)).mono ?_
      rintro e Wc ⟨rfl, _, hkc, hsc, b5⟩
      have kc : Wc.cell? ⟨w.heap.size, 1, none⟩ = some (.slice a3 np c3) := by rw [World.cell?_of_block (w := Wb) (hkc w.heap.size (by rw [hWb]; omega) (by omega) (by omega))]; exact kb
      first | refine hK.out _ _ trivial (fun hHeld => ?_) | (go_wp2_with fail; refine hK.out _ _ trivial (fun hHeld => ?_))
      clear hK K
      try simp only [Act.put, List.setIfInBounds_toArray, List.set_cons_zero, List.set_cons_succ]
      refine wpAnyH_ready (rs := [6]) (by kernel_rfl) (by simp) ?_
      refine AllReadyH.cons (o := { dst := some 33, op := Go.Op.buildSlice 25 1 #[(0, Go.Operand.tmp 32)], type := 25, pos := "l11_papers.go:169", after := #[{ on := 5, ground := Go.Ground.data }], guard := none }) rfl (fun K hK => ?_) (AllReadyH.nil)
      go_simp
      have kd : (Wc.alloc (.cells #[.int .i64 s, .int .i64 ((cntP p s np : Int) + 1), .int .i64 day, .bool false] 32 (0, 0))).cell? ⟨w.heap.size, 1, none⟩ = some (.slice a3 np c3) := keep_cell ((Below.refl _ _).alloc (Nat.le_refl _) _) kc
      first | refine hK.out _ _ trivial (fun hHeld => ?_) | (go_wp2_with fail; refine hK.out _ _ trivial (fun hHeld => ?_))
      clear hK K
      try simp only [Act.put, List.setIfInBounds_toArray, List.set_cons_zero, List.set_cons_succ]
      refine wpAnyH_ready (rs := [7]) (by kernel_rfl) (by simp) ?_
      refine AllReadyH.cons (o := { dst := some 34, op := Go.Op.call { callee := Go.Callee.builtin Go.Builtin.append, args := #[Go.Operand.tmp 28, Go.Operand.tmp 33], argTypes := #[25, 25] }, type := 25, pos := "l11_papers.go:169", after := #[{ on := 1, ground := Go.Ground.data }, { on := 6, ground := Go.Ground.data }, { on := 5, ground := Go.Ground.chain }], guard := none }) rfl (fun K hK => ?_) (AllReadyH.nil)
      have hnews := CB.new (w := Wc) #[.int .i64 s, .int .i64 ((cntP p s np : Int) + 1), .int .i64 day, .bool false] 32
      have hO3d : (Wc.alloc (.cells #[.int .i64 s, .int .i64 ((cntP p s np : Int) + 1), .int .i64 day, .bool false] 32 (0, 0))).ownsRow w2.heap.size 32 4 (.slice a3 np c3) np (rowP4 p np) := ownsRow_below (ownsRow_keep HRA3.out (fun g h0 h1 => by rw [hkc g (by rw [hWb]; exact h1) (by omega) (by omega), hBl])) ((Below.refl _ _).alloc (Nat.le_refl _) _)
      have hsd : (Wc.alloc (.cells #[.int .i64 s, .int .i64 ((cntP p s np : Int) + 1), .int .i64 day, .bool false] 32 (0, 0))).heap.size = Wc.heap.size + 1 := by simp
      rw [if_pos (by rfl)]
      refine oper_append (Operand.tmp 28) (Operand.tmp 33) 25 rfl w2.heap.size 32 iP (.agg #[.int .i64 0, .int .i64 0, .int .i64 0, .bool false]) 4 32 Tryd.underlying25 gi gz0 gz1 gz2 rfl (by decide) (.slice a3 np c3) np (rowP4 p np) rfl hO3d ⟨Wc.heap.size, 0, none⟩ 1 1 [.int .i64 s, .int .i64 ((cntP p s np : Int) + 1), .int .i64 day, .bool false] rfl rfl (one_src hnews) (by intro u hu; simp at hu; rcases hu with rfl | rfl | rfl | rfl <;> rfl) (by unfold maxLen; omega) (by omega) (by rw [hsd]; omega) ?_
      intro v5 WE hown hgrow _
      obtain ⟨a5, c5, rfl⟩ := row_form hown
      have hgE : ∀ y, y < Wb.heap.size → y ≠ bn → y ≠ mb → (some y ≠ (Value.slice a3 np c3).ownBlock) → WE.heap[y]? = Wb.heap[y]? := fun y hy h1 h2 h3 => by rw [hgrow.block y (by rw [hsd]; omega) h3, ((Below.refl Wc.heap.size Wc).alloc (Nat.le_refl _) _).block y (by omega), hkc y hy h1 h2]
      have hlo3 : ∀ y, (Value.slice a3 np c3).ownBlock = some y → w2.heap.size ≤ y := fun y hy => (hO3d.lt y hy).1
      have C0 : CB WE w.heap.size #[.slice a2 len c2, .slice a3 np c3] 27 := HBA0.out.block ((hgE w.heap.size (by rw [hWb]; omega) (by omega) (by omega) (fun e => by have := hlo3 _ e.symm; omega)).trans (hBl _))
      have C1 : CB WE (w.heap.size + 1) #[.slice none 0 0, .slice none 0 0] 27 := HBA1.out.block ((hgE (w.heap.size + 1) (by rw [hWb]; omega) (by omega) (by omega) (fun e => by have := hlo3 _ e.symm; omega)).trans (hBl _))
      have hO2E : OwnS2 WE w2.heap.size a2 len c := HRA2.out.keepC (fun g cs q e hlo hc => (hgE g (by rw [hWb]; exact hc.lt) (by omega) (by omega) (fun e' => own_ne hO3d hc e' (fun y hy h3 => by rw [((Below.refl Wc.heap.size Wc).alloc (Nat.le_refl _) _).block y (by omega), hkc y (by rw [hWb]; exact hy) (by omega) (by omega), hBl]) hlo)).trans (hBl g))
      have hown2 : WE.ownsRow w2.heap.size 32 4 (.slice a5 (np + 1) c5) (np + 1) (rowP4 (ext p np (newP p np s day)) (np + 1)) := by rw [row_snoc]; exact hown
      have hO3E : OwnP4 WE w2.heap.size a5 (np + 1) (ext p np (newP p np s day)) := by obtain ⟨ad', cp', e', _, h'⟩ := ownP4_of hown2; simp only [Value.slice.injEq] at e'; obtain ⟨rfl, _, rfl⟩ := e'; exact h'
      have hBE : Below w.heap.size w WE := ((HBb.out.trans (b5.mono (by omega))).alloc (by have := HBb.out.size; omega) _).grown hgrow (by have := HBb.out.size; rw [hsd]; omega) (fun g e => by have := hlo3 g e; omega)
      have c0 : WE.cell? ⟨w.heap.size, 0, none⟩ = some (.slice a2 len c2) := (C0.cell 0).trans rfl
      have c1 : WE.cell? ⟨w.heap.size, 1, none⟩ = some (.slice a3 np c3) := (C0.cell 1).trans rfl
      have g1 := C0.fr 1
      have c2' := (C1.cell 0).trans rfl
      have c3' := (C1.cell 1).trans rfl
      have g2 := C1.fr 0
      have g3 := C1.fr 1
      first | refine hK.out _ _ trivial (fun hHeld => ?_) | (go_wp2_with fail; refine hK.out _ _ trivial (fun hHeld => ?_))
      clear hK K
      try simp only [Act.put, List.setIfInBounds_toArray, List.set_cons_zero, List.set_cons_succ]
      refine wpAnyH_take (i := 8) (oi := { dst := some 35, op := Go.Op.fieldAddr 27 (Go.Operand.tmp 3) 1, type := 0, pos := "l11_papers.go:169", after := #[{ on := 0, ground := Go.Ground.phase }, { on := 1, ground := Go.Ground.phase }, { on := 2, ground := Go.Ground.phase }, { on := 3, ground := Go.Ground.phase }, { on := 4, ground := Go.Ground.phase }, { on := 5, ground := Go.Ground.phase }, { on := 6, ground := Go.Ground.phase }, { on := 7, ground := Go.Ground.phase }], guard := none }) (v := ?_) rfl (by kernel_rfl) (by kernel_rfl) (by kernel_rfl) (fun _ _ _ h => h) (Or.inl ⟨by rfl, ?_⟩) (by assumption) ?_
      rotate_left
      · (intro w hSw; (try dsimp only at hSw); go_simp <;> try with_reducible rfl)
      try simp only [Act.put, List.setIfInBounds_toArray, List.set_cons_zero, List.set_cons_succ]
      refine wpAnyH_ready (rs := [9]) (by kernel_rfl) (by simp) ?_
      refine AllReadyH.cons (o := { dst := none, op := Go.Op.store 25 (Go.Operand.tmp 35) (Go.Operand.tmp 34), type := 0, pos := "l11_papers.go:169", after := #[{ on := 8, ground := Go.Ground.data }, { on := 7, ground := Go.Ground.data }, { on := 7, ground := Go.Ground.chain }, { on := 0, ground := Go.Ground.phase }, { on := 1, ground := Go.Ground.phase }, { on := 2, ground := Go.Ground.phase }, { on := 3, ground := Go.Ground.phase }, { on := 4, ground := Go.Ground.phase }, { on := 5, ground := Go.Ground.phase }, { on := 6, ground := Go.Ground.phase }, { on := 7, ground := Go.Ground.phase }], guard := none }) rfl (fun K hK => ?_) (AllReadyH.nil)
      go_simp
      first | refine hK.out _ _ trivial (fun hHeld => ?_) | (go_wp2_with fail; refine hK.out _ _ trivial (fun hHeld => ?_))
      clear hK K
      try simp only [Act.put, List.setIfInBounds_toArray, List.set_cons_zero, List.set_cons_succ]
      refine wpAnyH_done (by kernel_rfl) ?_ _
      clear hHeld
      (try refine NoPanic.normal ?_)
      have D0 := C0.set 1 (.slice a5 (np + 1) c5)
      have D1 := C1.other (c := w.heap.size) (o := 1) (.slice a5 (np + 1) c5) (by omega)
      have P2 := hO2E.put (b := w.heap.size) (o := 1) (.slice a5 (np + 1) c5) (by omega)
      have P3 := hO3E.put (b := w.heap.size) (o := 1) (.slice a5 (np + 1) c5) (by omega)
      have PB := hBE.setCell (p := ⟨w.heap.size, 1, none⟩) (by simp) (.slice a5 (np + 1) c5)
      clear c0 c1 g1 c2' c3' g2 g3 hgE hlo3 hgrow hown hown2
      generalize (WE.setCell ⟨w.heap.size, 1, none⟩ (.slice a5 (np + 1) c5)) = WF at D0 D1 P2 P3 PB ⊢
      have k0 : WF.cell? ⟨w.heap.size, 0, none⟩ = some (.slice a2 len c2) := (D0.cell 0).trans (by simp)
      have k1 : WF.cell? ⟨w.heap.size, 1, none⟩ = some (.slice a5 (np + 1) c5) := (D0.cell 1).trans (by simp)
      have k2 := (D1.cell 0).trans rfl
      have k3 := (D1.cell 1).trans rfl
      have f2 := D1.fr 0
      have f3 := D1.fr 1
      go_wp2_with fail
      have hX := ((D1.set 0 (.slice a2 len c2)).set 1 (.slice a5 (np + 1) c5))
      have hO2 := ((P2.put (b := w.heap.size + 1) (o := 0) (.slice a2 len c2) (by omega)).put (b := w.heap.size + 1) (o := 1) (.slice a5 (np + 1) c5) (by omega))
      have hO3 := ((P3.put (b := w.heap.size + 1) (o := 0) (.slice a2 len c2) (by omega)).put (b := w.heap.size + 1) (o := 1) (.slice a5 (np + 1) c5) (by omega))
      have hZ := ((PB.setCell (p := ⟨w.heap.size + 1, 0, none⟩) (by simp; try omega) (.slice a2 len c2)).setCell (p := ⟨w.heap.size + 1, 1, none⟩) (by simp; try omega) (.slice a5 (np + 1) c5))
      have e0 := hX.cell 0
      have e1 := hX.cell 1
      simp at e0 e1
      clear hX
      clear k0 k1 k2 k3 f2 f3
      generalize (World.setCell _ _ _) = W9 at e0 e1 hO2 hO3 hZ ⊢
      refine bodyPost_ret (by simp [results, Tryd.results18, go_sem, e0, e1]; try rfl) rfl ?_
      exact ⟨a2, c2, a5, c5, rfl, hO2.mono (by omega), hO3.mono (by omega), hZ⟩
    · go_simp
      refine (issue_all (w.heap.size + 1 + 1) bn mb (some a) len cap np p (ext p np (newP p np s day)) s day _ HNb.out hnp4 hwf hbn hmb (fun j hj => ext_ne hj) (by rw [ext_at]; rfl) (by rw [ext_at]; rfl)).mono ?_
      rintro e Wc ⟨rfl, _, hkc, hsc, b5⟩
      have kc : Wc.cell? ⟨w.heap.size, 1, none⟩ = some (.slice a3 np c3) := by rw [World.cell?_of_block (w := Wb) (hkc w.heap.size (by rw [hWb]; omega) (by omega) (by omega))]; exact kb
      first | refine hK.out _ _ trivial (fun hHeld => ?_) | (go_wp2_with fail; refine hK.out _ _ trivial (fun hHeld => ?_))
      clear hK K
      try simp only [Act.put, List.setIfInBounds_toArray, List.set_cons_zero, List.set_cons_succ]
      refine wpAnyH_ready (rs := [1, 6]) (by kernel_rfl) (by simp) ?_
      refine AllReadyH.cons (o := { dst := some 28, op := Go.Op.load 25 (Go.Operand.tmp 27), type := 25, pos := "l11_papers.go:169", after := #[{ on := 0, ground := Go.Ground.data }], guard := none }) rfl (fun K hK => ?_) (AllReadyH.cons (o := { dst := some 33, op := Go.Op.buildSlice 25 1 #[(0, Go.Operand.tmp 32)], type := 25, pos := "l11_papers.go:169", after := #[{ on := 5, ground := Go.Ground.data }], guard := none }) rfl (fun K hK => ?_) (AllReadyH.nil))
      · go_simp
        first | refine hK.out _ _ trivial (fun hHeld => ?_) | (go_wp2_with fail; refine hK.out _ _ trivial (fun hHeld => ?_))
        clear hK K
        try simp only [Act.put, List.setIfInBounds_toArray, List.set_cons_zero, List.set_cons_succ]
        refine wpAnyH_ready (rs := [6]) (by kernel_rfl) (by simp) ?_
        refine AllReadyH.cons (o := { dst := some 33, op := Go.Op.buildSlice 25 1 #[(0, Go.Operand.tmp 32)], type := 25, pos := "l11_papers.go:169", after := #[{ on := 5, ground := Go.Ground.data }], guard := none }) rfl (fun K hK => ?_) (AllReadyH.nil)
        go_simp
        have kd : (Wc.alloc (.cells #[.int .i64 s, .int .i64 ((cntP p s np : Int) + 1), .int .i64 day, .bool false] 32 (0, 0))).cell? ⟨w.heap.size, 1, none⟩ = some (.slice a3 np c3) := keep_cell ((Below.refl _ _).alloc (Nat.le_refl _) _) kc
        first | refine hK.out _ _ trivial (fun hHeld => ?_) | (go_wp2_with fail; refine hK.out _ _ trivial (fun hHeld => ?_))
        clear hK K
        try simp only [Act.put, List.setIfInBounds_toArray, List.set_cons_zero, List.set_cons_succ]
        refine wpAnyH_ready (rs := [7]) (by kernel_rfl) (by simp) ?_
        refine AllReadyH.cons (o := { dst := some 34, op := Go.Op.call { callee := Go.Callee.builtin Go.Builtin.append, args := #[Go.Operand.tmp 28, Go.Operand.tmp 33], argTypes := #[25, 25] }, type := 25, pos := "l11_papers.go:169", after := #[{ on := 1, ground := Go.Ground.data }, { on := 6, ground := Go.Ground.data }, { on := 5, ground := Go.Ground.chain }], guard := none }) rfl (fun K hK => ?_) (AllReadyH.nil)
        have hnews := CB.new (w := Wc) #[.int .i64 s, .int .i64 ((cntP p s np : Int) + 1), .int .i64 day, .bool false] 32
        have hO3d : (Wc.alloc (.cells #[.int .i64 s, .int .i64 ((cntP p s np : Int) + 1), .int .i64 day, .bool false] 32 (0, 0))).ownsRow w2.heap.size 32 4 (.slice a3 np c3) np (rowP4 p np) := ownsRow_below (ownsRow_keep HRA3.out (fun g h0 h1 => by rw [hkc g (by rw [hWb]; exact h1) (by omega) (by omega), hBl])) ((Below.refl _ _).alloc (Nat.le_refl _) _)
        have hsd : (Wc.alloc (.cells #[.int .i64 s, .int .i64 ((cntP p s np : Int) + 1), .int .i64 day, .bool false] 32 (0, 0))).heap.size = Wc.heap.size + 1 := by simp
        rw [if_pos (by rfl)]
        refine oper_append (Operand.tmp 28) (Operand.tmp 33) 25 rfl w2.heap.size 32 iP (.agg #[.int .i64 0, .int .i64 0, .int .i64 0, .bool false]) 4 32 Tryd.underlying25 gi gz0 gz1 gz2 rfl (by decide) (.slice a3 np c3) np (rowP4 p np) rfl hO3d ⟨Wc.heap.size, 0, none⟩ 1 1 [.int .i64 s, .int .i64 ((cntP p s np : Int) + 1), .int .i64 day, .bool false] rfl rfl (one_src hnews) (by intro u hu; simp at hu; rcases hu with rfl | rfl | rfl | rfl <;> rfl) (by unfold maxLen; omega) (by omega) (by rw [hsd]; omega) ?_
        intro v5 WE hown hgrow _
        obtain ⟨a5, c5, rfl⟩ := row_form hown
        have hgE : ∀ y, y < Wb.heap.size → y ≠ bn → y ≠ mb → (some y ≠ (Value.slice a3 np c3).ownBlock) → WE.heap[y]? = Wb.heap[y]? := fun y hy h1 h2 h3 => by rw [hgrow.block y (by rw [hsd]; omega) h3, ((Below.refl Wc.heap.size Wc).alloc (Nat.le_refl _) _).block y (by omega), hkc y hy h1 h2]
        have hlo3 : ∀ y, (Value.slice a3 np c3).ownBlock = some y → w2.heap.size ≤ y := fun y hy => (hO3d.lt y hy).1
        have C0 : CB WE w.heap.size #[.slice a2 len c2, .slice a3 np c3] 27 := HBA0.out.block ((hgE w.heap.size (by rw [hWb]; omega) (by omega) (by omega) (fun e => by have := hlo3 _ e.symm; omega)).trans (hBl _))
        have C1 : CB WE (w.heap.size + 1) #[.slice none 0 0, .slice none 0 0] 27 := HBA1.out.block ((hgE (w.heap.size + 1) (by rw [hWb]; omega) (by omega) (by omega) (fun e => by have := hlo3 _ e.symm; omega)).trans (hBl _))
        have hO2E : OwnS2 WE w2.heap.size a2 len c := HRA2.out.keepC (fun g cs q e hlo hc => (hgE g (by rw [hWb]; exact hc.lt) (by omega) (by omega) (fun e' => own_ne hO3d hc e' (fun y hy h3 => by rw [((Below.refl Wc.heap.size Wc).alloc (Nat.le_refl _) _).block y (by omega), hkc y (by rw [hWb]; exact hy) (by omega) (by omega), hBl]) hlo)).trans (hBl g))
        have hown2 : WE.ownsRow w2.heap.size 32 4 (.slice a5 (np + 1) c5) (np + 1) (rowP4 (ext p np (newP p np s day)) (np + 1)) := by rw [row_snoc]; exact hown
        have hO3E : OwnP4 WE w2.heap.size a5 (np + 1) (ext p np (newP p np s day)) := by obtain ⟨ad', cp', e', _, h'⟩ := ownP4_of hown2; simp only [Value.slice.injEq] at e'; obtain ⟨rfl, _, rfl⟩ := e'; exact h'
        have hBE : Below w.heap.size w WE := ((HBb.out.trans (b5.mono (by omega))).alloc (by have := HBb.out.size; omega) _).grown hgrow (by have := HBb.out.size; rw [hsd]; omega) (fun g e => by have := hlo3 g e; omega)
        have c0 : WE.cell? ⟨w.heap.size, 0, none⟩ = some (.slice a2 len c2) := (C0.cell 0).trans rfl
        have c1 : WE.cell? ⟨w.heap.size, 1, none⟩ = some (.slice a3 np c3) := (C0.cell 1).trans rfl
        have g1 := C0.fr 1
        have c2' := (C1.cell 0).trans rfl
        have c3' := (C1.cell 1).trans rfl
        have g2 := C1.fr 0
        have g3 := C1.fr 1
        first | refine hK.out _ _ trivial (fun hHeld => ?_) | (go_wp2_with fail; refine hK.out _ _ trivial (fun hHeld => ?_))
        clear hK K
        try simp only [Act.put, List.setIfInBounds_toArray, List.set_cons_zero, List.set_cons_succ]
        refine wpAnyH_take (i := 8) (oi := { dst := some 35, op := Go.Op.fieldAddr 27 (Go.Operand.tmp 3) 1, type := 0, pos := "l11_papers.go:169", after := #[{ on := 0, ground := Go.Ground.phase }, { on := 1, ground := Go.Ground.phase }, { on := 2, ground := Go.Ground.phase }, { on := 3, ground := Go.Ground.phase }, { on := 4, ground := Go.Ground.phase }, { on := 5, ground := Go.Ground.phase }, { on := 6, ground := Go.Ground.phase }, { on := 7, ground := Go.Ground.phase }], guard := none }) (v := ?_) rfl (by kernel_rfl) (by kernel_rfl) (by kernel_rfl) (fun _ _ _ h => h) (Or.inl ⟨by rfl, ?_⟩) (by assumption) ?_
        rotate_left
        · (intro w hSw; (try dsimp only at hSw); go_simp <;> try with_reducible rfl)
        try simp only [Act.put, List.setIfInBounds_toArray, List.set_cons_zero, List.set_cons_succ]
        refine wpAnyH_ready (rs := [9]) (by kernel_rfl) (by simp) ?_
        refine AllReadyH.cons (o := { dst := none, op := Go.Op.store 25 (Go.Operand.tmp 35) (Go.Operand.tmp 34), type := 0, pos := "l11_papers.go:169", after := #[{ on := 8, ground := Go.Ground.data }, { on := 7, ground := Go.Ground.data }, { on := 7, ground := Go.Ground.chain }, { on := 0, ground := Go.Ground.phase }, { on := 1, ground := Go.Ground.phase }, { on := 2, ground := Go.Ground.phase }, { on := 3, ground := Go.Ground.phase }, { on := 4, ground := Go.Ground.phase }, { on := 5, ground := Go.Ground.phase }, { on := 6, ground := Go.Ground.phase }, { on := 7, ground := Go.Ground.phase }], guard := none }) rfl (fun K hK => ?_) (AllReadyH.nil)
        go_simp
        first | refine hK.out _ _ trivial (fun hHeld => ?_) | (go_wp2_with fail; refine hK.out _ _ trivial (fun hHeld => ?_))
        clear hK K
        try simp only [Act.put, List.setIfInBounds_toArray, List.set_cons_zero, List.set_cons_succ]
        refine wpAnyH_done (by kernel_rfl) ?_ _
        clear hHeld
        (try refine NoPanic.normal ?_)
        have D0 := C0.set 1 (.slice a5 (np + 1) c5)
        have D1 := C1.other (c := w.heap.size) (o := 1) (.slice a5 (np + 1) c5) (by omega)
        have P2 := hO2E.put (b := w.heap.size) (o := 1) (.slice a5 (np + 1) c5) (by omega)
        have P3 := hO3E.put (b := w.heap.size) (o := 1) (.slice a5 (np + 1) c5) (by omega)
        have PB := hBE.setCell (p := ⟨w.heap.size, 1, none⟩) (by simp) (.slice a5 (np + 1) c5)
        clear c0 c1 g1 c2' c3' g2 g3 hgE hlo3 hgrow hown hown2
        generalize (WE.setCell ⟨w.heap.size, 1, none⟩ (.slice a5 (np + 1) c5)) = WF at D0 D1 P2 P3 PB ⊢
        have k0 : WF.cell? ⟨w.heap.size, 0, none⟩ = some (.slice a2 len c2) := (D0.cell 0).trans (by simp)
        have k1 : WF.cell? ⟨w.heap.size, 1, none⟩ = some (.slice a5 (np + 1) c5) := (D0.cell 1).trans (by simp)
        have k2 := (D1.cell 0).trans rfl
        have k3 := (D1.cell 1).trans rfl
        have f2 := D1.fr 0
        have f3 := D1.fr 1
        go_wp2_with fail
        have hX := ((D1.set 0 (.slice a2 len c2)).set 1 (.slice a5 (np + 1) c5))
        have hO2 := ((P2.put (b := w.heap.size + 1) (o := 0) (.slice a2 len c2) (by omega)).put (b := w.heap.size + 1) (o := 1) (.slice a5 (np + 1) c5) (by omega))
        have hO3 := ((P3.put (b := w.heap.size + 1) (o := 0) (.slice a2 len c2) (by omega)).put (b := w.heap.size + 1) (o := 1) (.slice a5 (np + 1) c5) (by omega))
        have hZ := ((PB.setCell (p := ⟨w.heap.size + 1, 0, none⟩) (by simp; try omega) (.slice a2 len c2)).setCell (p := ⟨w.heap.size + 1, 1, none⟩) (by simp; try omega) (.slice a5 (np + 1) c5))
        have e0 := hX.cell 0
        have e1 := hX.cell 1
        simp at e0 e1
        clear hX
        clear k0 k1 k2 k3 f2 f3
        generalize (World.setCell _ _ _) = W9 at e0 e1 hO2 hO3 hZ ⊢
        refine bodyPost_ret (by simp [results, Tryd.results18, go_sem, e0, e1]; try rfl) rfl ?_
        exact ⟨a2, c2, a5, c5, rfl, hO2.mono (by omega), hO3.mono (by omega), hZ⟩
      · go_simp
        have kd : (Wc.alloc (.cells #[.int .i64 s, .int .i64 ((cntP p s np : Int) + 1), .int .i64 day, .bool false] 32 (0, 0))).cell? ⟨w.heap.size, 1, none⟩ = some (.slice a3 np c3) := keep_cell ((Below.refl _ _).alloc (Nat.le_refl _) _) kc
        first | refine hK.out _ _ trivial (fun hHeld => ?_) | (go_wp2_with fail; refine hK.out _ _ trivial (fun hHeld => ?_))
        clear hK K
        try simp only [Act.put, List.setIfInBounds_toArray, List.set_cons_zero, List.set_cons_succ]
        refine wpAnyH_ready (rs := [1]) (by kernel_rfl) (by simp) ?_
        refine AllReadyH.cons (o := { dst := some 28, op := Go.Op.load 25 (Go.Operand.tmp 27), type := 25, pos := "l11_papers.go:169", after := #[{ on := 0, ground := Go.Ground.data }], guard := none }) rfl (fun K hK => ?_) (AllReadyH.nil)
        go_simp
        first | refine hK.out _ _ trivial (fun hHeld => ?_) | (go_wp2_with fail; refine hK.out _ _ trivial (fun hHeld => ?_))
        clear hK K
        try simp only [Act.put, List.setIfInBounds_toArray, List.set_cons_zero, List.set_cons_succ]
        refine wpAnyH_ready (rs := [7]) (by kernel_rfl) (by simp) ?_
        refine AllReadyH.cons (o := { dst := some 34, op := Go.Op.call { callee := Go.Callee.builtin Go.Builtin.append, args := #[Go.Operand.tmp 28, Go.Operand.tmp 33], argTypes := #[25, 25] }, type := 25, pos := "l11_papers.go:169", after := #[{ on := 1, ground := Go.Ground.data }, { on := 6, ground := Go.Ground.data }, { on := 5, ground := Go.Ground.chain }], guard := none }) rfl (fun K hK => ?_) (AllReadyH.nil)
        have hnews := CB.new (w := Wc) #[.int .i64 s, .int .i64 ((cntP p s np : Int) + 1), .int .i64 day, .bool false] 32
        have hO3d : (Wc.alloc (.cells #[.int .i64 s, .int .i64 ((cntP p s np : Int) + 1), .int .i64 day, .bool false] 32 (0, 0))).ownsRow w2.heap.size 32 4 (.slice a3 np c3) np (rowP4 p np) := ownsRow_below (ownsRow_keep HRA3.out (fun g h0 h1 => by rw [hkc g (by rw [hWb]; exact h1) (by omega) (by omega), hBl])) ((Below.refl _ _).alloc (Nat.le_refl _) _)
        have hsd : (Wc.alloc (.cells #[.int .i64 s, .int .i64 ((cntP p s np : Int) + 1), .int .i64 day, .bool false] 32 (0, 0))).heap.size = Wc.heap.size + 1 := by simp
        rw [if_pos (by rfl)]
        refine oper_append (Operand.tmp 28) (Operand.tmp 33) 25 rfl w2.heap.size 32 iP (.agg #[.int .i64 0, .int .i64 0, .int .i64 0, .bool false]) 4 32 Tryd.underlying25 gi gz0 gz1 gz2 rfl (by decide) (.slice a3 np c3) np (rowP4 p np) rfl hO3d ⟨Wc.heap.size, 0, none⟩ 1 1 [.int .i64 s, .int .i64 ((cntP p s np : Int) + 1), .int .i64 day, .bool false] rfl rfl (one_src hnews) (by intro u hu; simp at hu; rcases hu with rfl | rfl | rfl | rfl <;> rfl) (by unfold maxLen; omega) (by omega) (by rw [hsd]; omega) ?_
        intro v5 WE hown hgrow _
        obtain ⟨a5, c5, rfl⟩ := row_form hown
        have hgE : ∀ y, y < Wb.heap.size → y ≠ bn → y ≠ mb → (some y ≠ (Value.slice a3 np c3).ownBlock) → WE.heap[y]? = Wb.heap[y]? := fun y hy h1 h2 h3 => by rw [hgrow.block y (by rw [hsd]; omega) h3, ((Below.refl Wc.heap.size Wc).alloc (Nat.le_refl _) _).block y (by omega), hkc y hy h1 h2]
        have hlo3 : ∀ y, (Value.slice a3 np c3).ownBlock = some y → w2.heap.size ≤ y := fun y hy => (hO3d.lt y hy).1
        have C0 : CB WE w.heap.size #[.slice a2 len c2, .slice a3 np c3] 27 := HBA0.out.block ((hgE w.heap.size (by rw [hWb]; omega) (by omega) (by omega) (fun e => by have := hlo3 _ e.symm; omega)).trans (hBl _))
        have C1 : CB WE (w.heap.size + 1) #[.slice none 0 0, .slice none 0 0] 27 := HBA1.out.block ((hgE (w.heap.size + 1) (by rw [hWb]; omega) (by omega) (by omega) (fun e => by have := hlo3 _ e.symm; omega)).trans (hBl _))
        have hO2E : OwnS2 WE w2.heap.size a2 len c := HRA2.out.keepC (fun g cs q e hlo hc => (hgE g (by rw [hWb]; exact hc.lt) (by omega) (by omega) (fun e' => own_ne hO3d hc e' (fun y hy h3 => by rw [((Below.refl Wc.heap.size Wc).alloc (Nat.le_refl _) _).block y (by omega), hkc y (by rw [hWb]; exact hy) (by omega) (by omega), hBl]) hlo)).trans (hBl g))
        have hown2 : WE.ownsRow w2.heap.size 32 4 (.slice a5 (np + 1) c5) (np + 1) (rowP4 (ext p np (newP p np s day)) (np + 1)) := by rw [row_snoc]; exact hown
        have hO3E : OwnP4 WE w2.heap.size a5 (np + 1) (ext p np (newP p np s day)) := by obtain ⟨ad', cp', e', _, h'⟩ := ownP4_of hown2; simp only [Value.slice.injEq] at e'; obtain ⟨rfl, _, rfl⟩ := e'; exact h'
        have hBE : Below w.heap.size w WE := ((HBb.out.trans (b5.mono (by omega))).alloc (by have := HBb.out.size; omega) _).grown hgrow (by have := HBb.out.size; rw [hsd]; omega) (fun g e => by have := hlo3 g e; omega)
        have c0 : WE.cell? ⟨w.heap.size, 0, none⟩ = some (.slice a2 len c2) := (C0.cell 0).trans rfl
        have c1 : WE.cell? ⟨w.heap.size, 1, none⟩ = some (.slice a3 np c3) := (C0.cell 1).trans rfl
        have g1 := C0.fr 1
        have c2' := (C1.cell 0).trans rfl
        have c3' := (C1.cell 1).trans rfl
        have g2 := C1.fr 0
        have g3 := C1.fr 1
        first | refine hK.out _ _ trivial (fun hHeld => ?_) | (go_wp2_with fail; refine hK.out _ _ trivial (fun hHeld => ?_))
        clear hK K
        try simp only [Act.put, List.setIfInBounds_toArray, List.set_cons_zero, List.set_cons_succ]
        refine wpAnyH_take (i := 8) (oi := { dst := some 35, op := Go.Op.fieldAddr 27 (Go.Operand.tmp 3) 1, type := 0, pos := "l11_papers.go:169", after := #[{ on := 0, ground := Go.Ground.phase }, { on := 1, ground := Go.Ground.phase }, { on := 2, ground := Go.Ground.phase }, { on := 3, ground := Go.Ground.phase }, { on := 4, ground := Go.Ground.phase }, { on := 5, ground := Go.Ground.phase }, { on := 6, ground := Go.Ground.phase }, { on := 7, ground := Go.Ground.phase }], guard := none }) (v := ?_) rfl (by kernel_rfl) (by kernel_rfl) (by kernel_rfl) (fun _ _ _ h => h) (Or.inl ⟨by rfl, ?_⟩) (by assumption) ?_
        rotate_left
        · (intro w hSw; (try dsimp only at hSw); go_simp <;> try with_reducible rfl)
        try simp only [Act.put, List.setIfInBounds_toArray, List.set_cons_zero, List.set_cons_succ]
        refine wpAnyH_ready (rs := [9]) (by kernel_rfl) (by simp) ?_
        refine AllReadyH.cons (o := { dst := none, op := Go.Op.store 25 (Go.Operand.tmp 35) (Go.Operand.tmp 34), type := 0, pos := "l11_papers.go:169", after := #[{ on := 8, ground := Go.Ground.data }, { on := 7, ground := Go.Ground.data }, { on := 7, ground := Go.Ground.chain }, { on := 0, ground := Go.Ground.phase }, { on := 1, ground := Go.Ground.phase }, { on := 2, ground := Go.Ground.phase }, { on := 3, ground := Go.Ground.phase }, { on := 4, ground := Go.Ground.phase }, { on := 5, ground := Go.Ground.phase }, { on := 6, ground := Go.Ground.phase }, { on := 7, ground := Go.Ground.phase }], guard := none }) rfl (fun K hK => ?_) (AllReadyH.nil)
        go_simp
        first | refine hK.out _ _ trivial (fun hHeld => ?_) | (go_wp2_with fail; refine hK.out _ _ trivial (fun hHeld => ?_))
        clear hK K
        try simp only [Act.put, List.setIfInBounds_toArray, List.set_cons_zero, List.set_cons_succ]
        refine wpAnyH_done (by kernel_rfl) ?_ _
        clear hHeld
        (try refine NoPanic.normal ?_)
        have D0 := C0.set 1 (.slice a5 (np + 1) c5)
        have D1 := C1.other (c := w.heap.size) (o := 1) (.slice a5 (np + 1) c5) (by omega)
        have P2 := hO2E.put (b := w.heap.size) (o := 1) (.slice a5 (np + 1) c5) (by omega)
        have P3 := hO3E.put (b := w.heap.size) (o := 1) (.slice a5 (np + 1) c5) (by omega)
        have PB := hBE.setCell (p := ⟨w.heap.size, 1, none⟩) (by simp) (.slice a5 (np + 1) c5)
        clear c0 c1 g1 c2' c3' g2 g3 hgE hlo3 hgrow hown hown2
        generalize (WE.setCell ⟨w.heap.size, 1, none⟩ (.slice a5 (np + 1) c5)) = WF at D0 D1 P2 P3 PB ⊢
        have k0 : WF.cell? ⟨w.heap.size, 0, none⟩ = some (.slice a2 len c2) := (D0.cell 0).trans (by simp)
        have k1 : WF.cell? ⟨w.heap.size, 1, none⟩ = some (.slice a5 (np + 1) c5) := (D0.cell 1).trans (by simp)
        have k2 := (D1.cell 0).trans rfl
        have k3 := (D1.cell 1).trans rfl
        have f2 := D1.fr 0
        have f3 := D1.fr 1
        go_wp2_with fail
        have hX := ((D1.set 0 (.slice a2 len c2)).set 1 (.slice a5 (np + 1) c5))
        have hO2 := ((P2.put (b := w.heap.size + 1) (o := 0) (.slice a2 len c2) (by omega)).put (b := w.heap.size + 1) (o := 1) (.slice a5 (np + 1) c5) (by omega))
        have hO3 := ((P3.put (b := w.heap.size + 1) (o := 0) (.slice a2 len c2) (by omega)).put (b := w.heap.size + 1) (o := 1) (.slice a5 (np + 1) c5) (by omega))
        have hZ := ((PB.setCell (p := ⟨w.heap.size + 1, 0, none⟩) (by simp; try omega) (.slice a2 len c2)).setCell (p := ⟨w.heap.size + 1, 1, none⟩) (by simp; try omega) (.slice a5 (np + 1) c5))
        have e0 := hX.cell 0
        have e1 := hX.cell 1
        simp at e0 e1
        clear hX
        clear k0 k1 k2 k3 f2 f3
        generalize (World.setCell _ _ _) = W9 at e0 e1 hO2 hO3 hZ ⊢
        refine bodyPost_ret (by simp [results, Tryd.results18, go_sem, e0, e1]; try rfl) rfl ?_
        exact ⟨a2, c2, a5, c5, rfl, hO2.mono (by omega), hO3.mono (by omega), hZ⟩
  have HV : Hid (issueR len c np p s day = ⟨len, np, p, rv⟩) := hid (by rw [issueR_f HRP.out (by rw [hrv]; exact hz), hrv])
  rw [HV.out]
  have hne : (rv == 0) = false := eq_f hz
  clear hrv hz
  go_enter Tryd.func18, Tryd.ntmps18
  go_wp2_with (first | (go_at_call 54; go_loud (refine HCF.out.mono ?_; rintro e w1 ⟨bn, mb, rfl, hnow, b1⟩; rw [HBB.out]; obtain ⟨X0, X1, b2⟩ := two_bl b1; have HB1 : Hid (Below w.heap.size w w1) := b2; have k0 := (X0.cell 0).trans rfl; have k1 := (X0.cell 1).trans rfl; have k2 := (X1.cell 0).trans rfl; have k3 := (X1.cell 1).trans rfl; have f0 := X0.fr 0; have f1 := X0.fr 1; have f2 := X1.fr 0; have f3 := X1.fr 1; have HX0 := hid X0; have HX1 := hid X1; have hs1 : w.heap.size + 1 < w1.heap.size := X1.lt; obtain ⟨hn1, hbn0, hmb0⟩ := hnow HRP.out; have HN1 := hid hn1; clear hnow hn1 hbn0 hmb0; clear b1 b2 HCF X0 X1)) | (go_at_call 55; go_loud (refine (refusal_eq bn mb (some a) len cap np c p s day _ _ HN1.out (HR.out.below HB1.out) hnp4 h hwf (HT.out.below HB1.out) HRV.out).mono ?_; rintro e w2 ⟨rfl, b2⟩; have HN2 := hid (HN1.out.below b2); have HB2 : Hid (Below w.heap.size w w2) := bel_on HB1.out b2; have X0 := HX0.out.below b2 HX0.out.lt; have X1 := HX1.out.below b2 HX1.out.lt; have HY0 := hid X0; have HY1 := hid X1; clear k0 k1 k2 k3 f0 f1 f2 f3; have k0 := (X0.cell 0).trans rfl; have k1 := (X0.cell 1).trans rfl; have k2 := (X1.cell 0).trans rfl; have k3 := (X1.cell 1).trans rfl; have f0 := X0.fr 0; have f1 := X0.fr 1; have f2 := X1.fr 0; have f3 := X1.fr 1; have hs2 : w1.heap.size ≤ w2.heap.size := b2.size; clear b2 X0 X1)) | (go_at_call 56; go_loud (refine (copied_any a b len cap c np pcap p _ h hn (HR.out.below HB2.out) (HP.out.below HB2.out)).mono ?_; rintro e w3 ⟨a2, c2, a3, c3, rfl, o2, o3, b3⟩; obtain ⟨O2, O3⟩ := own_pair o2 o3; have HO2 := hid O2; have HO3 := hid O3; have HOR2 := hid o2; have HOR3 := hid o3; have HN3 := hid (HN2.out.below b3); have HB3 : Hid (Below w.heap.size w w3) := bel_on HB2.out b3; have X0 := HY0.out.below b3 HY0.out.lt; have X1 := HY1.out.below b3 HY1.out.lt; have HZ0 := hid X0; have HZ1 := hid X1; clear k0 k1 k2 k3 f0 f1 f2 f3; have k0 := (X0.cell 0).trans rfl; have k1 := (X0.cell 1).trans rfl; have k2 := (X1.cell 0).trans rfl; have k3 := (X1.cell 1).trans rfl; have f0 := X0.fr 0; have f1 := X0.fr 1; have f2 := X1.fr 0; have f3 := X1.fr 1; have hs3 : w2.heap.size ≤ w3.heap.size := b3.size; clear b3 o2 o3 X0 X1 O2 O3)))
  have hX := ((((HZ1.out.other (c := w.heap.size) (o := 0) (.slice a2 len c2) (by omega)).other (c := w.heap.size) (o := 1) (.slice a3 np c3) (by omega)).set 0 (.slice a2 len c2)).set 1 (.slice a3 np c3))
  have hO2 := ((((HO2.out.put (b := w.heap.size) (o := 0) (.slice a2 len c2) (by omega)).put (b := w.heap.size) (o := 1) (.slice a3 np c3) (by omega)).put (b := w.heap.size + 1) (o := 0) (.slice a2 len c2) (by omega)).put (b := w.heap.size + 1) (o := 1) (.slice a3 np c3) (by omega))
  have hO3 := ((((HO3.out.put (b := w.heap.size) (o := 0) (.slice a2 len c2) (by omega)).put (b := w.heap.size) (o := 1) (.slice a3 np c3) (by omega)).put (b := w.heap.size + 1) (o := 0) (.slice a2 len c2) (by omega)).put (b := w.heap.size + 1) (o := 1) (.slice a3 np c3) (by omega))
  have hZ := ((((HB3.out.setCell (p := ⟨w.heap.size, 0, none⟩) (by simp; try omega) (.slice a2 len c2)).setCell (p := ⟨w.heap.size, 1, none⟩) (by simp; try omega) (.slice a3 np c3)).setCell (p := ⟨w.heap.size + 1, 0, none⟩) (by simp; try omega) (.slice a2 len c2)).setCell (p := ⟨w.heap.size + 1, 1, none⟩) (by simp; try omega) (.slice a3 np c3))
  have e0 := hX.cell 0
  have e1 := hX.cell 1
  simp at e0 e1
  clear hX
  clear k0 k1 k2 k3 f0 f1 f2 f3
  generalize (World.setCell _ _ _) = W9 at e0 e1 hO2 hO3 hZ ⊢
  refine bodyPost_ret (by simp [results, Tryd.results18, go_sem, e0, e1]; try rfl) rfl ?_
  exact ⟨a2, c2, a3, c3, rfl, hO2.mono (by omega), hO3.mono (by omega), hZ⟩
end Go.Proofs.YtdhpadcihlmhiaaDoor
