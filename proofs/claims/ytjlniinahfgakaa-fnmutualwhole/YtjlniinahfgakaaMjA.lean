/- Lists of shares that are being drawn: what stands by. The draw for Mutual. -/
import Derived.Test.YtjlniinahfgakaaMo
import Derived.Test.YtjlniinahfgakaaHc
import Derived.Deep.Cut
import Derived.Deep.RegionWith
import Derived.BigRegion
namespace Go.Proofs.Ytjlniinahfgakaa
open Go Go.ChangeShapes Go.WideShapes Go.ChangeAt Go.RowKit
set_option linter.unusedVariables false
set_option linter.unusedSimpArgs false

def ifm {α : Type} (k : Nat) (x : α) (g : Nat → α) (j : Nat) : α := if j = k then x else g j
theorem ifm_eq {α : Type} (k : Nat) (x : α) (g : Nat → α) : ifm k x g k = x := if_pos rfl
theorem ifm_ne {α : Type} {k j : Nat} (x : α) (g : Nat → α) (h : j ≠ k) : ifm k x g j = g j := if_neg h
theorem Turns.setM {b : Nat} {a w : World} (h : Turns b a w) {c o : Nat} (u : Value) (hc : a.heap.size ≤ c) : Turns b a (w.setCell ⟨c, o, none⟩ u) := ⟨h.os, h.tape, h.output, by simpa [World.setCell] using h.size, fun g h1 h2 => (heap_set (by omega)).trans (h.block g h1 h2)⟩
theorem Cursor.setM {b : Nat} {w : World} (h : Cursor w b) {c o : Nat} (u : Value) (hc : b < c) : Cursor (w.setCell ⟨c, o, none⟩ u) b := h.low (by simp [World.setCell]) (fun g hg => heap_set (by omega))
theorem own_capM {W : World} {base n cap : Nat} {ad : Option Addr} {xs : List Value} (h : W.ownsRow base 3 1 (.slice ad n cap) n xs) : n ≤ cap := by
  rcases h.2 with ⟨e, h0⟩ | ⟨g, c1, cur, e, _, _, h1, _⟩
  · omega
  · simp only [Value.slice.injEq] at e; omega
def svs (n : Nat) (bt ct : Nat → Nat) : Nat → List Value
  | 0 => []
  | k + 1 => svs n bt ct k ++ [.slice (some ⟨bt k, 0, none⟩) n (ct k)]
theorem svs_len (n : Nat) (bt ct : Nat → Nat) : ∀ k, (svs n bt ct k).length = k
  | 0 => rfl
  | k + 1 => by simp [svs, svs_len n bt ct k]
theorem svs_congr {n : Nat} {bt ct bt' ct' : Nat → Nat} : ∀ {k : Nat}, (∀ j, j < k → bt j = bt' j ∧ ct j = ct' j) → svs n bt ct k = svs n bt' ct' k
  | 0, _ => rfl
  | k + 1, h => by
    obtain ⟨h1, h2⟩ := h k (by omega)
    simp only [svs, h1, h2]
    rw [svs_congr (fun j hj => h j (by omega))]
theorem svs_get {n : Nat} {bt ct : Nat → Nat} : ∀ {k j : Nat}, j < k → (svs n bt ct k)[j]? = some (.slice (some ⟨bt j, 0, none⟩) n (ct j))
  | 0, j, h => by omega
  | k + 1, j, h => by
    have hl := svs_len n bt ct k
    by_cases e : j = k
    · subst e
      simp only [svs]
      rw [List.getElem?_append_right (by omega), show j - (svs n bt ct j).length = 0 by omega]; rfl
    · simp only [svs]
      rw [List.getElem?_append_left (by omega)]; exact svs_get (by omega)
theorem own_neS {W : World} {b1 b2 n1 n2 : Nat} {u v : Value} {xs ys : List Value} (h1 : W.ownsRow b1 3 1 u n1 xs) (h2 : W.ownsRow b2 24 1 v n2 ys) {g : Nat} (hu : u.ownBlock = some g) : v.ownBlock ≠ some g := by
  intro hv
  rcases h1.2 with ⟨rfl, _⟩ | ⟨g1, c1, cur1, rfl, _, e1, _⟩
  · cases hu
  · rcases h2.2 with ⟨rfl, _⟩ | ⟨g2, c2, cur2, rfl, _, e2, _⟩
    · cases hv
    · simp only [Value.ownBlock, Option.some.injEq] at hu hv
      subst hu
      rw [hv] at e2
      rw [e1] at e2
      simp at e2
structure MQ (a : World) (b : Nat) (rv : Value) (k n : Nat) (z : Nat → Nat → Int) (bt ct : Nat → Nat) (W : World) : Prop where
  cur : Cursor W b
  trn : Turns b a W
  lo : b < a.heap.size
  row : W.ownsRow a.heap.size 24 1 rv k (svs n bt ct k)
  t : ∀ j, j < k → W.ownsRow a.heap.size 3 1 (.slice (some ⟨bt j, 0, none⟩) n (ct j)) n (intL (z j) n)
  inc : ∀ i j, i < j → j < k → bt i < bt j
section
variable {a W W' : World} {b : Nat} {rv rv' : Value} {k n : Nat} {z : Nat → Nat → Int} {bt ct : Nat → Nat}
theorem MQ.made {a : World} {b o : Nat} (hc : Cursor a b) (ho : a.heap.size = o) (n : Nat) (z : Nat → Nat → Int) (bt ct : Nat → Nat) : MQ a b (.slice (some ⟨o, 0, none⟩) 0 0) 0 n z bt ct (a.alloc (.cells #[] 24 (0, 0))) := by
  subst ho
  exact ⟨hc.alloc _, (Turns.refl _ _).alloc _, hc.lt, World.ownsRow_made a #[] 0 (Nat.le_refl _) (Nat.zero_le _) rfl, fun j hj => by omega, fun i j _ h => by omega⟩
theorem MQ.moved (h : MQ a b rv k n z bt ct W) (m : Moved b W W') : MQ a b rv k n z bt ct W' := by
  have keep : ∀ g, a.heap.size ≤ g → g < W.heap.size → W'.heap[g]? = W.heap[g]? := fun g h1 h2 => m.2.block g h2 (by have := h.lo; omega)
  exact ⟨m.1, h.trn.trans m.2, h.lo, row_block h.row (fun g hg => keep g (h.row.lt g hg).1 (h.row.lt g hg).2), fun j hj => row_block (h.t j hj) (fun g hg => keep g ((h.t j hj).lt g hg).1 ((h.t j hj).lt g hg).2), h.inc⟩
theorem MQ.alloc (h : MQ a b rv k n z bt ct W) (o : Obj) : MQ a b rv k n z bt ct (W.alloc o) := h.moved ⟨h.cur.alloc o, (Turns.refl _ _).alloc o⟩
theorem MQ.drew (h : MQ a b rv k n z bt ct W) : MQ a b rv k n z bt ct W.drew := h.moved ⟨h.cur.drew, (Turns.refl _ _).drew⟩
theorem MQ.drewN (h : MQ a b rv k n z bt ct W) : ∀ q, MQ a b rv k n z bt ct (W.drewN q)
  | 0 => h
  | q + 1 => (h.drewN q).drew
theorem MQ.snoc {v X : World} {o : Obj} {t1 c1 : Nat} {zz : Nat → Int} (h : MQ a b rv k n z bt ct v) (hc : Cursor X b) (hT : Turns b v X) (h1 : X.ownsRow v.heap.size 3 1 (.slice (some ⟨t1, 0, none⟩) n c1) n (intL zz n))
    (hown : W'.ownsRow a.heap.size 24 1 rv' (k + 1) (svs n bt ct k ++ [.slice (some ⟨t1, 0, none⟩) n c1])) (hg : (X.alloc o).grownBy W' rv.ownBlock) :
    MQ a b rv' (k + 1) n (ifm k zz z) (ifm k t1 bt) (ifm k c1 ct) W' := by
  have hav := h.trn.size
  have hlo := h.lo
  have hvX := hT.size
  have old : ∀ g, a.heap.size ≤ g → g < v.heap.size → rv.ownBlock ≠ some g → W'.heap[g]? = v.heap[g]? := fun g e1 e2 e3 => ((hg.block g (by simp; omega) (fun e => e3 e.symm)).trans (alloc_old X o (by omega))).trans (hT.block g e2 (by omega))
  have new : ∀ g, v.heap.size ≤ g → g < X.heap.size → W'.heap[g]? = X.heap[g]? := fun g e1 e2 => (hg.block g (by simp; omega) (fun e => by have := (h.row.lt g e.symm).2; omega)).trans (alloc_old X o e2)
  have n1 : W'.ownsRow a.heap.size 3 1 (.slice (some ⟨t1, 0, none⟩) n c1) n (intL zz n) := row_lower (row_block h1 (fun g hg2 => new g (h1.lt g hg2).1 (h1.lt g hg2).2)) hav
  have lt1 := (h1.lt t1 rfl).1
  refine ⟨hc.low ?_ ?_, ((h.trn.trans hT).alloc o).grown hg (fun r e => (h.row.lt r e).1), hlo, ?_, fun j hj => ?_, fun i j hi hj => ?_⟩
  · have := hg.size; simp at this; omega
  · intro g hgb
    exact (hg.block g (by have := hc.lt; simp; omega) (fun e => by have := (h.row.lt g e.symm).1; omega)).trans (alloc_old X o (by have := hc.lt; omega))
  · rw [show svs n (ifm k t1 bt) (ifm k c1 ct) (k + 1) = svs n bt ct k ++ [.slice (some ⟨t1, 0, none⟩) n c1] from ?_]
    · exact hown
    · simp only [svs, ifm_eq]
      congr 1
      exact svs_congr (fun j hj => by simp only [ifm_ne _ _ (show j ≠ k by omega)]; exact ⟨trivial, trivial⟩)
  · by_cases e : j = k
    · subst e; simp only [ifm_eq]; exact n1
    · simp only [ifm_ne _ _ e]
      have hj2 := h.t j (by omega)
      exact row_block hj2 (fun g hg2 => old g (hj2.lt g hg2).1 (hj2.lt g hg2).2 (own_neS hj2 h.row hg2))
  · have e2 : i ≠ k := by omega
    by_cases e : j = k
    · subst e
      simp only [ifm_eq, ifm_ne _ _ e2]
      have a1 := ((h.t i (by omega)).lt (bt i) rfl).2
      omega
    · simp only [ifm_ne _ _ e, ifm_ne _ _ e2]; exact h.inc i j hi (by omega)
/-- The lists' block. -/
theorem MQ.block {ra : Option Addr} {rc : Nat} (h : MQ a b (.slice ra k rc) k n z bt ct W) (hk : 0 < k) : ∃ g cs, ra = some ⟨g, 0, none⟩ ∧ CB W g cs 24 ∧ a.heap.size ≤ g ∧ k ≤ cs.size ∧ (∀ j, j < k → g ≠ bt j) ∧ ∀ j, j < k → cs[j]? = some (.slice (some ⟨bt j, 0, none⟩) n (ct j)) := by
  rcases h.row.2 with ⟨e, h0⟩ | ⟨g, c1, cur, e, hb, hC, h1, h2, h3, h4⟩
  · omega
  · simp only [Value.slice.injEq] at e
    obtain ⟨rfl, _, rfl⟩ := e
    refine ⟨g, cur, rfl, hC, hb, by omega, fun j hj => ?_, fun j hj => ?_⟩
    · intro e
      exact own_neS (h.t j hj) h.row rfl (by rw [e]; rfl)
    · have hq := svs_get (n := n) (bt := bt) (ct := ct) hj
      have h5 : (cur.toList.take (k * 1))[j]? = some (.slice (some ⟨bt j, 0, none⟩) n (ct j)) := by rw [← h4] at hq; exact hq
      rw [List.getElem?_take] at h5
      split at h5
      · simpa using h5
      · cases h5
theorem MQ.sr {ra : Option Addr} {rc : Nat} (h : MQ a b (.slice ra k rc) k n z bt ct W) : SR W ra k (fun _ => n) z := by
  by_cases hk : 0 < k
  · obtain ⟨g, cs, rfl, hC, _, _, _, hcs⟩ := h.block hk
    exact .inr ⟨g, 0, rfl, hC.lt, fun j hj => ⟨_, _, by rw [Nat.zero_add]; exact (hC.cell j).trans (hcs j hj), row_IR (h.t j hj) (fun i hi => intL_get hi)⟩⟩
  · exact .inl (by omega)
/-- One number of one list turned. -/
theorem MQ.put {ra : Option Addr} {rc : Nat} (h : MQ a b (.slice ra k rc) k n z bt ct W) {j0 i0 : Nat} (hj : j0 < k) (hi : i0 < n) (x : Int) : MQ a b (.slice ra k rc) k n (ifm j0 (upd (z j0) i0 x) z) bt ct (W.setCell ⟨bt j0, i0, none⟩ (.int .i64 x)) := by
  have ht := h.t j0 hj
  have l1 := (ht.lt (bt j0) rfl).1
  have hlo := h.lo
  refine ⟨h.cur.setM _ (by omega), h.trn.setM _ l1, hlo, row_block h.row (fun g hg => heap_set (fun e => own_neS ht h.row (g := bt j0) rfl (by rw [hg, e]))), fun j hj2 => ?_, h.inc⟩
  by_cases e : j = j0
  · subst e
    simp only [ifm_eq]
    exact (row_putI ht hi x).2.2
  · simp only [ifm_ne _ _ e]
    refine row_block (h.t j hj2) (fun g hg => heap_set (fun e2 => ?_))
    have e3 : bt j = g := Option.some.inj hg
    rcases Nat.lt_or_ge j j0 with q | q
    · have := h.inc j j0 q hj; omega
    · have := h.inc j0 j (by omega) hj2; omega
/-- One list cut. -/
theorem MQ.cut {g rc : Nat} (h : MQ a b (.slice (some ⟨g, 0, none⟩) k rc) k n z bt ct W) {j0 q cp : Nat} {ad : Option Addr} {zz : Nat → Int} (hj : j0 < k) (hI : ∀ W' : World, (W'.heap[bt j0]? = W.heap[bt j0]?) → W.heap.size ≤ W'.heap.size → IR W' ad q zz) : SR (W.setCell ⟨g, j0, none⟩ (.slice ad q cp)) (some ⟨g, 0, none⟩) k (ifm j0 q (fun _ => n)) (ifm j0 zz z) ∧ Turns b a (W.setCell ⟨g, j0, none⟩ (.slice ad q cp)) := by
  obtain ⟨g', cs, e, hC, hag, hks, hne, hcs⟩ := h.block (by omega)
  cases e
  have hC2 := hC.set j0 (.slice ad q cp)
  refine ⟨.inr ⟨g, 0, rfl, hC2.lt, fun j hj2 => ?_⟩, h.trn.setM _ hag⟩
  by_cases e : j = j0
  · subst e
    simp only [ifm_eq]
    refine ⟨ad, cp, ?_, hI _ (heap_set (fun e2 => hne j hj e2.symm)) (by simp [World.setCell])⟩
    rw [Nat.zero_add, hC2.cell j]
    exact get_set_eq (by omega)
  · simp only [ifm_ne _ _ e]
    refine ⟨some ⟨bt j, 0, none⟩, ct j, ?_, row_IR (row_block (h.t j hj2) (fun q2 hq => heap_set (fun e2 => hne j hj2 (by have e3 : bt j = q2 := Option.some.inj hq; omega)))) (fun i hi => intL_get hi)⟩
    rw [Nat.zero_add, hC2.cell j]
    exact (get_set_ne (by omega)).trans (hcs j hj2)
end
/-- One number of a row that is being drawn turned. -/
theorem DR.put {w W : World} {b g n cap i : Nat} {z : Nat → Int} (h : DR w b (.slice (some ⟨g, 0, none⟩) n cap) n z W) (hi : i < n) (x : Int) : DR w b (.slice (some ⟨g, 0, none⟩) n cap) n (upd z i x) (W.setCell ⟨g, i, none⟩ (.int .i64 x)) := by
  have l1 := (h.row.lt g rfl).1
  have hlo := h.lo
  exact ⟨h.cur.setM _ (by omega), h.trn.setM _ l1, (row_putI h.row hi x).2.2, hlo⟩
end Go.Proofs.Ytjlniinahfgakaa

namespace Go.Proofs.Ytjlniinahfgakaa
open Go Go.ChangeShapes Go.WideShapes Go.ChangeAt Go.RowKit
set_option linter.unusedVariables false
set_option linter.unusedSimpArgs false

theorem made_zeros2 {base : Nat} (w : World) (n : Nat) (hb : base ≤ w.heap.size) (hn : n ≤ 200) : (w.alloc (.cells (zeros n) 3 (0, 0))).ownsRow base 3 1 (.slice (some ⟨w.heap.size, 0, none⟩) n n) n (intL (fun _ => 0) n) := by
  refine ⟨by rw [intL_len]; omega, .inr ⟨w.heap.size, n, zeros n, rfl, hb, heap_alloc_new w _, Nat.le_refl _, by unfold maxLen; omega, by rw [zeros_size]; omega, ?_⟩⟩
  apply List.ext_getElem?
  intro j
  rw [List.getElem?_take]
  by_cases h : j < n
  · rw [if_pos (by omega), intL_get h]
    simp [zeros, madeCells, h, Nat.mod_one]
  · rw [if_neg (by omega), List.getElem?_eq_none (by rw [intL_len]; omega)]
theorem set_new (w : World) (cs : Array Value) (t : TypeId) (j : Nat) (v : Value) : (w.alloc (.cells cs t (0, 0))).setCell ⟨w.heap.size, j, none⟩ v = w.alloc (.cells (cs.setIfInBounds j v) t (0, 0)) := by
  first
    | (simp [go_sem]; done)
    | (go_simp; done)
    | (unfold World.setCell World.alloc; simp [Array.modify, Array.push]; done)
theorem shOk_of {n : Nat} {z : Nat → Int} (hn : n ≤ 200) (hz : ∀ j, j < n → 0 ≤ z j ∧ z j ≤ 10000000) {p : Nat} (hp : p < n) (h1 : 1 ≤ z p) : ShOk 100 n z := by
  refine ⟨by omega, hn, hz, ?_⟩
  have H : ∀ k, k ≤ n → 0 ≤ sm z k ∧ (p < k → 1 ≤ sm z k) := by
    intro k
    induction k with
    | zero => intro _; exact ⟨by simp [sm], fun h => by omega⟩
    | succ k ih =>
      intro hk
      have h := ih (by omega)
      have := hz k (by omega)
      rw [sm_succ]
      refine ⟨by omega, fun hpk => ?_⟩
      by_cases e : p = k
      · subst e; omega
      · have := h.2 (by omega); omega
  have := (H n (Nat.le_refl _)).2 hp
  omega
theorem shares100 {X : World} {ad : Option Addr} {n cap : Nat} {z : Nat → Int} (hn : n ≤ 200) (hr : IR X ad n z) (h : ShOk 100 n z) (h0 : 0 < n) :
    Calls Try.prog 12 #[.int .i64 100, .slice ad n cap] X fun e w' => ∃ (t1 c1 : Nat) (zz : Nat → Int), e = .returned (.slice (some ⟨t1, 0, none⟩) n c1) ∧ w'.ownsRow X.heap.size 3 1 (.slice (some ⟨t1, 0, none⟩) n c1) n (intL zz n) ∧ Below X.heap.size X w' := by
  refine (specShares_any 100 ad n cap z X (by omega) hr).mono ?_
  rintro e w' ⟨a2, c2, rfl, ho, hb⟩
  rw [shM_ok h] at ho ⊢
  obtain ⟨g, c3, e, _, _, _⟩ := row_get ho (j := 0) h0
  simp only [Value.slice.injEq] at e
  obtain ⟨rfl, _, rfl⟩ := e
  exact ⟨g, c2, _, rfl, ho, hb⟩
/-- What l7DrawMutual hands back. -/
def MuE (w : World) (b : Nat) (e : Ending) (w' : World) : Prop := ∃ (ca : Option Addr) (N cc : Nat) (c : Nat → Int) (sv : Int) (ad : Option Addr) (m cap : Nat) (ln : Nat → Nat) (z : Nat → Nat → Int), e = .returned (.tuple #[.slice ca N cc, .int .i64 sv, .slice ad m cap]) ∧ ((N : Int) ≤ 1048576 ∧ (m : Int) ≤ 1048576 ∧ ∀ j, j < m → (ln j : Int) ≤ 1048576) ∧ IR w' ca N c ∧ SR w' ad m ln z ∧ Turns b w w'
theorem upd_all {z : Nat → Int} {n i : Nat} {x lo hi : Int} (h : ∀ j, j < n → lo ≤ z j ∧ z j ≤ hi) (hx : lo ≤ x ∧ x ≤ hi) : ∀ j, j < n → lo ≤ upd z i x j ∧ upd z i x j ≤ hi := fun j hj => by
  by_cases e : j = i
  · rw [e, upd_eq]; exact hx
  · rw [upd_ne e]; exact h j hj

set_option maxRecDepth 20000 in
set_option maxHeartbeats 8000000 in
theorem drawMutualC_any (b : Nat) (w : World) (hc : Cursor w b) :
    Calls Try.prog 62 #[.pointer (some ⟨b, 0, none⟩)] w (MuE w b) := by
  have M0 : Hid (Moved b w w) := Moved.refl hc
  obtain ⟨iS, hiS, hzS0, hzS1, hzS2⟩ := infoS
  clear hc
  have tok1 : True := trivial
  go_enter Try.func62, Try.ntmps62
  go_wp2_with (first
    | (go_at_call 37; clear tok1; refine (below_any b _ _ M0.out.1).mono ?_; rintro e w1 ⟨x, rfl, x0, x1, x2, m1⟩; have hx : x ≤ 2 := (by have := x1 (by omega); omega); have M1 : Hid (Moved b w w1) := m1; obtain ⟨s, hs⟩ : ∃ s : Nat, 1 + x = (s : Int) := ⟨(1 + x).toNat, (by omega)⟩; have hs3 : s ≤ 3 := (by omega); have hs1 : 1 ≤ s := (by omega); clear m1 x1 x2 M0)
    | (go_at_call 37; refine (below_any b _ _ M1.out.1).mono ?_; rintro e w2 ⟨y, rfl, y0, y1, y2, m2⟩; have hy : y ≤ 3 := (by have := y1 (by omega); omega); have M2 : Hid (Moved b w w2) := M1.out.trans m2; obtain ⟨n, hn⟩ : ∃ n : Nat, (s : Int) + 1 + y = (n : Int) := ⟨((s : Int) + 1 + y).toNat, (by omega)⟩; have hn8 : n ≤ 8 := (by omega); have hsn : s < n := (by omega); clear m2 y1 y2 M1)
    | (go_at_call 54; refine (costs_any b n _ M2.out.1 (by omega)).mono ?_; rintro e a ⟨ca, cc, c, rfl, d3⟩; have HD3 : Hid (DR w2 b (.slice ca n cc) n c a) := d3; clear d3))
  clear hs hn
  have HQ0 : Hid (MQ a b (.slice (some ⟨a.heap.size, 0, none⟩) 0 0) 0 n (fun _ _ => 0) (fun _ => 0) (fun _ => 0) (a.alloc (.cells #[] 24 (0, 0)))) := MQ.made HD3.out.cur rfl n _ _ _
  have HCI : Hid (∀ W, Turns b a W → IR W ca n c ∧ Turns b w W) := fun W t => ⟨row_IR (row_block HD3.out.row (fun g hg => t.block g (HD3.out.row.lt g hg).2 (by have h1 := (HD3.out.row.lt g hg).1; have h2 := HD3.out.lo; omega))) (fun j hj => intL_get hj), (M2.out.2.trans HD3.out.trn).trans t⟩
  have hs1i : (1 : Int) ≤ (s : Int) := by omega
  have hs3i : (s : Int) ≤ 3 := by omega
  have hn8i : (n : Int) ≤ 8 := by omega
  have hsni : (s : Int) < (n : Int) := by omega
  obtain ⟨p, hp⟩ : ∃ p : Nat, n = p + 1 := ⟨n - 1, by omega⟩
  have hpn : p < n := by omega
  have hp1 : (n : Int) - 1 = (p : Int) := by omega
  have hp2 : (p : Int) < (n : Int) := by omega
  have hp8 : (p : Int) ≤ 7 := by omega
  clear hp M2 HD3 x0 hx y0 hy
  go_loopw [8, 9] (fun u v wr => ∃ (i : Nat) (ra : Option Addr) (rc : Nat) (z : Nat → Nat → Int) (bt ct : Nat → Nat), v = .int .i64 (i : Int) ∧ u = .slice ra i rc ∧ i ≤ s ∧ Hid (MQ a b (.slice ra i rc) i n z bt ct wr)) (fun _ v _ => s - (intOf v).toNat)
  case atStart => exact ⟨0, _, _, _, _, _, rfl, rfl, Nat.zero_le _, HQ0⟩
  case round =>
    clear HQ0
    obtain ⟨i, ra, rc, z, bt, ct, rfl, rfl, hi, HQ⟩ := hrel
    obtain ⟨v0, hv0⟩ : ∃ v0, v0 = wr := ⟨_, rfl⟩
    subst hv0
    by_cases his : i < s
    case neg =>
      obtain rfl : i = s := by omega
      have lkk : ¬ (i : Int) < (i : Int) := by omega
      have HFIN : Hid (∀ (W : World) (sv : Int) (ln : Nat → Nat) (z' : Nat → Nat → Int), Turns b a W → SR W ra i ln z' → (∀ j, j < i → (ln j : Int) ≤ 1048576) → MuE w b (.returned (.tuple #[.slice ca n cc, .int .i64 sv, .slice ra i rc])) W) := fun W sv ln z' t sr hb => ⟨ca, n, cc, c, sv, ra, i, rc, ln, z', rfl, ⟨by omega, by omega, hb⟩, (HCI.out W t).1, sr, (HCI.out W t).2⟩
      have HF0 : Hid (∀ (W : World) (sv : Int) (z' : Nat → Nat → Int), MQ a b (.slice ra i rc) i n z' bt ct W → MuE w b (.returned (.tuple #[.slice ca n cc, .int .i64 sv, .slice ra i rc])) W) := fun W sv z' q => HFIN.out W sv _ z' q.trn q.sr (fun j hj => by show (n : Int) ≤ 1048576; omega)
      obtain ⟨g, cs0, rfl, _⟩ := HQ.out.block (by omega)
      have tok2 : True := trivial
      go_wp2_with (first
        | (go_at_call 39; refine (once_any b _ _ HQ.out.cur).mono ?_; rintro e W1 ⟨yb, rfl, m1⟩; have HQ1 : Hid (MQ a b (.slice (some ⟨g, 0, none⟩) i rc) i n z bt ct W1) := HQ.out.moved m1; clear m1; cases yb)
        | (go_at_call 37; clear tok2; refine (below_any b _ _ HQ1.out.cur).mono ?_; rintro e W2 ⟨q0, rfl, q1, q2, q3, m2⟩; have HQ2 : Hid (MQ a b (.slice (some ⟨g, 0, none⟩) i rc) i n z bt ct W2) := HQ1.out.moved m2; obtain ⟨j0, rfl⟩ : ∃ j0 : Nat, q0 = (j0 : Int) := ⟨q0.toNat, (by omega)⟩; have hj0 : j0 < i := (by have := q2 (by omega); omega); have hj0i : (j0 : Int) < (i : Int) := (by omega); have hj0n : j0 < n := (by omega); have hj0ni : (j0 : Int) < (n : Int) := (by omega); clear m2 q1 q2 q3)
        | (go_at_call 37; refine (below_any b _ _ HQ2.out.cur).mono ?_; rintro e W3 ⟨q5, rfl, q1, q2, q3, m3⟩; have HQ3 : Hid (MQ a b (.slice (some ⟨g, 0, none⟩) i rc) i n z bt ct W3) := HQ2.out.moved m3; have hq5 : q5 ≤ 3 := (by have := q2 (by omega); omega); obtain ⟨g', cs, eg, hC, hag, hks, hne, hcs⟩ := HQ3.out.block (by omega); cases eg; have g0 := (hC.cell j0).trans (hcs j0 hj0); have gf := hC.fr j0; have hcap : n ≤ ct j0 := own_capM (HQ3.out.t j0 hj0); have hn1c : (1 : Int) ≤ (n : Int) := (by omega); have hncap : (n : Int) ≤ (ct j0 : Int) := (by omega); have hgb : g ≠ bt j0 := hne j0 hj0; have hbg : bt j0 ≠ g := fun e => hgb e.symm; clear m3 q2 q3 hC hag hks hne hcs; rcases (show q5 = 0 ∨ q5 = 1 ∨ q5 = 2 ∨ q5 = 3 by omega) with rfl | rfl | rfl | rfl)
        | (go_at_call 40; refine (pick_any b _ [0, 4, (i : Int) + 1] 3 3 _ (HQ3.out.alloc _).cur (IntRow.made HQ3.out.cur.lt _ _ _ rfl) rfl (by decide) (by decide)).mono ?_; rintro e W4 ⟨p4, rfl, hp4, m4⟩; have HQ4 : Hid (MQ a b (.slice (some ⟨g, 0, none⟩) i rc) i n z bt ct W4) := (HQ3.out.alloc _).moved m4; clear m4 hp4))
      · go_returns
        exact HF0.out _ _ _ HQ1.out
      · have HQd : Hid (MQ a b (.slice (some ⟨g, 0, none⟩) i rc) i n z bt ct W3.drew) := HQ3.out.drew
        go_region_with (first
          | (go_at_call 37; refine (below_any b _ _ HQd.out.cur).mono ?_; rintro e W4 ⟨q0, rfl, q1, q2, q3, m4⟩; have HQ4 : Hid (MQ a b (.slice (some ⟨g, 0, none⟩) i rc) i n z bt ct W4) := HQd.out.moved m4; obtain ⟨j9, rfl⟩ : ∃ j9 : Nat, q0 = (j9 : Int) := ⟨q0.toNat, (by omega)⟩; have hj9 : j9 < n := (by have := q2 (by omega); omega); have hj9i : (j9 : Int) < (n : Int) := (by omega); obtain ⟨g', cs, eg, hC, hag, hks, hne, hcs⟩ := HQ4.out.block (by omega); cases eg; have g4 := (hC.cell j0).trans (hcs j0 hj0); have r4 := row_putI (HQ4.out.t j0 hj0) hj9 0; have c4 := r4.1; have f4 := r4.2.1; clear m4 q1 q2 q3 hC hag hks hne hcs r4))
        all_goals
          go_wp2
          go_returns
          exact HF0.out _ _ _ (HQ4.out.put hj0 hj9 _)
      · go_returns
        have hI : ∀ W' : World, W'.heap[bt j0]? = W3.heap[bt j0]? → W3.heap.size ≤ W'.heap.size → IR W' (some ⟨bt j0, 1, none⟩) (n - 1) (fun q => z j0 (q + 1)) := fun W' h1 h2 => by
          have hI : IR W' (some ⟨bt j0, 0, none⟩) n (z j0) := row_IR (row_block (HQ3.out.t j0 hj0) (fun q hq => by have e3 : bt j0 = q := Option.some.inj hq; rw [← e3]; exact h1)) (fun q hq => intL_get hq)
          refine .inr ⟨bt j0, 1, rfl, by have := ((HQ3.out.t j0 hj0).lt (bt j0) rfl).2; omega, fun q hq => ?_⟩
          have := hI.cell (j := q + 1) (by omega)
          rw [show 1 + q = 0 + (q + 1) by omega]
          exact this
        have hX := HQ3.out.cut (cp := ct j0 - 1) hj0 hI
        exact HFIN.out _ _ _ _ hX.2 hX.1 (fun j hj => by
          by_cases e : j = j0
          · rw [e, ifm_eq]; omega
          · rw [ifm_ne _ _ e]; omega)
      · go_returns
        exact HF0.out _ _ _ HQ4.out
      · have r4 := row_putI (HQ3.out.t j0 hj0) hj0n 0
        have c4 := r4.1
        have f4 := r4.2.1
        obtain ⟨za, hza⟩ : ∃ za, z j0 j0 = za := ⟨_, rfl⟩
        rw [hza] at c4
        clear r4 hza
        go_region
        have HQ4 : Hid (MQ a b (.slice (some ⟨g, 0, none⟩) i rc) i n (ifm j0 (upd (z j0) j0 (wrap64 (za + 1))) z) bt ct ((W3.setCell ⟨bt j0, j0, none⟩ (.int .i64 (wrap64 (za + 1)))).drew)) := (HQ3.out.put hj0 hj0n _).drew
        obtain ⟨zz4, hzz4⟩ : ∃ zz4, ifm j0 (upd (z j0) j0 (wrap64 (za + 1))) z = zz4 := ⟨_, rfl⟩
        rw [hzz4] at HQ4
        generalize ((W3.setCell ⟨bt j0, j0, none⟩ (.int .i64 (wrap64 (za + 1)))).drew) = W4 at HQ4 ⊢
        clear hzz4 c4 f4 g0 gf
        obtain ⟨g', cs4, eg, hC, hag, hks, hne, hcs⟩ := HQ4.out.block (by omega)
        cases eg
        have g0 := (hC.cell j0).trans (hcs j0 hj0)
        have gf := hC.fr j0
        have r4 := row_putI (HQ4.out.t j0 hj0) hpn 0
        have c4 := r4.1
        have f4 := r4.2.1
        obtain ⟨zb, hzb⟩ : ∃ zb, zz4 j0 p = zb := ⟨_, rfl⟩
        rw [hzb] at c4
        have hpw : wrap64 ((n : Int) - 1) = (p : Int) := by rw [hp1]; first | exact wrap64_in (p : Int) ⟨by omega, by omega⟩ | (unfold wrap64; omega) | (simp only [wrap64]; exact IntWalk.i64_in (p : Int) ⟨by omega, by omega⟩)
        clear r4 hzb hC hag hks hne hcs
        go_wp2
        go_region
        go_wp2
        go_returns
        exact HF0.out _ _ _ (HQ4.out.put hj0 hpn _).drew
    have hisi : (i : Int) < (s : Int) := by omega
    have hin : i < n := by omega
    have hini : (i : Int) < (n : Int) := by omega
    go_wp2_with (go_at_call 43; refine (weights_any b n _ HQ.out.cur (by omega)).mono ?_; rintro e X1 ⟨adw, capw, zw, rfl, d1, hzw⟩; obtain ⟨gw, cw1, ew, _⟩ := row_get d1.row (j := 0) (by omega); simp only [Value.slice.injEq] at ew; obtain ⟨rfl, _, rfl⟩ := ew; have HD1 : Hid (DR v0 b (.slice (some ⟨gw, 0, none⟩) n capw) n zw X1 ∧ ∀ j, j < n → -1 ≤ zw j ∧ zw j ≤ 10000001) := ⟨d1, hzw⟩; clear d1 hzw)
    go_loopw [11] (fun v X => ∃ (k : Nat) (zz : Nat → Int), v = .int .i64 (k : Int) ∧ k ≤ n ∧ Hid (DR v0 b (.slice (some ⟨gw, 0, none⟩) n capw) n zz X ∧ (∀ j, j < n → -1 ≤ zz j ∧ zz j ≤ 10000001) ∧ ∀ j, j < k → 0 ≤ zz j ∧ zz j ≤ 50)) (fun v _ => n - (intOf v).toNat)
    case atStart => exact ⟨0, zw, rfl, Nat.zero_le _, HD1.out.1, HD1.out.2, fun j hj => by omega⟩
    case round =>
      clear HD1
      obtain ⟨k, zz, rfl, hk, HD⟩ := hrel
      by_cases hkn : k < n
      case neg =>
        obtain rfl : k = n := by omega
        have lkk : ¬ (k : Int) < (k : Int) := by omega
        -- the row as it is now
        obtain ⟨zi, hzi⟩ : ∃ zi, zz i = zi := ⟨_, rfl⟩
        have r1 := row_putI HD.out.1.row hin 0
        have c1 := r1.1
        have f1 := r1.2.1
        rw [hzi] at c1
        have HD2 : Hid (DR v0 b (.slice (some ⟨gw, 0, none⟩) k capw) k (upd zz i 0) (wr.setCell ⟨gw, i, none⟩ (.int .i64 0))) := HD.out.1.put hin 0
        have hzp : 0 ≤ upd zz i 0 p ∧ upd zz i 0 p ≤ 50 := upd_all (n := k) HD.out.2.2 (by omega) p hpn
        obtain ⟨zp, hzpe⟩ : ∃ zp, upd zz i 0 p = zp := ⟨_, rfl⟩
        have r2 := row_putI HD2.out.row hpn (zp + 1)
        have c2 := r2.1
        have f2 := r2.2.1
        rw [hzpe] at c2 hzp
        have HD3 : Hid (DR v0 b (.slice (some ⟨gw, 0, none⟩) k capw) k (upd (upd zz i 0) p (zp + 1)) ((wr.setCell ⟨gw, i, none⟩ (.int .i64 0)).setCell ⟨gw, p, none⟩ (.int .i64 (zp + 1)))) := HD2.out.put hpn (zp + 1)
        obtain ⟨zp0, zp1⟩ := hzp
        have HOK : Hid (ShOk 100 k (upd (upd zz i 0) p (zp + 1))) := shOk_of (by omega) (fun j hj => by have := upd_all (n := k) (upd_all (z := zz) (n := k) (i := i) (x := 0) (lo := 0) (hi := 51) (fun j hj => by have := HD.out.2.2 j hj; omega) (by omega)) (i := p) (x := zp + 1) (lo := 0) (hi := 51) (by omega) j hj; omega) hpn (by rw [upd_eq]; omega)
        clear hzi hzpe r1 r2 HD
        by_cases hs2 : 1 < s
        · have hs2i : (1 : Int) < (s : Int) := by omega
          obtain ⟨j1, hj1, hj1s⟩ : ∃ j1 : Nat, ((i : Int) + 1) % (s : Int) = (j1 : Int) ∧ j1 < s := ⟨(((i : Int) + 1) % (s : Int)).toNat, by have := Int.emod_nonneg ((i : Int) + 1) (show (s : Int) ≠ 0 by omega); omega, by have := Int.emod_nonneg ((i : Int) + 1) (show (s : Int) ≠ 0 by omega); have := Int.emod_lt_of_pos ((i : Int) + 1) (show (0 : Int) < (s : Int) by omega); omega⟩
          have hj1n : j1 < k := by omega
          have hj1i : (j1 : Int) < (k : Int) := by omega
          have hmk := mkI k (by omega)
          go_wp2_with (first
            | (go_at_call 39; refine (once_any b _ _ HD3.out.cur).mono ?_; rintro e X4 ⟨yb, rfl, m4⟩; have HD4 : Hid (DR v0 b (.slice (some ⟨gw, 0, none⟩) k capw) k (upd (upd zz i 0) p (zp + 1)) X4) := HD3.out.moved m4; clear m4; have HZ : Hid (DR v0 b (.slice (some ⟨X4.heap.size, 0, none⟩) k k) k (fun _ => 0) (X4.alloc (.cells (zeros k) 3 (0, 0)))) := ⟨HD4.out.cur.alloc _, HD4.out.trn.alloc _, made_zeros2 X4 k HD4.out.trn.size (by omega), HD4.out.lo⟩; have r5 := row_putI HZ.out.row hj1n 1; have c5 := r5.1; have f5 := r5.2.1; have HZ2 : Hid (DR v0 b (.slice (some ⟨X4.heap.size, 0, none⟩) k k) k (upd (fun _ => 0) j1 1) (X4.alloc (.cells ((zeros k).setIfInBounds j1 (.int .i64 1)) 3 (0, 0)))) := (set_new X4 (zeros k) 3 j1 (.int .i64 1)) ▸ HZ.out.put hj1n 1; clear r5; cases yb)
            | (go_at_call_of 12 gw; refine (shares100 (z := upd (upd zz i 0) p (zp + 1)) (by omega) HD4.out.ir HOK.out (by omega)).mono ?_; rintro e X6 ⟨t1, c1', zs, rfl, o6, b6⟩; have HO6 : Hid (X6.ownsRow v0.heap.size 3 1 (.slice (some ⟨t1, 0, none⟩) k c1') k (intL zs k)) := row_lower o6 HD4.out.trn.size; have HC6 : Hid (Cursor X6 b ∧ Turns b v0 X6) := ⟨HD4.out.cur.low b6.size (fun q hq => b6.block q (by have := HD4.out.cur.lt; omega)), HD4.out.trn.trans (Turns.of_below b6)⟩; have hs6 := HC6.out.2.size; have hva := HQ.out.trn.size; clear o6 b6)
            | (go_at_call 12; go_loud (refine (shares100 (z := upd (fun _ => 0) j1 1) (by omega) HZ2.out.ir (shOk_of (by omega) (fun j hj => by have := upd_all (n := k) (z := fun _ => 0) (i := j1) (x := 1) (lo := 0) (hi := 1) (fun _ _ => by omega) (by omega) j hj; omega) hj1n (by rw [upd_eq]; omega)) (by omega)).mono ?_; rintro e X6 ⟨t1, c1', zs, rfl, o6, b6⟩; have HO6 : Hid (X6.ownsRow v0.heap.size 3 1 (.slice (some ⟨t1, 0, none⟩) k c1') k (intL zs k)) := row_lower o6 HZ2.out.trn.size; have HC6 : Hid (Cursor X6 b ∧ Turns b v0 X6) := ⟨HZ2.out.cur.low b6.size (fun q hq => b6.block q (by have := HZ2.out.cur.lt; omega)), HZ2.out.trn.trans (Turns.of_below b6)⟩; have hs6 := HC6.out.2.size; have hva := HQ.out.trn.size; clear o6 b6))
            | (at_builtin; go_loud (refine wpList_append_own_at _ rfl _ _ 37 rfl a.heap.size 24 iS (.slice none 0 0) 1 24 Try.underlying37 hiS hzS0 hzS1 hzS2 rfl (by decide) (.slice ra i rc) i (svs k bt ct i) rfl (row_block HQ.out.row (fun q hq => ((alloc_old X6 _ (by have := (HQ.out.row.lt q hq).2; omega)).trans (HC6.out.2.block q (HQ.out.row.lt q hq).2 (by have := (HQ.out.row.lt q hq).1; have := HQ.out.lo; omega))))) ⟨X6.heap.size, 0, none⟩ 1 1 [.slice (some ⟨t1, 0, none⟩) k c1'] rfl rfl (cell_one_at rfl) (fun u hu => by simp at hu; subst hu; rfl) (by unfold maxLen; omega) (by omega) (by simp; omega) ?_; intro v' w9 hown9 hgrow9 _ hloc9; obtain ⟨ad9, cap9, rfl⟩ := row_form hown9; have HN9 : Hid (MQ a b (.slice ad9 (i + 1) cap9) (i + 1) k (ifm i zs z) (ifm i t1 bt) (ifm i c1' ct) w9) := HQ.out.snoc HC6.out.1 HC6.out.2 HO6.out hown9 hgrow9; clear hown9 hgrow9 hloc9)))
          all_goals
            go_roundw
            case rel => exact ⟨i + 1, _, _, _, _, _, by go_num, rfl, by omega, HN9⟩
            case measure => simp [intOf]; omega
        · have hs2i : ¬ (1 : Int) < (s : Int) := by omega
          go_wp2_with (first
            | (go_at_call 12; refine (shares100 (z := upd (upd zz i 0) p (zp + 1)) (by omega) HD3.out.ir HOK.out (by omega)).mono ?_; rintro e X6 ⟨t1, c1', zs, rfl, o6, b6⟩; have HO6 : Hid (X6.ownsRow v0.heap.size 3 1 (.slice (some ⟨t1, 0, none⟩) k c1') k (intL zs k)) := row_lower o6 HD3.out.trn.size; have HC6 : Hid (Cursor X6 b ∧ Turns b v0 X6) := ⟨HD3.out.cur.low b6.size (fun q hq => b6.block q (by have := HD3.out.cur.lt; omega)), HD3.out.trn.trans (Turns.of_below b6)⟩; have hs6 := HC6.out.2.size; have hva := HQ.out.trn.size; clear o6 b6)
            | (at_builtin; go_loud (refine wpList_append_own_at _ rfl _ _ 37 rfl a.heap.size 24 iS (.slice none 0 0) 1 24 Try.underlying37 hiS hzS0 hzS1 hzS2 rfl (by decide) (.slice ra i rc) i (svs k bt ct i) rfl (row_block HQ.out.row (fun q hq => ((alloc_old X6 _ (by have := (HQ.out.row.lt q hq).2; omega)).trans (HC6.out.2.block q (HQ.out.row.lt q hq).2 (by have := (HQ.out.row.lt q hq).1; have := HQ.out.lo; omega))))) ⟨X6.heap.size, 0, none⟩ 1 1 [.slice (some ⟨t1, 0, none⟩) k c1'] rfl rfl (cell_one_at rfl) (fun u hu => by simp at hu; subst hu; rfl) (by unfold maxLen; omega) (by omega) (by simp; omega) ?_; intro v' w9 hown9 hgrow9 _ hloc9; obtain ⟨ad9, cap9, rfl⟩ := row_form hown9; have HN9 : Hid (MQ a b (.slice ad9 (i + 1) cap9) (i + 1) k (ifm i zs z) (ifm i t1 bt) (ifm i c1' ct) w9) := HQ.out.snoc HC6.out.1 HC6.out.2 HO6.out hown9 hgrow9; clear hown9 hgrow9 hloc9)))
          go_roundw
          case rel => exact ⟨i + 1, _, _, _, _, _, by go_num, rfl, by omega, HN9⟩
          case measure => simp [intOf]; omega
      have hkni : (k : Int) < (n : Int) := by omega
      have HZ0 := HD.out.2.1 k hkn
      obtain ⟨zk, hzk⟩ : ∃ zk, zz k = zk := ⟨_, rfl⟩
      have r1 := row_putI HD.out.1.row hkn 3
      have c1 := r1.1
      have f1 := r1.2.1
      rw [hzk] at c1 HZ0
      obtain ⟨zk0, zk1⟩ := HZ0
      have HP : Hid (DR v0 b (.slice (some ⟨gw, 0, none⟩) n capw) n (upd zz k 3) (wr.setCell ⟨gw, k, none⟩ (.int .i64 3)) ∧ (∀ j, j < n → -1 ≤ upd zz k 3 j ∧ upd zz k 3 j ≤ 10000001) ∧ ∀ j, j < k + 1 → 0 ≤ upd zz k 3 j ∧ upd zz k 3 j ≤ 50) := ⟨HD.out.1.put hkn 3, upd_all HD.out.2.1 (by omega), upd_bd HD.out.2.2 (by omega)⟩
      have HK : Hid (0 ≤ zk → zk ≤ 50 → ∀ j, j < k + 1 → 0 ≤ zz j ∧ zz j ≤ 50) := fun h1 h2 j hj => by
        by_cases e : j = k
        · rw [e, hzk]; omega
        · exact HD.out.2.2 j (by omega)
      clear r1 hzk
      by_cases ha : zk < 0
      · go_wp2
        go_roundw
        case rel => exact ⟨k + 1, _, by go_num, by omega, HP⟩
        case measure => simp [intOf]; omega
      · by_cases hb : 50 < zk
        · go_wp2
          go_roundw
          case rel => exact ⟨k + 1, _, by go_num, by omega, HP⟩
          case measure => simp [intOf]; omega
        · go_wp2
          go_roundw
          case rel => exact ⟨k + 1, zz, by go_num, by omega, HD.out.1, HD.out.2.1, HK.out (by omega) (by omega)⟩
          case measure => simp [intOf]; omega
end Go.Proofs.Ytjlniinahfgakaa
