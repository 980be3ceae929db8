/- The stable sort and Shares, part of it. -/
import Derived.WalkKit
import Derived.ProofKit
import Derived.Below
import Derived.OneCell
import Derived.Handy
import Derived.BigQuiet
import Derived.Test.YtgnhpjlfdkpaiaaDoorProg
import Derived.WalkLawsBesides
import Derived.Outline
import Derived.Laws.MakeOwn
import Derived.Laws.OwnMore
import Derived.WalkSpells
import Derived.Deep.QuietTactic
import Derived.Deep.RegionWith
import Derived.Deep.DeepFit
import Derived.Lib.SmallJoins
import Derived.Deep.RegionHeld3
import Derived.BigRegion
namespace Go.Proofs.YtgnhpjlfdkpaiaaDoor.Sh
open Go.RowKit
set_option linter.unusedVariables false

/-- Block b holds these cells. -/
def CB (w : World) (b : Nat) (cs : Array Value) (t : TypeId) : Prop := w.heap[b]? = some (.cells cs t (0, 0))

section
variable {w w' : World} {b : Nat} {cs : Array Value} {t : TypeId}
theorem CB.lt (H : CB w b cs t) : b < w.heap.size := lt_of_block H
theorem CB.cell (H : CB w b cs t) (o : Nat) : w.cell? ⟨b, o, none⟩ = cs[o]? := by unfold CB at H; simp [World.cell?, H]
theorem CB.fr (H : CB w b cs t) (o : Nat) : w.frozen? ⟨b, o, none⟩ = false := by unfold CB at H; simp [World.frozen?, H]
theorem CB.set (H : CB w b cs t) (o : Nat) (v : Value) : CB (w.setCell ⟨b, o, none⟩ v) b (cs.setIfInBounds o v) t := by
  have hlt := H.lt
  unfold CB at H ⊢
  have h' : w.heap[b] = .cells cs t (0, 0) := by simpa [Array.getElem?_eq_getElem hlt] using H
  show (w.heap.modify b _)[b]? = _
  rw [Array.getElem?_eq_getElem (by simpa using hlt), Array.getElem_modify_self, h']
  simp
theorem CB.other (H : CB w b cs t) {c o : Nat} (u : Value) (h : b ≠ c) : CB (w.setCell ⟨c, o, none⟩ u) b cs t := by
  unfold CB at H ⊢
  rw [Below.heap_setCell _ _ _ _ (by simpa using h)]; exact H
theorem CB.below {B : Nat} (H : CB w b cs t) (k : Below B w w') (h : b < B) : CB w' b cs t := by
  unfold CB at H ⊢
  rw [k.block b h]; exact H
theorem CB.alloc (H : CB w b cs t) (o : Obj) : CB (w.alloc o) b cs t := H.below ((Below.refl _ _).alloc (Nat.le_refl _) o) H.lt
theorem CB.new (cs : Array Value) (t : TypeId) : CB (w.alloc (.cells cs t (0, 0))) w.heap.size cs t := by
  unfold CB
  show (w.heap.push _)[w.heap.size]? = _
  simp
end

theorem CB.newAt {w : World} {b : Nat} (h : w.heap.size = b) (cs : Array Value) (t : TypeId) : CB (w.alloc (.cells cs t (0, 0))) b cs t := h ▸ CB.new cs t
theorem bel_on {A W W' : World} (h : Below A.heap.size A W) (k : Below W.heap.size W W') : Below A.heap.size A W' := h.trans (k.mono h.size)

/-- A slice's first 'len' elements are the whole numbers z 0, z 1, .. -/
def IR (w : World) (ad : Option Addr) (len : Nat) (z : Nat → Int) : Prop :=
  len = 0 ∨ ∃ k off, ad = some ⟨k, off, none⟩ ∧ k < w.heap.size ∧ ∀ j, j < len → w.cell? ⟨k, off + j, none⟩ = some (.int .i64 (z j))

theorem IR.below {w w' : World} {ad : Option Addr} {len : Nat} {z : Nat → Int} (H : IR w ad len z) (t : Below w.heap.size w w') : IR w' ad len z := by
  rcases H with h | ⟨k, off, e, hk, hc⟩
  · exact .inl h
  · refine .inr ⟨k, off, e, Nat.lt_of_lt_of_le hk t.size, fun j hj => ?_⟩
    rw [World.cell?_of_block (w := w) (t.block k hk)]; exact hc j hj

theorem IR.alloc {w : World} {ad : Option Addr} {len : Nat} {z : Nat → Int} (H : IR w ad len z) (o : Obj) : IR (w.alloc o) ad len z := H.below ((Below.refl _ _).alloc (Nat.le_refl _) o)
theorem IR.drewN {w : World} {ad : Option Addr} {len : Nat} {z : Nat → Int} (H : IR w ad len z) (q : Nat) : IR (w.drewN q) ad len z := H

theorem IR.cell {w : World} {k off len : Nat} {z : Nat → Int} (H : IR w (some ⟨k, off, none⟩) len z) {j : Nat} (hj : j < len) : w.cell? ⟨k, off + j, none⟩ = some (.int .i64 (z j)) := by
  rcases H with h | ⟨k', off', e, hk, hc⟩
  · omega
  · simp only [Option.some.injEq, Addr.mk.injEq] at e
    obtain ⟨rfl, rfl, _⟩ := e
    exact hc j hj

theorem IR.other {w : World} {k off len : Nat} {z : Nat → Int} (H : IR w (some ⟨k, off, none⟩) len z) {c o : Nat} (u : Value) (h : k ≠ c) : IR (w.setCell ⟨c, o, none⟩ u) (some ⟨k, off, none⟩) len z := by
  rcases H with h' | ⟨k', off', e, hk, hc⟩
  · exact .inl h'
  · simp only [Option.some.injEq, Addr.mk.injEq] at e
    obtain ⟨rfl, rfl, _⟩ := e
    refine .inr ⟨k, off, rfl, by simpa using hk, fun j hj => ?_⟩
    rw [World.cell?_of_block (w := w) (Below.heap_setCell _ _ _ _ (by simpa using h))]; exact hc j hj

/-- Where there is an element there is an address. -/
theorem IR.addr {w : World} {ad : Option Addr} {len : Nat} {z : Nat → Int} (H : IR w ad len z) (h : 0 < len) : ∃ k off, ad = some ⟨k, off, none⟩ ∧ k < w.heap.size := by
  rcases H with h' | ⟨k', off', e, hk, hc⟩
  · omega
  · exact ⟨k', off', e, hk⟩

theorem IR.congr {w : World} {ad : Option Addr} {len : Nat} {z y : Nat → Int} (H : IR w ad len z) (h : ∀ j, j < len → z j = y j) : IR w ad len y := by
  rcases H with h' | ⟨k', off', e, hk, hc⟩
  · exact .inl h'
  · exact .inr ⟨k', off', e, hk, fun j hj => by rw [← h j hj]; exact hc j hj⟩

theorem IR.of_block {w : World} {b : Nat} {cs : Array Value} {t : TypeId} (H : CB w b cs t) (n : Nat) (z : Nat → Int) (h : ∀ j, j < n → cs[j]? = some (.int .i64 (z j))) : IR w (some ⟨b, 0, none⟩) n z :=
  .inr ⟨b, 0, rfl, H.lt, fun j hj => by rw [Nat.zero_add, H.cell]; exact h j hj⟩

end Go.Proofs.YtgnhpjlfdkpaiaaDoor.Sh

namespace Go.Proofs.YtgnhpjlfdkpaiaaDoor.Sh
open Go.ChangeShapes Go.WideShapes Go.ChangeAt Go.RowKit
set_option linter.unusedVariables false
set_option linter.unusedSimpArgs false

theorem row_block {w w' : World} {base : Nat} {e : TypeId} {size : Nat} {v : Value} {n : Nat} {xs : List Value} (h : w.ownsRow base e size v n xs) (hb : ∀ g, v.ownBlock = some g → w'.heap[g]? = w.heap[g]?) : w'.ownsRow base e size v n xs := by
  refine ⟨h.1, ?_⟩
  rcases h.2 with hn | ⟨g, cap, cur, rfl, hb', hgg, rest⟩
  · exact .inl hn
  · refine .inr ⟨g, cap, cur, rfl, hb', ?_, rest⟩
    rw [hb g rfl]
    exact hgg
theorem row_cells {w : World} {base : Nat} {e : TypeId} {size : Nat} {v : Value} {n : Nat} {xs : List Value} (h : w.ownsRow base e size v n xs) {g : Nat} (hg : v.ownBlock = some g) : ∃ cur, w.heap[g]? = some (.cells cur e (0, 0)) := by
  rcases h.2 with ⟨rfl, _⟩ | ⟨g', cap, cur, rfl, hb', hgg, rest⟩
  · simp [Value.ownBlock] at hg
  · simp [Value.ownBlock] at hg
    subst hg
    exact ⟨cur, hgg⟩
theorem row_form {w : World} {base : Nat} {e : TypeId} {size : Nat} {v : Value} {n : Nat} {xs : List Value} (h : w.ownsRow base e size v n xs) : ∃ ad cap, v = .slice ad n cap := by
  rcases h.2 with ⟨rfl, rfl⟩ | ⟨g', cap, cur, rfl, hb', hgg, rest⟩
  · exact ⟨none, 0, rfl⟩
  · exact ⟨_, cap, rfl⟩
theorem row_get {w : World} {base : Nat} {e : TypeId} {v : Value} {n : Nat} {xs : List Value} (h : w.ownsRow base e 1 v n xs) {j : Nat} (hj : j < n) : ∃ g cap, v = .slice (some ⟨g, 0, none⟩) n cap ∧ g < w.heap.size ∧ base ≤ g ∧ ∀ j, j < n → w.cell? ⟨g, j, none⟩ = xs[j]? := by
  rcases h.2 with ⟨rfl, rfl⟩ | ⟨g, cap, cur, rfl, hb', hgg, h1, h2, h3, h4⟩
  · omega
  · refine ⟨g, cap, rfl, lt_of_block hgg, hb', fun j hj => ?_⟩
    simp only [World.cell?, hgg]
    rw [← h4, Nat.mul_one, List.getElem?_take, if_pos hj]
    simp
theorem row_below {w w' : World} {base : Nat} {e : TypeId} {size : Nat} {v : Value} {n : Nat} {xs : List Value} (h : w.ownsRow base e size v n xs) (k : Below w.heap.size w w') : w'.ownsRow base e size v n xs := row_block h (fun g hg => k.block g (h.lt g hg).2)
theorem row_IR {w : World} {base m cap : Nat} {ad : Option Addr} {xs : List Value} {z : Nat → Int} (h : w.ownsRow base 3 1 (.slice ad m cap) m xs) (hz : ∀ j, j < m → xs[j]? = some (.int .i64 (z j))) : IR w ad m z := by
  by_cases h0 : m = 0
  · exact .inl h0
  · obtain ⟨g, cp, e, hlt, _, hc⟩ := row_get h (j := 0) (by omega)
    simp only [Value.slice.injEq] at e
    refine .inr ⟨g, 0, e.1, hlt, fun j hj => ?_⟩
    rw [Nat.zero_add, hc j hj, hz j hj]
/-- A row of whole numbers in a block of the call's own, and what else is left. -/
theorem row_block_of {w : World} {base m : Nat} {v : Value} {xs : List Value} (h : w.ownsRow base 3 1 v m xs) (hm : 0 < m) : ∃ g cap cur, v = .slice (some ⟨g, 0, none⟩) m cap ∧ base ≤ g ∧ CB w g cur 3 ∧ m ≤ cur.size := by
  rcases h.2 with ⟨rfl, rfl⟩ | ⟨g, cap, cur, rfl, hb', hgg, h1, h2, h3, h4⟩
  · omega
  · exact ⟨g, cap, cur, rfl, hb', hgg, by omega⟩
theorem row_lower {w : World} {base base' : Nat} {e : TypeId} {size : Nat} {v : Value} {n : Nat} {xs : List Value} (h : w.ownsRow base e size v n xs) (hb : base' ≤ base) : w.ownsRow base' e size v n xs := by
  refine ⟨h.1, ?_⟩
  rcases h.2 with hn | ⟨g, cap, cur, rfl, hb', rest⟩
  · exact .inl hn
  · exact .inr ⟨g, cap, cur, rfl, by omega, rest⟩
theorem heap_set {w : World} {b o x : Nat} {u : Value} (hne : x ≠ b) : (w.setCell ⟨b, o, none⟩ u).heap[x]? = w.heap[x]? := Below.heap_setCell _ _ _ _ (by show x ≠ b; exact hne)
theorem CB.ne {w : World} {b : Nat} {cs : Array Value} {t : TypeId} {base : Nat} {e : TypeId} {size : Nat} {v : Value} {n : Nat} {xs : List Value} (H : CB w b cs t) (h : w.ownsRow base e size v n xs) (ht : t ≠ e) : some b ≠ v.ownBlock := by
  intro hg
  obtain ⟨cur, hc⟩ := row_cells h hg.symm
  unfold CB at H
  rw [H] at hc
  simp at hc
  exact ht hc.2
theorem get_set_eq {cs : Array Value} {i : Nat} {v : Value} (h : i < cs.size) : (cs.setIfInBounds i v)[i]? = some v := by rw [Array.getElem?_setIfInBounds, if_pos rfl, if_pos h]
/-- A cell set leaves all other places. -/
theorem get_set_ne {cs : Array Value} {i j : Nat} {v : Value} (h : i ≠ j) : (cs.setIfInBounds i v)[j]? = cs[j]? := by rw [Array.getElem?_setIfInBounds, if_neg h]
/-- A new row of whole numbers is handed back. -/
def NewI (m : Nat) (zs : List Value) (w : World) (e : Ending) (w' : World) : Prop :=
  ∃ ad cap, e = .returned (.slice ad m cap) ∧ w'.ownsRow w.heap.size 3 1 (.slice ad m cap) m zs ∧ Below w.heap.size w w'
set_option maxRecDepth 100000 in
theorem info3 : ∃ i, Tryd.prog.info? 3 = some i ∧ i.zero = some (.int .i64 0) ∧ i.size = 1 ∧ i.bytes = 8 := by
  obtain ⟨i0, hi⟩ : ∃ i, Tryd.prog.info? 3 = some i := ⟨_, rfl⟩
  have hz0 : i0.zero = some (.int .i64 0) := by
    have : (Tryd.prog.info? 3).bind (·.zero) = some (.int .i64 0) := by kernel_rfl
    rw [hi] at this; exact this
  have hz1 : i0.size = 1 := by
    have : (Tryd.prog.info? 3).map (·.size) = some 1 := by kernel_rfl
    rw [hi] at this; simpa using this
  have hz2 : i0.bytes = 8 := by
    have : (Tryd.prog.info? 3).map (·.bytes) = some 8 := by kernel_rfl
    rw [hi] at this; simpa using this
  exact ⟨i0, hi, hz0, hz1, hz2⟩
set_option maxRecDepth 20000 in
set_option maxHeartbeats 2000000 in
theorem eqIntS_same (ad be : Option Addr) (len cap cap2 : Nat) (z : Nat → Int) (w : World) (h : (len : Int) ≤ 1048576) (h1 : IR w ad len z) (h2 : IR w be len z) :
    Calls Tryd.prog 48 #[.slice ad len cap, .slice be len cap2] w fun e w' => e = .returned (.bool true) ∧ Below w.heap.size w w' := by
  have H1 : Hid (IR w ad len z) := h1
  have H2 : Hid (IR w be len z) := h2
  clear h1 h2
  go_enter Tryd.func48, Tryd.ntmps48
  go_wp2
  go_loopw [5] (fun i wr => ∃ (k q : Nat), k ≤ len ∧ i = .int .i64 (k : Int) ∧ wr = w.drewN q) (fun i _ => len - (intOf i).toNat)
  case atStart => exact ⟨0, 0, Nat.zero_le _, rfl, rfl⟩
  case round =>
    obtain ⟨k, q, hk, rfl, rfl⟩ := hrel
    by_cases hlt : k < len
    · obtain ⟨kb, off, rfl, _⟩ := H1.out.addr (by omega)
      obtain ⟨kb2, off2, rfl, _⟩ := H2.out.addr (by omega)
      have c1 := H1.out.cell hlt
      have c2 := H2.out.cell hlt
      generalize z k = y at c1 c2
      have hlt2 : (k : Int) < (len : Int) := by omega
      go_wp2
      go_quiet (fail)
      go_wp2
      go_roundw
      case rel => exact ⟨k + 1, q + nq, by omega, by go_num, rfl⟩
      case measure => simp [intOf]; omega
    · go_wp2
      go_returns
      exact ⟨rfl, ⟨rfl, rfl, rfl, Nat.le_refl _, fun _ _ => rfl⟩⟩
set_option maxRecDepth 20000 in
set_option maxHeartbeats 2000000 in
theorem heldIntS_any (ad : Option Addr) (len cap : Nat) (w : World) (h : (len : Int) ≤ 1048576) (h1 : IR w ad len (fun j => (j : Int) + 1)) :
    Calls Tryd.prog 50 #[.slice ad len cap, .int .i64 1] w fun e w' => e = .returned (.int .i64 ((len : Int) + 1)) ∧ w' = w := by
  have H1 : Hid (IR w ad len (fun j => (j : Int) + 1)) := h1
  clear h1
  go_enter Tryd.func50, Tryd.ntmps50
  go_wp2
  go_loop [1, 5] (fun u i => ∃ (k : Nat), k ≤ len ∧ i = .int .i64 (k : Int) ∧ u = .int .i64 ((k : Int) + 1)) (fun u i => len - (intOf i).toNat)
  case atStart => exact ⟨0, Nat.zero_le _, rfl, rfl⟩
  case round =>
    obtain ⟨k, hk, rfl, rfl⟩ := hrel
    by_cases hlt : k < len
    · obtain ⟨kb, off, rfl, _⟩ := H1.out.addr (by omega)
      have c1 := H1.out.cell hlt
      have hlt2 : (k : Int) < (len : Int) := by omega
      go_wp2
      go_round
      case rel => exact ⟨k + 1, by omega, by go_num, by go_num⟩
      case measure => simp [intOf]; omega
    · obtain rfl : k = len := by omega
      go_wp2
      go_returns
      exact ⟨rfl, rfl⟩
set_option maxRecDepth 20000 in
set_option maxHeartbeats 2000000 in
theorem markIntS_any (ad : Option Addr) (len cap base : Nat) (xs : List Value) (w : World) (h : (len : Int) ≤ 1048576) (h1 : w.ownsRow base 3 1 (.slice ad len cap) len xs) :
    Calls Tryd.prog 49 #[.slice ad len cap, .int .i64 1] w fun e w' => e = .returned (.int .i64 ((len : Int) + 1)) ∧ IR w' ad len (fun j => (j : Int) + 1) ∧ (∀ y, y < w.heap.size → some y ≠ Value.ownBlock (.slice ad len cap) → w'.heap[y]? = w.heap[y]?) ∧ Below base w w' := by
  by_cases h0 : len = 0
  · subst h0
    go_enter Tryd.func49, Tryd.ntmps49
    go_wp2
    refine wp_loop_rounds 1 ?_
    rw [rounds_succ]
    go_wp2
    go_returns
    exact ⟨rfl, .inl rfl, fun _ _ _ => rfl, Below.refl _ _⟩
  obtain ⟨g, cp, cur, e, hbg, hC, hsz⟩ := row_block_of h1 (by omega)
  obtain ⟨rfl, rfl⟩ : ad = some ⟨g, 0, none⟩ ∧ cap = cp := by simp only [Value.slice.injEq] at e; exact ⟨e.1, e.2.2⟩
  have HC : Hid (CB w g cur 3) := hC
  clear hC e h1
  go_enter Tryd.func49, Tryd.ntmps49
  go_wp2
  go_loopw [1, 5] (fun u i wr => ∃ (k : Nat) (cs : Array Value), k ≤ len ∧ i = .int .i64 (k : Int) ∧ u = .int .i64 ((k : Int) + 1) ∧ CB wr g cs 3 ∧ len ≤ cs.size ∧ (∀ j, j < k → cs[j]? = some (.int .i64 ((j : Int) + 1))) ∧ (∀ y, y ≠ g → wr.heap[y]? = w.heap[y]?) ∧ Below base w wr) (fun u i _ => len - (intOf i).toNat)
  case atStart => exact ⟨0, cur, Nat.zero_le _, rfl, rfl, HC.out, hsz, fun j hj => by omega, fun y hy => rfl, Below.refl _ _⟩
  case round =>
    obtain ⟨k, cs, hk, rfl, rfl, hC, hs, hcs, hkeep, hB⟩ := hrel
    by_cases hlt : k < len
    · have hlt2 : (k : Int) < (len : Int) := by omega
      obtain ⟨v1, d1⟩ : ∃ v, cs[k]? = some v := ⟨cs[k]'(by omega), Array.getElem?_eq_getElem (by omega)⟩
      have x1 := (hC.cell k).trans d1
      have f1 := hC.fr k
      have HN : Hid (CB (wr.setCell ⟨g, k, none⟩ (.int .i64 ((k : Int) + 1))) g (cs.setIfInBounds k (.int .i64 ((k : Int) + 1))) 3 ∧ len ≤ (cs.setIfInBounds k (.int .i64 ((k : Int) + 1))).size ∧ (∀ j, j < k + 1 → (cs.setIfInBounds k (.int .i64 ((k : Int) + 1)))[j]? = some (.int .i64 ((j : Int) + 1))) ∧ (∀ y, y ≠ g → (wr.setCell ⟨g, k, none⟩ (.int .i64 ((k : Int) + 1))).heap[y]? = w.heap[y]?) ∧ Below base w (wr.setCell ⟨g, k, none⟩ (.int .i64 ((k : Int) + 1)))) := by
        refine ⟨hC.set _ _, by simpa using hs, fun j hj => ?_, fun y hy => (heap_set hy).trans (hkeep y hy), hB.setCell hbg _⟩
        by_cases e : j = k
        · subst e; rw [get_set_eq (by omega)]
        · rw [get_set_ne (by omega)]; exact hcs j (by omega)
      clear hC hs hcs hkeep hB d1
      go_wp2
      go_roundw
      case rel =>
        obtain ⟨z1, z2, z3, z4, z5⟩ := HN.out
        exact ⟨k + 1, _, by omega, by go_num, by go_num, z1, z2, z3, z4, z5⟩
      case measure => simp [intOf]; omega
    · obtain rfl : k = len := by omega
      have HN : Hid (IR wr (some ⟨g, 0, none⟩) k (fun j => (j : Int) + 1) ∧ (∀ y, y < w.heap.size → some y ≠ Value.ownBlock (.slice (some ⟨g, 0, none⟩) k cap) → wr.heap[y]? = w.heap[y]?) ∧ Below base w wr) :=
        ⟨IR.of_block hC k _ hcs, fun y _ hy => hkeep y (fun q => hy (by rw [q]; rfl)), hB⟩
      clear hC hs hcs hkeep hB
      go_wp2
      go_returns
      exact ⟨rfl, HN.out.1, HN.out.2.1, HN.out.2.2⟩
def zeros (n : Nat) : Array Value := madeCells #[.int .i64 0] n
theorem zeros_size (n : Nat) : (zeros n).size = n := size_madeCells _ _
set_option maxRecDepth 100000 in
theorem mkI (n : Nat) (h : (n : Int) ≤ 1048576) (w : World) : (Instr.makeSlice 42 (.int .i64 (n : Int)) (.int .i64 (n : Int))).run Tryd.prog w = .ok (.slice (some ⟨w.heap.size, 0, none⟩) n n) (w.alloc (.cells (zeros n) 3)) := by
  obtain ⟨i, hi⟩ : ∃ i, Tryd.prog.info? 3 = some i := ⟨_, rfl⟩
  have hz : i.zero = some (.int .i64 0) := by
    have : (Tryd.prog.info? 3).bind (·.zero) = some (.int .i64 0) := by kernel_rfl
    rw [hi] at this; exact this
  have hs : i.size = 1 := by
    have : (Tryd.prog.info? 3).map (·.size) = some 1 := by kernel_rfl
    rw [hi] at this; simpa using this
  have hb : i.bytes = 8 := by
    have : (Tryd.prog.info? 3).map (·.bytes) = some 8 := by kernel_rfl
    rw [hi] at this; simpa using this
  have hr := run_make (P := Tryd.prog) w 42 3 i (.int .i64 0) Tryd.underlying42 hi hz .i64 .i64 n n (by omega) (by omega) (by rw [hb]; omega) (by omega)
  simp only [Int.toNat_natCast, hs, Nat.mul_one] at hr
  exact hr
theorem row_of_block {w : World} {b base n : Nat} {cs : Array Value} (hC : CB w b cs 3) (hs : cs.size = n) (hb : base ≤ b) (hn : n ≤ 1048576) : w.ownsRow base 3 1 (.slice (some ⟨b, 0, none⟩) n n) n cs.toList :=
  ⟨by simp [hs], .inr ⟨b, n, cs, rfl, hb, hC, Nat.le_refl _, by unfold maxLen; omega, by omega, by rw [Nat.mul_one]; exact List.take_of_length_le (by simp [hs])⟩⟩
set_option maxRecDepth 20000 in
set_option maxHeartbeats 2000000 in
theorem markIntS_from (s0 : Int) (hs0 : 0 ≤ s0 ∧ s0 ≤ 8000000) (ad : Option Addr) (len cap base : Nat) (xs : List Value) (w : World) (h : (len : Int) ≤ 1048576) (h1 : w.ownsRow base 3 1 (.slice ad len cap) len xs) :
    Calls Tryd.prog 49 #[.slice ad len cap, .int .i64 s0] w fun e w' => e = .returned (.int .i64 ((len : Int) + s0)) ∧ IR w' ad len (fun j => (j : Int) + s0) ∧ (∀ y, y < w.heap.size → some y ≠ Value.ownBlock (.slice ad len cap) → w'.heap[y]? = w.heap[y]?) ∧ Below base w w' := by
  by_cases h0 : len = 0
  · subst h0
    go_enter Tryd.func49, Tryd.ntmps49
    go_wp2
    refine wp_loop_rounds 1 ?_
    rw [rounds_succ]
    go_wp2
    go_returns
    exact ⟨by simp, .inl rfl, fun _ _ _ => rfl, Below.refl _ _⟩
  obtain ⟨g, cp, cur, e, hbg, hC, hsz⟩ := row_block_of h1 (by omega)
  obtain ⟨rfl, rfl⟩ : ad = some ⟨g, 0, none⟩ ∧ cap = cp := by simp only [Value.slice.injEq] at e; exact ⟨e.1, e.2.2⟩
  have HC : Hid (CB w g cur 3) := hC
  clear hC e h1
  go_enter Tryd.func49, Tryd.ntmps49
  go_wp2
  go_loopw [1, 5] (fun u i wr => ∃ (k : Nat) (cs : Array Value), k ≤ len ∧ i = .int .i64 (k : Int) ∧ u = .int .i64 ((k : Int) + s0) ∧ CB wr g cs 3 ∧ len ≤ cs.size ∧ (∀ j, j < k → cs[j]? = some (.int .i64 ((j : Int) + s0))) ∧ (∀ y, y ≠ g → wr.heap[y]? = w.heap[y]?) ∧ Below base w wr) (fun u i _ => len - (intOf i).toNat)
  case atStart => exact ⟨0, cur, Nat.zero_le _, rfl, by simp, HC.out, hsz, fun j hj => by omega, fun y hy => rfl, Below.refl _ _⟩
  case round =>
    obtain ⟨k, cs, hk, rfl, rfl, hC, hs, hcs, hkeep, hB⟩ := hrel
    by_cases hlt : k < len
    · have hlt2 : (k : Int) < (len : Int) := by omega
      obtain ⟨v1, d1⟩ : ∃ v, cs[k]? = some v := ⟨cs[k]'(by omega), Array.getElem?_eq_getElem (by omega)⟩
      have x1 := (hC.cell k).trans d1
      have f1 := hC.fr k
      have HN : Hid (CB (wr.setCell ⟨g, k, none⟩ (.int .i64 ((k : Int) + s0))) g (cs.setIfInBounds k (.int .i64 ((k : Int) + s0))) 3 ∧ len ≤ (cs.setIfInBounds k (.int .i64 ((k : Int) + s0))).size ∧ (∀ j, j < k + 1 → (cs.setIfInBounds k (.int .i64 ((k : Int) + s0)))[j]? = some (.int .i64 ((j : Int) + s0))) ∧ (∀ y, y ≠ g → (wr.setCell ⟨g, k, none⟩ (.int .i64 ((k : Int) + s0))).heap[y]? = w.heap[y]?) ∧ Below base w (wr.setCell ⟨g, k, none⟩ (.int .i64 ((k : Int) + s0)))) := by
        refine ⟨hC.set _ _, by simpa using hs, fun j hj => ?_, fun y hy => (heap_set hy).trans (hkeep y hy), hB.setCell hbg _⟩
        by_cases e : j = k
        · subst e; rw [get_set_eq (by omega)]
        · rw [get_set_ne (by omega)]; exact hcs j (by omega)
      clear hC hs hcs hkeep hB d1
      go_wp2
      go_roundw
      case rel =>
        obtain ⟨z1, z2, z3, z4, z5⟩ := HN.out
        exact ⟨k + 1, _, by omega, by go_num, by go_num, z1, z2, z3, z4, z5⟩
      case measure => simp [intOf]; omega
    · obtain rfl : k = len := by omega
      have HN : Hid (IR wr (some ⟨g, 0, none⟩) k (fun j => (j : Int) + s0) ∧ (∀ y, y < w.heap.size → some y ≠ Value.ownBlock (.slice (some ⟨g, 0, none⟩) k cap) → wr.heap[y]? = w.heap[y]?) ∧ Below base w wr) :=
        ⟨IR.of_block hC k _ hcs, fun y _ hy => hkeep y (fun q => hy (by rw [q]; rfl)), hB⟩
      clear hC hs hcs hkeep hB
      go_wp2
      go_returns
      exact ⟨rfl, HN.out.1, HN.out.2.1, HN.out.2.2⟩
theorem CB.keep {w w' : World} {b : Nat} {cs : Array Value} {t : TypeId} (H : CB w b cs t) (h : w'.heap[b]? = w.heap[b]?) : CB w' b cs t := by unfold CB at H ⊢; rw [h]; exact H
def sm (z : Nat → Int) : Nat → Int
  | 0 => 0
  | n + 1 => sm z n + z n
theorem sm_succ (z : Nat → Int) (n : Nat) : sm z (n + 1) = sm z n + z n := rfl
theorem sm_bound {z : Nat → Int} {n : Nat} {M : Int} (hM : 0 ≤ M) (h : ∀ j, j < n → -M ≤ z j ∧ z j ≤ M) : ∀ a e, a ≤ e → e ≤ n → -(M * (e - a : Int)) ≤ sm z e - sm z a ∧ sm z e - sm z a ≤ M * (e - a : Int) := by
  intro a e
  induction e with
  | zero => intro h1 h2; have : a = 0 := by omega
            subst this; simp
  | succ k ih =>
    intro h1 h2
    by_cases g : a = k + 1
    · subst g; simp
    · obtain ⟨b1, b2⟩ := ih (by omega) (by omega)
      obtain ⟨c1, c2⟩ := h k (by omega)
      rw [sm_succ]
      have e1 : M * (((k + 1 : Nat) : Int) - (a : Int)) = M * ((k : Int) - (a : Int)) + M := by
        rw [show (((k + 1 : Nat) : Int) - (a : Int)) = ((k : Int) - (a : Int)) + 1 by omega, Int.mul_add, Int.mul_one]
      rw [e1]
      omega
theorem sm_congr {y z : Nat → Int} : ∀ {n : Nat}, (∀ j, j < n → y j = z j) → sm y n = sm z n
  | 0, _ => rfl
  | n + 1, h => by rw [sm_succ, sm_succ, sm_congr (fun j hj => h j (by omega)), h n (by omega)]
end Go.Proofs.YtgnhpjlfdkpaiaaDoor.Sh

namespace Go.Proofs.YtgnhpjlfdkpaiaaDoor.Sh
set_option linter.unusedVariables false

/-- f' is f but for the places from a up to b, which are rearranged. -/
def PermOn {α : Type} (a b : Nat) (f f' : Nat → α) : Prop :=
  (∀ i, ¬ (a ≤ i ∧ i < b) → f' i = f i) ∧ ∃ p : Nat → Nat, (∀ i, a ≤ i → i < b → a ≤ p i ∧ p i < b ∧ f' i = f (p i)) ∧ (∀ i j, a ≤ i → i < b → a ≤ j → j < b → p i = p j → i = j)

section
variable {α : Type} {a b c : Nat} {f g h : Nat → α}
theorem PermOn.refl (a b : Nat) (f : Nat → α) : PermOn a b f f := ⟨fun _ _ => rfl, fun i => i, fun i h1 h2 => ⟨h1, h2, rfl⟩, fun i j _ _ _ _ e => e⟩
theorem PermOn.trans (x : PermOn a b f g) (y : PermOn a b g h) : PermOn a b f h := by
  obtain ⟨x1, p, x2, x3⟩ := x
  obtain ⟨y1, q, y2, y3⟩ := y
  refine ⟨fun i hi => (y1 i hi).trans (x1 i hi), fun i => p (q i), fun i h1 h2 => ?_, fun i j h1 h2 h3 h4 e => ?_⟩
  · obtain ⟨u1, u2, u3⟩ := y2 i h1 h2
    obtain ⟨v1, v2, v3⟩ := x2 (q i) u1 u2
    exact ⟨v1, v2, u3.trans v3⟩
  · obtain ⟨u1, u2, _⟩ := y2 i h1 h2
    obtain ⟨v1, v2, _⟩ := y2 j h3 h4
    exact y3 i j h1 h2 h3 h4 (x3 _ _ u1 u2 v1 v2 e)
theorem PermOn.mono {a' b' : Nat} (x : PermOn a b f g) (ha : a' ≤ a) (hb : b ≤ b') : PermOn a' b' f g := by
  obtain ⟨x1, p, x2, x3⟩ := x
  refine ⟨fun i hi => x1 i (fun q => hi ⟨by omega, by omega⟩), fun i => if a ≤ i ∧ i < b then p i else i, fun i h1 h2 => ?_, fun i j h1 h2 h3 h4 e => ?_⟩
  · by_cases q : a ≤ i ∧ i < b
    · obtain ⟨u1, u2, u3⟩ := x2 i q.1 q.2
      simp only [if_pos q]
      exact ⟨by omega, by omega, u3⟩
    · simp only [if_neg q]
      exact ⟨h1, h2, x1 i q⟩
  · simp only at e
    by_cases q : a ≤ i ∧ i < b <;> by_cases r : a ≤ j ∧ j < b
    · rw [if_pos q, if_pos r] at e
      exact x3 i j q.1 q.2 r.1 r.2 e
    · rw [if_pos q, if_neg r] at e
      obtain ⟨u1, u2, _⟩ := x2 i q.1 q.2
      exact absurd ⟨by omega, by omega⟩ r
    · rw [if_neg q, if_pos r] at e
      obtain ⟨u1, u2, _⟩ := x2 j r.1 r.2
      exact absurd ⟨by omega, by omega⟩ q
    · rw [if_neg q, if_neg r] at e; exact e

/-- What the places a up to m and m up to b hold change sides, each in its order. -/
def rot (a m b : Nat) (f : Nat → α) (i : Nat) : α := if a ≤ i ∧ i < a + (b - m) then f (i + (m - a)) else if a + (b - m) ≤ i ∧ i < b then f (i - (b - m)) else f i
theorem rot_lo {m i : Nat} (h1 : a ≤ i) (h2 : i < a + (b - m)) : rot a m b f i = f (i + (m - a)) := if_pos ⟨h1, h2⟩
theorem rot_hi {m i : Nat} (h1 : a + (b - m) ≤ i) (h2 : i < b) : rot a m b f i = f (i - (b - m)) := by unfold rot; rw [if_neg (by omega), if_pos ⟨h1, h2⟩]
theorem rot_out {m i : Nat} (ha : a ≤ m) (hm : m ≤ b) (h : ¬ (a ≤ i ∧ i < b)) : rot a m b f i = f i := by unfold rot; rw [if_neg (by omega), if_neg (by omega)]
theorem rot_perm {m : Nat} (ha : a ≤ m) (hm : m ≤ b) : PermOn a b f (rot a m b f) := by
  refine ⟨fun i hi => rot_out ha hm hi, fun i => if i < a + (b - m) then i + (m - a) else i - (b - m), fun i h1 h2 => ?_, fun i j h1 h2 h3 h4 e => ?_⟩
  · by_cases q : i < a + (b - m)
    · simp only [if_pos q]; exact ⟨by omega, by omega, rot_lo h1 q⟩
    · simp only [if_neg q]; exact ⟨by omega, by omega, rot_hi (by omega) h2⟩
  · simp only at e
    by_cases q : i < a + (b - m) <;> by_cases r : j < a + (b - m)
    · rw [if_pos q, if_pos r] at e; omega
    · rw [if_pos q, if_neg r] at e; omega
    · rw [if_neg q, if_pos r] at e; omega
    · rw [if_neg q, if_neg r] at e; omega
end

section
variable {α : Type} (lt : α → α → Prop)
def SortedOn (f : Nat → α) (a b : Nat) : Prop := ∀ i j, a ≤ i → i < j → j < b → lt (f i) (f j)
variable {lt} {f g h : Nat → α} {a b m : Nat}
theorem SortedOn.sub {a' b' : Nat} (x : SortedOn lt f a b) (h1 : a ≤ a') (h2 : b' ≤ b) : SortedOn lt f a' b' := fun i j p q r => x i j (by omega) q (by omega)
theorem SortedOn.congr (x : SortedOn lt f a b) (e : ∀ i, a ≤ i → i < b → g i = f i) : SortedOn lt g a b := fun i j p q r => by rw [e i p (by omega), e j (by omega) r]; exact x i j p q r

/-- Both halves sorted, and all of the first ahead of all of the second. -/
theorem sorted_join (x : SortedOn lt f a m) (y : SortedOn lt f m b) (z : ∀ i j, a ≤ i → i < m → m ≤ j → j < b → lt (f i) (f j)) : SortedOn lt f a b := fun i j p q r => by
  rcases Nat.lt_or_ge j m with s | s
  · exact x i j p q s
  · rcases Nat.lt_or_ge i m with t | t
    · exact z i j p t s r
    · exact y i j t q r
/-- A rearrangement within each half leaves the first ahead of the second. -/
theorem cross_perm (z : ∀ i j, a ≤ i → i < m → m ≤ j → j < b → lt (f i) (f j)) (x : PermOn a m f g) (y : PermOn m b g h) (ham : a ≤ m) : ∀ i j, a ≤ i → i < m → m ≤ j → j < b → lt (h i) (h j) := by
  intro i j h1 h2 h3 h4
  obtain ⟨x1, p, x2, _⟩ := x
  obtain ⟨y1, q, y2, _⟩ := y
  obtain ⟨u1, u2, u3⟩ := x2 i h1 h2
  obtain ⟨v1, v2, v3⟩ := y2 j h3 h4
  rw [y1 i (by omega), u3, v3, x1 (q j) (by omega)]
  exact z _ _ u1 u2 v1 v2

/-- The step of the merge: 's' parts the first half so that the rotation lays the lesser ones ahead. -/
theorem merge_step (tr : ∀ x y z, lt x y → lt y z → lt x z) {mid s e : Nat} (ham : a ≤ m) (hmb : m ≤ b) (hmid : a ≤ mid ∧ mid ≤ b) (he : s + e = mid + m) (hs1 : a ≤ s) (hs2 : s ≤ m) (he1 : m ≤ e) (he2 : e ≤ b)
    (x : SortedOn lt f a m) (y : SortedOn lt f m b)
    (hl : a < s → e < b → lt (f (s - 1)) (f e)) (hr : s < m → m < e → lt (f (e - 1)) (f s)) :
    SortedOn lt (rot s m e f) a s ∧ SortedOn lt (rot s m e f) s mid ∧ SortedOn lt (rot s m e f) mid e ∧ SortedOn lt (rot s m e f) e b ∧ ∀ i j, a ≤ i → i < mid → mid ≤ j → j < b → lt (rot s m e f i) (rot s m e f j) := by
  have hmd : mid = s + (e - m) := by omega
  have le1 : ∀ i, a ≤ i → i < s → ∀ j, e ≤ j → j < b → lt (f i) (f j) := fun i h1 h2 j h3 h4 => by
    have k := hl (by omega) (by omega)
    have k1 : lt (f i) (f e) := by
      by_cases q : i = s - 1
      · rw [q]; exact k
      · exact tr _ _ _ (x i (s - 1) h1 (by omega) (by omega)) k
    by_cases q : j = e
    · rw [q]; exact k1
    · exact tr _ _ _ k1 (y e j (by omega) (by omega) h4)
  have le2 : ∀ i, m ≤ i → i < e → ∀ j, s ≤ j → j < m → lt (f i) (f j) := fun i h1 h2 j h3 h4 => by
    have k := hr (by omega) (by omega)
    have k1 : lt (f i) (f s) := by
      by_cases q : i = e - 1
      · rw [q]; exact k
      · exact tr _ _ _ (y i (e - 1) h1 (by omega) (by omega)) k
    by_cases q : j = s
    · rw [q]; exact k1
    · exact tr _ _ _ k1 (x s j (by omega) (by omega) h4)
  have out : ∀ i, ¬ (s ≤ i ∧ i < e) → rot s m e f i = f i := fun i hi => rot_out (by omega) (by omega) hi
  have lo : ∀ i, s ≤ i → i < mid → rot s m e f i = f (i + (m - s)) := fun i h1 h2 => rot_lo h1 (by omega)
  have hi : ∀ i, mid ≤ i → i < e → rot s m e f i = f (i - (e - m)) := fun i h1 h2 => rot_hi (by omega) h2
  refine ⟨(x.sub (Nat.le_refl _) hs2).congr (fun i h1 h2 => out i (by omega)), fun i j h1 h2 h3 => ?_, fun i j h1 h2 h3 => ?_, (y.sub he1 (Nat.le_refl _)).congr (fun i h1 h2 => out i (by omega)), fun i j h1 h2 h3 h4 => ?_⟩
  · rw [lo i h1 (by omega), lo j (by omega) h3]; exact y _ _ (by omega) (by omega) (by omega)
  · rw [hi i h1 (by omega), hi j (by omega) h3]; exact x _ _ (by omega) (by omega) (by omega)
  · rcases Nat.lt_or_ge i s with q | q <;> rcases Nat.lt_or_ge j e with r | r
    · rw [out i (by omega), hi j h3 r]; exact x _ _ h1 (by omega) (by omega)
    · rw [out i (by omega), out j (by omega)]; exact le1 i h1 q j r h4
    · rw [lo i q h2, hi j h3 r]; exact le2 _ (by omega) (by omega) _ (by omega) (by omega)
    · rw [lo i q h2, out j (by omega)]; exact y _ _ (by omega) (by omega) h4
end

end Go.Proofs.YtgnhpjlfdkpaiaaDoor.Sh

namespace Go.Proofs.YtgnhpjlfdkpaiaaDoor.Sh
set_option linter.unusedVariables false

section
variable {α : Type} {f g : Nat → α} {a b m : Nat}
/-- The places i and j change what they hold. -/
def swp (f : Nat → α) (i j : Nat) (k : Nat) : α := if k = i then f j else if k = j then f i else f k
theorem swp_l (f : Nat → α) (i j : Nat) : swp f i j i = f j := if_pos rfl
theorem swp_r (f : Nat → α) (i j : Nat) : swp f i j j = f i := by
  unfold swp
  by_cases h : j = i
  · rw [if_pos h, h]
  · rw [if_neg h, if_pos rfl]
theorem swp_o {i j k : Nat} (h1 : k ≠ i) (h2 : k ≠ j) : swp f i j k = f k := by unfold swp; rw [if_neg h1, if_neg h2]
theorem swp_perm {i j : Nat} (h1 : a ≤ i ∧ i < b) (h2 : a ≤ j ∧ j < b) : PermOn a b f (swp f i j) := by
  refine ⟨fun k hk => swp_o (fun e => hk (e ▸ h1)) (fun e => hk (e ▸ h2)), fun k => if k = i then j else if k = j then i else k, fun k q1 q2 => ?_, fun x y q1 q2 q3 q4 e => ?_⟩
  · by_cases e1 : k = i
    · subst e1; simp only [if_true]; exact ⟨h2.1, h2.2, swp_l _ _ _⟩
    · by_cases e2 : k = j
      · subst e2; simp only [if_neg e1, if_true]; exact ⟨h1.1, h1.2, swp_r _ _ _⟩
      · simp only [if_neg e1, if_neg e2]; exact ⟨q1, q2, swp_o e1 e2⟩
  · simp only at e
    split at e <;> split at e <;> (try split at e) <;> (try split at e) <;> omega
end

section
variable {α : Type} {lt : α → α → Prop} {f : Nat → α} {a i j m b e : Nat}
/-- All up to i is sorted but for the place j, which is less than all behind it. -/
def InsInv (lt : α → α → Prop) (f : Nat → α) (a i j : Nat) : Prop :=
  a ≤ j ∧ j ≤ i ∧ (∀ p q, a ≤ p → p < q → q ≤ i → p ≠ j → q ≠ j → lt (f p) (f q)) ∧ ∀ q, j < q → q ≤ i → lt (f j) (f q)
theorem InsInv.start (h : SortedOn lt f a i) (hai : a ≤ i) : InsInv lt f a i i := ⟨hai, Nat.le_refl _, fun p q h1 h2 h3 h4 h5 => h p q h1 h2 (by omega), fun q h1 h2 => by omega⟩
theorem InsInv.step (h : InsInv lt f a i j) (hj : a < j) (hl : lt (f j) (f (j - 1))) : InsInv lt (swp f j (j - 1)) a i (j - 1) := by
  obtain ⟨h1, h2, h3, h4⟩ := h
  refine ⟨by omega, by omega, fun p q q1 q2 q3 q4 q5 => ?_, fun q q1 q2 => ?_⟩
  · by_cases ep : p = j <;> by_cases eq : q = j
    · omega
    · subst ep; rw [swp_l, swp_o eq q5]; exact h3 (p - 1) q (by omega) (by omega) q3 (by omega) eq
    · subst eq; rw [swp_o ep q4, swp_l]; exact h3 p (q - 1) q1 (by omega) (by omega) ep (by omega)
    · rw [swp_o ep q4, swp_o eq q5]; exact h3 p q q1 q2 q3 ep eq
  · rw [swp_r]
    by_cases eq : q = j
    · subst eq; rw [swp_l]; exact hl
    · rw [swp_o eq (by omega)]; exact h4 q (by omega) q2
theorem InsInv.done (tr : ∀ x y z, lt x y → lt y z → lt x z) (h : InsInv lt f a i j) (he : j = a ∨ lt (f (j - 1)) (f j)) : SortedOn lt f a (i + 1) := by
  obtain ⟨h1, h2, h3, h4⟩ := h
  intro p q q1 q2 q3
  by_cases ep : p = j
  · rw [ep]; exact h4 q (by omega) (by omega)
  · by_cases eq : q = j
    · rw [eq]
      rcases he with e | e
      · omega
      · by_cases e2 : p = j - 1
        · rw [e2]; exact e
        · exact tr _ _ _ (h3 p (j - 1) q1 (by omega) (by omega) ep (by omega)) e
    · exact h3 p q q1 q2 (by omega) ep eq

/-- One element ahead of a sorted row, laid where it belongs. -/
theorem one_left (he : a + 1 ≤ e ∧ e ≤ b) (y : SortedOn lt f (a + 1) b) (hl : ∀ i, a + 1 ≤ i → i < e → lt (f i) (f a)) (hr : ∀ i, e ≤ i → i < b → lt (f a) (f i)) : SortedOn lt (rot a (a + 1) e f) a b := by
  have lo : ∀ i, a ≤ i → i < e - 1 → rot a (a + 1) e f i = f (i + 1) := fun i h1 h2 => by rw [rot_lo h1 (by omega)]; congr 1; omega
  have top : rot a (a + 1) e f (e - 1) = f a := by rw [rot_hi (by omega) (by omega)]; congr 1; omega
  have out : ∀ i, e ≤ i → rot a (a + 1) e f i = f i := fun i h => rot_out (by omega) (by omega) (by omega)
  intro i j h1 h2 h3
  rcases Nat.lt_or_ge j e with r | r
  · by_cases ej : j = e - 1
    · rw [ej, top, lo i h1 (by omega)]; exact hl _ (by omega) (by omega)
    · rw [lo i h1 (by omega), lo j (by omega) (by omega)]; exact y _ _ (by omega) (by omega) (by omega)
  · rw [out j r]
    by_cases ei : i = e - 1
    · rw [ei, top]; exact hr j r h3
    · rcases Nat.lt_or_ge i e with s | s
      · rw [lo i h1 (by omega)]; exact y _ _ (by omega) (by omega) h3
      · rw [out i s]; exact y _ _ (by omega) h2 h3
/-- One element behind a sorted row, laid where it belongs. -/
theorem one_right (he : a ≤ e ∧ e ≤ m) (x : SortedOn lt f a m) (hl : ∀ i, a ≤ i → i < e → lt (f i) (f m)) (hr : ∀ i, e ≤ i → i < m → lt (f m) (f i)) : SortedOn lt (rot e m (m + 1) f) a (m + 1) := by
  have fst : rot e m (m + 1) f e = f m := by rw [rot_lo (Nat.le_refl _) (by omega)]; congr 1; omega
  have hi : ∀ i, e < i → i ≤ m → rot e m (m + 1) f i = f (i - 1) := fun i h1 h2 => by rw [rot_hi (by omega) (by omega)]; congr 1; omega
  have out : ∀ i, i < e → rot e m (m + 1) f i = f i := fun i h => rot_out (by omega) (by omega) (by omega)
  intro i j h1 h2 h3
  rcases Nat.lt_or_ge i e with r | r
  · rw [out i r]
    rcases Nat.lt_trichotomy j e with s | s | s
    · rw [out j s]; exact x _ _ h1 h2 (by omega)
    · rw [s, fst]; exact hl i h1 r
    · rw [hi j s (by omega)]; exact x _ _ h1 (by omega) (by omega)
  · by_cases ei : i = e
    · rw [ei, fst, hi j (by omega) (by omega)]; exact hr _ (by omega) (by omega)
    · rw [hi i (by omega) (by omega), hi j (by omega) (by omega)]; exact x _ _ (by omega) (by omega) (by omega)
end

end Go.Proofs.YtgnhpjlfdkpaiaaDoor.Sh

namespace Go.Proofs.YtgnhpjlfdkpaiaaDoor.Sh
open Go.ChangeShapes Go.WideShapes Go.ChangeAt Go.RowKit
set_option linter.unusedVariables false
set_option linter.unusedSimpArgs false

theorem ret_bool {a b : Bool} (h : a = b) : Ending.returned (.bool a) = .returned (.bool b) := by rw [h]
theorem ret_int {a b : Int} (h : a = b) : Ending.returned (.int .i64 a) = .returned (.int .i64 b) := by rw [h]

theorem isNaN_any (x : Int) (w : World) : Calls Tryd.prog 177 #[.int .i64 x] w fun e w' => e = .returned (.bool false) ∧ w' = w := by
  go_enter Tryd.func177, Tryd.ntmps177
  go_wp2
  all_goals go_returns
  all_goals exact ⟨ret_bool (by simp), rfl⟩

/-- What cmp.Compare tells. -/
def cm (a b : Int) : Int := if a < b then -1 else if b < a then 1 else 0
theorem cm_l {a b : Int} (h : a < b) : cm a b = -1 := if_pos h
theorem cm_g {a b : Int} (h : b < a) : cm a b = 1 := by unfold cm; rw [if_neg (by omega), if_pos h]
theorem cm_e (a : Int) : cm a a = 0 := by unfold cm; rw [if_neg (by omega), if_neg (by omega)]

theorem compare_any (a b : Int) (w : World) : Calls Tryd.prog 163 #[.int .i64 a, .int .i64 b] w fun e w' => e = .returned (.int .i64 (cm a b)) ∧ w' = w := by
  by_cases h1 : a < b
  · rw [cm_l h1]
    go_enter Tryd.func163, Tryd.ntmps163
    go_wp2_with (go_at_call 177; refine (isNaN_any _ _).mono ?_; rintro e w1 ⟨rfl, rfl⟩)
    all_goals go_returns
    all_goals exact ⟨rfl, rfl⟩
  · by_cases h2 : b < a
    · rw [cm_g h2]
      go_enter Tryd.func163, Tryd.ntmps163
      go_wp2_with (go_at_call 177; refine (isNaN_any _ _).mono ?_; rintro e w1 ⟨rfl, rfl⟩)
      all_goals go_returns
      all_goals exact ⟨rfl, rfl⟩
    · obtain rfl : a = b := by omega
      rw [cm_e]
      go_enter Tryd.func163, Tryd.ntmps163
      go_wp2_with (go_at_call 177; refine (isNaN_any _ _).mono ?_; rintro e w1 ⟨rfl, rfl⟩)
      all_goals go_returns
      all_goals exact ⟨rfl, rfl⟩

/-- What cmp.Or tells of two. -/
def orV (a b : Int) : Int := if a ≠ 0 then a else b

set_option maxHeartbeats 1000000 in
theorem or_any (a b : Int) (k off : Nat) (w : World) (h0 : w.cell? ⟨k, off, none⟩ = some (.int .i64 a)) (h1 : w.cell? ⟨k, off + 1, none⟩ = some (.int .i64 b)) :
    Calls Tryd.prog 162 #[.slice (some ⟨k, off, none⟩) 2 2] w fun e w' => e = .returned (.int .i64 (orV a b)) ∧ w' = w := by
  have HR : ∀ j : Nat, j < 2 → w.cell? ⟨k, off + j, none⟩ = some (.int .i64 (if j = 0 then a else b)) := by
    intro j hj
    rcases (show j = 0 ∨ j = 1 by omega) with rfl | rfl
    · exact h0
    · exact h1
  have HH : Hid (∀ j : Nat, j < 2 → w.cell? ⟨k, off + j, none⟩ = some (.int .i64 (if j = 0 then a else b))) := HR
  clear HR h0 h1
  go_enter Tryd.func162, Tryd.ntmps162
  go_wp2
  go_loop [8] (fun i => ∃ j : Nat, j ≤ 2 ∧ i = .int .i64 (j : Int) ∧ Hid ((1 ≤ j → a = 0) ∧ (2 ≤ j → b = 0))) (fun i => 2 - (intOf i).toNat)
  case atStart => exact ⟨0, Nat.zero_le _, rfl, fun h => by omega, fun h => by omega⟩
  case round =>
    obtain ⟨j, hj, rfl, hP⟩ := hrel
    rcases (show j = 0 ∨ j = 1 ∨ j = 2 by omega) with rfl | rfl | rfl
    · have c1 := HH.out 0 (by omega)
      simp at c1
      by_cases ha : a = 0
      · have hP1 : Hid ((1 ≤ 1 → a = 0) ∧ (2 ≤ 1 → b = 0)) := ⟨fun _ => ha, fun h => by omega⟩
        go_wp2
        go_round
        case rel => exact ⟨1, by omega, by go_num, hP1⟩
        case measure => simp [intOf]
      · have hv : Hid (orV a b = a) := if_pos ha
        go_wp2
        go_returns
        exact ⟨ret_int hv.out.symm, rfl⟩
    · have c1 := HH.out 1 (by omega)
      simp at c1
      have ha : Hid (a = 0) := hP.out.1 (by omega)
      by_cases hb : b = 0
      · have hP1 : Hid ((1 ≤ 2 → a = 0) ∧ (2 ≤ 2 → b = 0)) := ⟨fun _ => ha.out, fun h => hb⟩
        go_wp2
        go_round
        case rel => exact ⟨2, by omega, by go_num, hP1⟩
        case measure => simp [intOf]
      · have hv : Hid (orV a b = b) := if_neg (by simp [ha.out])
        go_wp2
        go_returns
        exact ⟨ret_int hv.out.symm, rfl⟩
    · have hv : Hid (orV a b = 0) := by
        have e1 := hP.out.1 (by omega)
        have e2 := hP.out.2 (by omega)
        show orV a b = 0
        unfold orV; rw [e1, e2]; simp
      go_wp2
      go_returns
      exact ⟨ret_int hv.out.symm, rfl⟩

/-- What compareRests tells: the greater rest first, then the lower place. -/
def crV (a b : Int × Int) : Int := orV (cm b.1 a.1) (cm a.2 b.2)

theorem cell_at {w w' : World} {b o : Nat} {v : Value} (h : w.cell? ⟨b, o, none⟩ = some v) (k : Below w.heap.size w w') (hb : b < w.heap.size) : w'.cell? ⟨b, o, none⟩ = some v := by
  rw [World.cell?_of_block (w := w) (k.block b hb)]; exact h

theorem or_new (X Y : Int) (U : World) (t : TypeId) :
    Calls Tryd.prog 162 #[.slice (some ⟨U.heap.size, 0, none⟩) 2 2] (U.alloc (.cells #[.int .i64 X, .int .i64 Y] t (0, 0))) fun e w' => e = .returned (.int .i64 (orV X Y)) ∧ w' = U.alloc (.cells #[.int .i64 X, .int .i64 Y] t (0, 0)) :=
  or_any X Y U.heap.size 0 _ (by rw [(CB.new (w := U) _ t).cell]; rfl) (by rw [(CB.new (w := U) _ t).cell]; rfl)
end Go.Proofs.YtgnhpjlfdkpaiaaDoor.Sh

namespace Go.Proofs.YtgnhpjlfdkpaiaaDoor.Sh
open Go.ChangeShapes Go.WideShapes Go.ChangeAt Go.RowKit
set_option linter.unusedVariables false
set_option linter.unusedSimpArgs false

set_option maxHeartbeats 1000000 in
theorem compareRests_any (a b : Int × Int) (w : World) :
    Calls Tryd.prog 136 #[.agg #[.int .i64 a.1, .int .i64 a.2], .agg #[.int .i64 b.1, .int .i64 b.2]] w fun e w' => e = .returned (.int .i64 (crV a b)) ∧ Below w.heap.size w w' := by
  obtain ⟨d, f⟩ := a
  obtain ⟨d2, f2⟩ := b
  go_enter Tryd.func136, Tryd.ntmps136
  go_wp2
  go_region_held3 (fun w' => w'.cell? ⟨w.heap.size, 0, none⟩ = some (.int .i64 d) ∧ w'.cell? ⟨w.heap.size, 1, none⟩ = some (.int .i64 f) ∧ w'.cell? ⟨w.heap.size + 1, 0, none⟩ = some (.int .i64 d2) ∧ w'.cell? ⟨w.heap.size + 1, 1, none⟩ = some (.int .i64 f2))
    (go_keep)
    (first
    | (go_at_call 163; refine (compare_any _ _ _).mono ?_; rintro e w2 ⟨rfl, rfl⟩)
    | (go_at_call 162; refine (or_any (cm d2 d) (cm f f2) _ _ _ ((CB.newAt (by simp) _ _).cell 0) ((CB.newAt (by simp) _ _).cell 1)).mono ?_; rintro e w2 ⟨rfl, rfl⟩))
  go_wp2
  go_returns
  exact ⟨rfl, by first | (refine Below.drew ?_; go_grown) | go_grown⟩
end Go.Proofs.YtgnhpjlfdkpaiaaDoor.Sh

namespace Go.Proofs.YtgnhpjlfdkpaiaaDoor.Sh
open Go.RowKit
set_option linter.unusedVariables false

/-- The greater rest first, then the lower place. -/
def ltR (a b : Int × Int) : Prop := b.1 < a.1 ∨ (a.1 = b.1 ∧ a.2 < b.2)
theorem crV_lt {a b : Int × Int} (h : ltR a b) : crV a b = -1 := by
  obtain ⟨a1, a2⟩ := a; obtain ⟨b1, b2⟩ := b
  unfold ltR at h; simp only at h
  unfold crV orV cm; simp only
  repeat' split
  all_goals omega
theorem crV_ge {a b : Int × Int} (h : ¬ ltR a b) : crV a b = 0 ∨ crV a b = 1 := by
  obtain ⟨a1, a2⟩ := a; obtain ⟨b1, b2⟩ := b
  unfold ltR at h; simp only at h
  unfold crV orV cm; simp only
  repeat' split
  all_goals omega
theorem ltR_trans {a b c : Int × Int} (h1 : ltR a b) (h2 : ltR b c) : ltR a c := by unfold ltR at *; omega
theorem ltR_irrefl (a : Int × Int) : ¬ ltR a a := by unfold ltR; omega
theorem ltR_total {a b : Int × Int} (h : a.2 ≠ b.2) (h1 : ¬ ltR a b) : ltR b a := by unfold ltR at *; omega
instance (a b : Int × Int) : Decidable (ltR a b) := by unfold ltR; infer_instance

/-- Block b holds n pairs, the pairs f 0, f 1, .. -/
def RB (w : World) (b n : Nat) (t : TypeId) (f : Nat → Int × Int) : Prop :=
  ∃ cs, CB w b cs t ∧ cs.size = n * 2 ∧ ∀ j, j < n → cs[j * 2]? = some (.int .i64 (f j).1) ∧ cs[j * 2 + 1]? = some (.int .i64 (f j).2)
section
variable {w w' : World} {b n : Nat} {t : TypeId} {f g : Nat → Int × Int}
theorem RB.lt (H : RB w b n t f) : b < w.heap.size := by obtain ⟨cs, h, _⟩ := H; exact h.lt
theorem RB.cell (H : RB w b n t f) {j : Nat} (h : j < n) : w.cell? ⟨b, j * 2, none⟩ = some (.int .i64 (f j).1) ∧ w.cell? ⟨b, j * 2 + 1, none⟩ = some (.int .i64 (f j).2) := by
  obtain ⟨cs, h1, h2, h3⟩ := H
  rw [h1.cell, h1.cell]; exact h3 j h
theorem RB.fr (H : RB w b n t f) (o : Nat) : w.frozen? ⟨b, o, none⟩ = false := by obtain ⟨cs, h, _⟩ := H; exact h.fr o
theorem RB.below {B : Nat} (H : RB w b n t f) (k : Below B w w') (h : b < B) : RB w' b n t f := by
  obtain ⟨cs, h1, h2⟩ := H; exact ⟨cs, h1.below k h, h2⟩
theorem RB.alloc (H : RB w b n t f) (o : Obj) : RB (w.alloc o) b n t f := by obtain ⟨cs, h1, h2⟩ := H; exact ⟨cs, h1.alloc o, h2⟩
theorem RB.other (H : RB w b n t f) {c o : Nat} (u : Value) (h : b ≠ c) : RB (w.setCell ⟨c, o, none⟩ u) b n t f := by obtain ⟨cs, h1, h2⟩ := H; exact ⟨cs, h1.other u h, h2⟩
theorem RB.congr (H : RB w b n t f) (h : ∀ j, j < n → g j = f j) : RB w b n t g := by
  obtain ⟨cs, h1, h2, h3⟩ := H; exact ⟨cs, h1, h2, fun j hj => by rw [h j hj]; exact h3 j hj⟩
/-- A pair is written. -/
theorem RB.set (H : RB w b n t f) {i : Nat} (hi : i < n) (x y : Int) :
    RB ((w.setCell ⟨b, i * 2, none⟩ (.int .i64 x)).setCell ⟨b, i * 2 + 1, none⟩ (.int .i64 y)) b n t (fun j => if j = i then (x, y) else f j) := by
  obtain ⟨cs, h1, h2, h3⟩ := H
  refine ⟨_, (h1.set _ _).set _ _, by simp [h2], fun j hj => ?_⟩
  by_cases e : j = i
  · subst e
    simp only [if_true]
    constructor
    · rw [Array.getElem?_setIfInBounds_ne (by omega), Array.getElem?_setIfInBounds_self_of_lt (by omega)]
    · rw [Array.getElem?_setIfInBounds_self_of_lt (by simp; omega)]
  · simp only [if_neg e]
    rw [Array.getElem?_setIfInBounds_ne (by omega), Array.getElem?_setIfInBounds_ne (by omega), Array.getElem?_setIfInBounds_ne (by omega), Array.getElem?_setIfInBounds_ne (by omega)]
    exact h3 j hj
end
end Go.Proofs.YtgnhpjlfdkpaiaaDoor.Sh

namespace Go.Proofs.YtgnhpjlfdkpaiaaDoor.Sh
open Go.ChangeShapes Go.WideShapes Go.ChangeAt Go.RowKit
set_option linter.unusedVariables false
set_option linter.unusedSimpArgs false

/-- The first i of the two runs at a and at b have changed places. -/
def sw (f : Nat → Int × Int) (a b i : Nat) (k : Nat) : Int × Int := if a ≤ k ∧ k < a + i then f (b + (k - a)) else if b ≤ k ∧ k < b + i then f (a + (k - b)) else f k

set_option maxHeartbeats 2000000 in
theorem swapRange_any (B N cap a b n : Nat) (t : TypeId) (f : Nat → Int × Int) (fv : Value) (w : World) (hN : (N : Int) ≤ 1048576) (ha : a + n ≤ b) (hb : b + n ≤ N) (H : RB w B N t f) :
    Calls Tryd.prog 191 #[.slice (some ⟨B, 0, none⟩) N cap, .int .i64 a, .int .i64 b, .int .i64 n, fv] w fun e w' => e = .returned (.tuple #[]) ∧ RB w' B N t (sw f a b n) ∧ Below B w w' := by
  have HR : Hid (RB w B N t f) := H
  clear H
  have ia : (a : Int) ≤ 1048576 := by omega
  have ib : (b : Int) ≤ 1048576 := by omega
  have inn : (n : Int) ≤ 1048576 := by omega
  go_enter Tryd.func191, Tryd.ntmps191
  go_wp2
  go_loopw [10] (fun i wr => ∃ k : Nat, k ≤ n ∧ i = .int .i64 (k : Int) ∧ Hid (RB wr B N t (sw f a b k) ∧ Below B w wr)) (fun i _ => n - (intOf i).toNat)
  case atStart => exact ⟨0, Nat.zero_le _, rfl, HR.out.congr (fun j _ => by unfold sw; rw [if_neg (by omega), if_neg (by omega)]), Below.refl _ _⟩
  case round =>
    obtain ⟨k, hk, rfl, hP⟩ := hrel
    by_cases hlt : k < n
    · obtain ⟨x1, y1⟩ := hP.out.1.cell (j := a + k) (by omega)
      obtain ⟨x2, y2⟩ := hP.out.1.cell (j := b + k) (by omega)
      have e1 : sw f a b k (a + k) = f (a + k) := by unfold sw; rw [if_neg (by omega), if_neg (by omega)]
      have e2 : sw f a b k (b + k) = f (b + k) := by unfold sw; rw [if_neg (by omega), if_neg (by omega)]
      rw [e1] at x1 y1
      rw [e2] at x2 y2
      have r1 := hP.out.1.fr ((a + k) * 2)
      have r2 := hP.out.1.fr ((a + k) * 2 + 1)
      have r3 := hP.out.1.fr ((b + k) * 2)
      have r4 := hP.out.1.fr ((b + k) * 2 + 1)
      have l1 : (k : Int) < (n : Int) := by omega
      have l2 : (a : Int) + (k : Int) < (N : Int) := by omega
      have l3 : (b : Int) + (k : Int) < (N : Int) := by omega
      have HN : Hid (RB ((((wr.setCell ⟨B, (a + k) * 2, none⟩ (.int .i64 (f (b + k)).1)).setCell ⟨B, (a + k) * 2 + 1, none⟩ (.int .i64 (f (b + k)).2)).setCell ⟨B, (b + k) * 2, none⟩ (.int .i64 (f (a + k)).1)).setCell ⟨B, (b + k) * 2 + 1, none⟩ (.int .i64 (f (a + k)).2)).drew B N t (sw f a b (k + 1)) ∧ Below B w ((((wr.setCell ⟨B, (a + k) * 2, none⟩ (.int .i64 (f (b + k)).1)).setCell ⟨B, (a + k) * 2 + 1, none⟩ (.int .i64 (f (b + k)).2)).setCell ⟨B, (b + k) * 2, none⟩ (.int .i64 (f (a + k)).1)).setCell ⟨B, (b + k) * 2 + 1, none⟩ (.int .i64 (f (a + k)).2)).drew) := by
        refine ⟨RB.congr (((hP.out.1.set (i := a + k) (by omega) (f (b + k)).1 (f (b + k)).2).set (i := b + k) (by omega) (f (a + k)).1 (f (a + k)).2)) (fun j hj => ?_), ((((hP.out.2.setCell (Nat.le_refl _) _).setCell (Nat.le_refl _) _).setCell (Nat.le_refl _) _).setCell (Nat.le_refl _) _).drew⟩
        unfold sw
        by_cases q1 : j = b + k
        · subst q1; rw [if_neg (by omega), if_pos (by omega), if_pos rfl, show a + (b + k - b) = a + k by omega]
        · by_cases q2 : j = a + k
          · subst q2; rw [if_pos (by omega), if_neg q1, if_pos rfl, show b + (a + k - a) = b + k by omega]
          · rw [if_neg q1, if_neg q2]
            by_cases q3 : a ≤ j ∧ j < a + k
            · rw [if_pos q3, if_pos (by omega)]
            · rw [if_neg q3, if_neg (by omega)]
              by_cases q4 : b ≤ j ∧ j < b + k
              · rw [if_pos q4, if_pos (by omega)]
              · rw [if_neg q4, if_neg (by omega)]
      clear e1 e2
      go_wp2
      go_region
      go_wp2
      go_roundw
      case rel => exact ⟨k + 1, by omega, by go_num, HN⟩
      case measure => simp [intOf]; omega
    · obtain rfl : k = n := by omega
      go_wp2
      go_returns
      exact ⟨rfl, hP.out⟩
end Go.Proofs.YtgnhpjlfdkpaiaaDoor.Sh

namespace Go.Proofs.YtgnhpjlfdkpaiaaDoor.Sh
open Go.ChangeShapes Go.WideShapes Go.ChangeAt Go.RowKit
set_option linter.unusedVariables false
set_option linter.unusedSimpArgs false

theorem keep_cell' {W W' : World} {a : Addr} {v : Value} (h : Below W.heap.size W W') (hc : W.cell? a = some v) : W'.cell? a = some v := by
  have hlt : a.block < W.heap.size := by
    unfold World.cell? at hc
    rcases Nat.lt_or_ge a.block W.heap.size with r | r
    · exact r
    · rw [Array.getElem?_eq_none r] at hc; simp at hc
  rw [World.cell?_of_block (w := W) (h.block _ hlt)]; exact hc
theorem rb_on {W W' : World} {B N : Nat} {t : TypeId} {g : Nat → Int × Int} (H : RB W B N t g) (k : Below W.heap.size W W') : RB W' B N t g := H.below k H.lt
theorem bel_rb {A W W' : World} {B N : Nat} {t : TypeId} {g : Nat → Int × Int} (H : RB W B N t g) (h : Below B A W) (k : Below W.heap.size W W') : Below B A W' := h.trans (k.mono (Nat.le_of_lt H.lt))

/-- The comparison as told by a number V. -/
theorem compareRests_eq (a1 a2 b1 b2 V : Int) (w : World) (h : Hid (crV (a1, a2) (b1, b2) = V)) :
    Calls Tryd.prog 136 #[.agg #[.int .i64 a1, .int .i64 a2], .agg #[.int .i64 b1, .int .i64 b2]] w fun e w' => e = .returned (.int .i64 V) ∧ Below w.heap.size w w' := by
  rw [← h.out]; exact compareRests_any (a1, a2) (b1, b2) w

/-- What is apart stays apart. -/
theorem perm_apart {a b N : Nat} {f g : Nat → Int × Int} (x : PermOn a b f g) (hb : b ≤ N) (D : ∀ i j, i < N → j < N → i ≠ j → (f i).2 ≠ (f j).2) {i j : Nat} (h1 : a ≤ i) (h2 : i < b) (h3 : a ≤ j) (h4 : j < b) (h : i ≠ j) : (g i).2 ≠ (g j).2 := by
  obtain ⟨_, π, q1, q2⟩ := x
  obtain ⟨_, u1, u2⟩ := q1 i h1 h2
  obtain ⟨_, v1, v2⟩ := q1 j h3 h4
  rw [u2, v2]
  exact D _ _ (by omega) (by omega) (fun e => h (q2 i j h1 h2 h3 h4 e))

set_option maxHeartbeats 2000000 in
/-- The run from a to b is sorted; what was in it stays in it. -/
theorem insertion_any (B N cap a b : Nat) (t : TypeId) (f : Nat → Int × Int) (w : World) (hN : (N : Int) ≤ 1048576) (ha : a ≤ b) (hb : b ≤ N) (H : RB w B N t f) (D : ∀ i j, i < N → j < N → i ≠ j → (f i).2 ≠ (f j).2) :
    Calls Tryd.prog 185 #[.slice (some ⟨B, 0, none⟩) N cap, .int .i64 a, .int .i64 b, .func (Fn.func 136) #[] #[]] w fun e w' => e = .returned (.tuple #[]) ∧ ∃ g, RB w' B N t g ∧ PermOn a b f g ∧ SortedOn ltR g a b ∧ Below B w w' := by
  have HR : Hid (RB w B N t f) := H
  have HD : Hid (∀ i j, i < N → j < N → i ≠ j → (f i).2 ≠ (f j).2) := D
  clear H D
  have ia : (a : Int) ≤ 1048576 := by omega
  have ib : (b : Int) ≤ 1048576 := by omega
  go_enter Tryd.func185, Tryd.ntmps185
  go_wp2
  go_loopw [8] (fun i wr => ∃ k : Nat, a + 1 ≤ k ∧ (k = a + 1 ∨ k ≤ b) ∧ i = .int .i64 (k : Int) ∧ Hid (∃ g, RB wr B N t g ∧ PermOn a b f g ∧ SortedOn ltR g a k ∧ Below B w wr)) (fun i _ => b - (intOf i).toNat)
  case atStart => exact ⟨a + 1, Nat.le_refl _, .inl rfl, by go_num, f, HR.out, PermOn.refl _ _ _, fun p q _ _ _ => by omega, Below.refl _ _⟩
  case round =>
    obtain ⟨k, hk, hkb, rfl, hP⟩ := hrel
    by_cases hlt : k < b
    · have l1 : (k : Int) < (b : Int) := by omega
      go_wp2
      go_loopw [9] (fun j wq => ∃ m : Nat, a ≤ m ∧ m ≤ k ∧ j = .int .i64 (m : Int) ∧ Hid (∃ g, RB wq B N t g ∧ PermOn a b f g ∧ InsInv ltR g a k m ∧ Below B w wq)) (fun j _ => (intOf j).toNat)
      case atStart =>
        obtain ⟨g, q1, q2, q3, q4⟩ := hP.out
        exact ⟨k, by omega, Nat.le_refl _, rfl, g, q1, q2, InsInv.start q3 (by omega), q4⟩
      case round =>
        clear hP
        rename_i wr0
        obtain ⟨m, hm1, hm2, rfl, hQ⟩ := hrel
        have im : (m : Int) ≤ 1048576 := by omega
        by_cases hg : a < m
        · obtain ⟨p, hmp⟩ : ∃ p, m = p + 1 := ⟨m - 1, by omega⟩
          have dg : decide ((a : Int) < (m : Int)) = true := decide_eq_true (by omega)
          have ew : (m : Int) - 1 = (p : Int) := by omega
          have hwr : IntKind.i64.wrap ((m : Int) - 1) = (p : Int) := by rw [IntWalk.i64_in _ ⟨by omega, by omega⟩]; exact ew
          obtain ⟨g, hR, hp, hi, hB⟩ := hQ.out
          obtain ⟨c1, c2⟩ := hR.cell (j := m) (by omega)
          obtain ⟨c3, c4⟩ := hR.cell (j := p) (by omega)
          obtain ⟨x1, x2, hx⟩ : ∃ x1 x2, g m = (x1, x2) := ⟨_, _, rfl⟩
          obtain ⟨y1, y2, hy⟩ : ∃ y1 y2, g p = (y1, y2) := ⟨_, _, rfl⟩
          rw [hx] at c1 c2
          rw [hy] at c3 c4
          simp only at c1 c2 c3 c4
          have hRd : RB wr.drew B N t g := hR
          have hBd : Below B w wr.drew := hB.drew
          have Hx : Hid (g m = (x1, x2)) := hx
          have Hy : Hid (g p = (y1, y2)) := hy
          have Hp : Hid (PermOn a b f g) := hp
          have Hi : Hid (InsInv ltR g a k m) := hi
          have lm2 : (m : Int) < (N : Int) := by omega
          have lm3 : (p : Int) < (N : Int) := by omega
          have lm4 : (p : Int) ≤ 1048576 := by omega
          have Hmp : Hid (m = p + 1) := hmp
          have Hg : Hid (a < m) := hg
          have lg : (a : Int) < (m : Int) := by omega
          clear hx hy hR hB hp hi hQ hmp ew hg
          by_cases hc : ltR (x1, x2) (y1, y2)
          · obtain ⟨V, hV, HV⟩ : ∃ V, V < 0 ∧ Hid (crV (x1, x2) (y1, y2) = V) := ⟨-1, by omega, crV_lt hc⟩
            have dV : decide (V < 0) = true := decide_eq_true hV
            go_wp2
            go_region_held3 (fun w' => w'.cell? ⟨B, m * 2, none⟩ = some (.int .i64 x1) ∧ w'.cell? ⟨B, m * 2 + 1, none⟩ = some (.int .i64 x2) ∧ w'.cell? ⟨B, p * 2, none⟩ = some (.int .i64 y1) ∧ w'.cell? ⟨B, p * 2 + 1, none⟩ = some (.int .i64 y2) ∧ RB w' B N t g ∧ Below B w w')
              (refine ⟨?_, ?_, ?_, ?_, ?_, ?_⟩ <;> first | assumption | (simp [*]; done))
              (first | (go_at_call 136; refine (compareRests_eq _ _ _ _ V _ HV).mono ?_; rintro e w2 ⟨rfl, b2⟩; have q0 : w2.cell? ⟨B, m * 2, none⟩ = some (.int .i64 x1) := keep_cell' b2 (by simp [*]); have q1 : w2.cell? ⟨B, m * 2 + 1, none⟩ = some (.int .i64 x2) := keep_cell' b2 (by simp [*]); have q2 : w2.cell? ⟨B, p * 2, none⟩ = some (.int .i64 y1) := keep_cell' b2 (by simp [*]); have q3 : w2.cell? ⟨B, p * 2 + 1, none⟩ = some (.int .i64 y2) := keep_cell' b2 (by simp [*]); have q4 : RB w2 B N t g := rb_on (by assumption) b2; have q5 : Below B w w2 := bel_rb (g := g) (N := N) (t := t) (by assumption) (by assumption) b2))
            have HN : Hid (∃ g, RB ((((w2.setCell ⟨B, m * 2, none⟩ (.int .i64 y1)).setCell ⟨B, m * 2 + 1, none⟩ (.int .i64 y2)).setCell ⟨B, p * 2, none⟩ (.int .i64 x1)).setCell ⟨B, p * 2 + 1, none⟩ (.int .i64 x2)).drew B N t g ∧ PermOn a b f g ∧ InsInv ltR g a k p ∧ Below B w ((((w2.setCell ⟨B, m * 2, none⟩ (.int .i64 y1)).setCell ⟨B, m * 2 + 1, none⟩ (.int .i64 y2)).setCell ⟨B, p * 2, none⟩ (.int .i64 x1)).setCell ⟨B, p * 2 + 1, none⟩ (.int .i64 x2)).drew) := by
              have e := Hmp.out
              have hg := Hg.out
              refine ⟨swp g m (m - 1), RB.congr ((q4.set (i := m) (by omega) y1 y2).set (i := p) (by omega) x1 x2) (fun j hj => ?_), Hp.out.trans (swp_perm (by omega) (by omega)), ?_, ((((q5.setCell (Nat.le_refl _) _).setCell (Nat.le_refl _) _).setCell (Nat.le_refl _) _).setCell (Nat.le_refl _) _).drew⟩
              · unfold swp
                rw [show m - 1 = p by omega, Hx.out, Hy.out]
                by_cases z1 : j = p
                · rw [if_neg (by omega), if_pos z1, if_pos z1]
                · rw [if_neg z1, if_neg z1]
              · have := Hi.out.step (by omega) (by rw [show m - 1 = p by omega, Hx.out, Hy.out]; exact hc)
                rw [show m - 1 = p by omega] at this ⊢; exact this
            have r1 := q4.fr (m * 2)
            have r2 := q4.fr (m * 2 + 1)
            have r3 := q4.fr (p * 2)
            have r4 := q4.fr (p * 2 + 1)
            have hz : p + 1 = m := Hmp.out.symm
            have HZ : Hid (p + 1 = m) := hz
            have lpm : p < m := by omega
            clear hz c1 c2 c3 c4 hRd hBd q4 q5 b2
            go_wp2
            go_region
            go_wp2
            go_roundw
            case rel => exact ⟨p, by have := Hmp.out; have := Hg.out; omega, by have := Hmp.out; omega, by go_num, HN⟩
            case measure => have := Hmp.out; simp [intOf]; omega
          · obtain ⟨V, hV, HV⟩ : ∃ V, 0 ≤ V ∧ Hid (crV (x1, x2) (y1, y2) = V) := by
              rcases crV_ge hc with e | e
              · exact ⟨0, by omega, e⟩
              · exact ⟨1, by omega, e⟩
            have dV : decide (V < 0) = false := decide_eq_false (by omega)
            go_wp2
            go_region_held3 (fun w' => w'.cell? ⟨B, m * 2, none⟩ = some (.int .i64 x1) ∧ w'.cell? ⟨B, m * 2 + 1, none⟩ = some (.int .i64 x2) ∧ w'.cell? ⟨B, p * 2, none⟩ = some (.int .i64 y1) ∧ w'.cell? ⟨B, p * 2 + 1, none⟩ = some (.int .i64 y2) ∧ RB w' B N t g ∧ Below B w w')
              (refine ⟨?_, ?_, ?_, ?_, ?_, ?_⟩ <;> first | assumption | (simp [*]; done))
              (first | (go_at_call 136; refine (compareRests_eq _ _ _ _ V _ HV).mono ?_; rintro e w2 ⟨rfl, b2⟩; have q0 : w2.cell? ⟨B, m * 2, none⟩ = some (.int .i64 x1) := keep_cell' b2 (by simp [*]); have q1 : w2.cell? ⟨B, m * 2 + 1, none⟩ = some (.int .i64 x2) := keep_cell' b2 (by simp [*]); have q2 : w2.cell? ⟨B, p * 2, none⟩ = some (.int .i64 y1) := keep_cell' b2 (by simp [*]); have q3 : w2.cell? ⟨B, p * 2 + 1, none⟩ = some (.int .i64 y2) := keep_cell' b2 (by simp [*]); have q4 : RB w2 B N t g := rb_on (by assumption) b2; have q5 : Below B w w2 := bel_rb (g := g) (N := N) (t := t) (by assumption) (by assumption) b2))
            have HN : Hid (∃ g, RB w2 B N t g ∧ PermOn a b f g ∧ SortedOn ltR g a (k + 1) ∧ Below B w w2) := by
              have e := Hmp.out
              have hg := Hg.out
              have ap := perm_apart Hp.out hb HD.out (i := m) (j := p) (by omega) (by omega) (by omega) (by omega) (by omega)
              rw [Hx.out, Hy.out] at ap
              exact ⟨g, q4, Hp.out, Hi.out.done (fun x y z => ltR_trans) (.inr (by rw [show m - 1 = p by omega, Hx.out, Hy.out]; exact ltR_total ap hc)), q5⟩
            go_wp2
            go_roundw
            case rel => exact ⟨k + 1, by omega, .inr (by omega), by go_num, HN⟩
            case measure => simp [intOf]; omega
        · have dg : decide ((a : Int) < (m : Int)) = false := decide_eq_false (by omega)
          have HN : Hid (∀ q, ∃ g, RB (wr.drewN q) B N t g ∧ PermOn a b f g ∧ SortedOn ltR g a (k + 1) ∧ Below B w (wr.drewN q)) := by
            obtain ⟨g, hR, hp, hi, hB⟩ := hQ.out
            exact fun q => ⟨g, hR, hp, hi.done (fun x y z => ltR_trans) (.inl (by omega)), ⟨hB.os, hB.tape, hB.output, hB.size, hB.block⟩⟩
          go_wp2
          go_quiet ((fail))
          go_wp2
          go_roundw
          case rel => exact ⟨k + 1, by omega, .inr (by omega), by go_num, HN.out _⟩
          case measure => simp [intOf]; omega
    · have l1 : ¬ (k : Int) < (b : Int) := by omega
      have HN : Hid (∃ g, RB wr B N t g ∧ PermOn a b f g ∧ SortedOn ltR g a b ∧ Below B w wr) := by
        obtain ⟨g, q1, q2, q3, q4⟩ := hP.out
        exact ⟨g, q1, q2, fun p q r1 r2 r3 => q3 p q r1 r2 (by omega), q4⟩
      go_wp2
      go_returns
      exact ⟨rfl, HN.out⟩
end Go.Proofs.YtgnhpjlfdkpaiaaDoor.Sh
