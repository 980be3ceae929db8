/- The stable sort and Shares, part of it. The stable sort and Shares, part of it. -/
import Derived.WalkKit
import Derived.ProofKit
import Derived.Below
import Derived.OneCell
import Derived.Handy
import Derived.BigQuiet
import Derived.Test.YtdgccdlaokbnhaaProg
import Derived.WalkLawsBesides
import Derived.Outline
import Derived.Laws.MakeOwn
import Derived.Laws.OwnMore
import Derived.WalkSpells
import Derived.Deep.QuietTactic
import Derived.Deep.RegionWith
import Derived.Deep.DeepFit
import Derived.Lib.SmallJoins
import Derived.Deep.RegionHeld3
import Derived.BigRegion
namespace Go.Proofs.Ytdgccdlaokbnhaa.Sh
open Go.RowKit
set_option linter.unusedVariables false

/-- Block b holds these cells. -/
def CB (w : World) (b : Nat) (cs : Array Value) (t : TypeId) : Prop := w.heap[b]? = some (.cells cs t (0, 0))

section
variable {w w' : World} {b : Nat} {cs : Array Value} {t : TypeId}
theorem CB.lt (H : CB w b cs t) : b < w.heap.size := lt_of_block H
theorem CB.cell (H : CB w b cs t) (o : Nat) : w.cell? ⟨b, o, none⟩ = cs[o]? := by unfold CB at H; simp [World.cell?, H]
theorem CB.fr (H : CB w b cs t) (o : Nat) : w.frozen? ⟨b, o, none⟩ = false := by unfold CB at H; simp [World.frozen?, H]
theorem CB.set (H : CB w b cs t) (o : Nat) (v : Value) : CB (w.setCell ⟨b, o, none⟩ v) b (cs.setIfInBounds o v) t := by
  have hlt := H.lt
  unfold CB at H ⊢
  have h' : w.heap[b] = .cells cs t (0, 0) := by simpa [Array.getElem?_eq_getElem hlt] using H
  show (w.heap.modify b _)[b]? = _
  rw [Array.getElem?_eq_getElem (by simpa using hlt), Array.getElem_modify_self, h']
  simp
theorem CB.other (H : CB w b cs t) {c o : Nat} (u : Value) (h : b ≠ c) : CB (w.setCell ⟨c, o, none⟩ u) b cs t := by
  unfold CB at H ⊢
  rw [Below.heap_setCell _ _ _ _ (by simpa using h)]; exact H
theorem CB.below {B : Nat} (H : CB w b cs t) (k : Below B w w') (h : b < B) : CB w' b cs t := by
  unfold CB at H ⊢
  rw [k.block b h]; exact H
theorem CB.alloc (H : CB w b cs t) (o : Obj) : CB (w.alloc o) b cs t := H.below ((Below.refl _ _).alloc (Nat.le_refl _) o) H.lt
theorem CB.new (cs : Array Value) (t : TypeId) : CB (w.alloc (.cells cs t (0, 0))) w.heap.size cs t := by
  unfold CB
  show (w.heap.push _)[w.heap.size]? = _
  simp
end

theorem CB.newAt {w : World} {b : Nat} (h : w.heap.size = b) (cs : Array Value) (t : TypeId) : CB (w.alloc (.cells cs t (0, 0))) b cs t := h ▸ CB.new cs t
theorem bel_on {A W W' : World} (h : Below A.heap.size A W) (k : Below W.heap.size W W') : Below A.heap.size A W' := h.trans (k.mono h.size)

/-- A slice's first 'len' elements are the whole numbers z 0, z 1, .. -/
def IR (w : World) (ad : Option Addr) (len : Nat) (z : Nat → Int) : Prop :=
  len = 0 ∨ ∃ k off, ad = some ⟨k, off, none⟩ ∧ k < w.heap.size ∧ ∀ j, j < len → w.cell? ⟨k, off + j, none⟩ = some (.int .i64 (z j))

theorem IR.below {w w' : World} {ad : Option Addr} {len : Nat} {z : Nat → Int} (H : IR w ad len z) (t : Below w.heap.size w w') : IR w' ad len z := by
  rcases H with h | ⟨k, off, e, hk, hc⟩
  · exact .inl h
  · refine .inr ⟨k, off, e, Nat.lt_of_lt_of_le hk t.size, fun j hj => ?_⟩
    rw [World.cell?_of_block (w := w) (t.block k hk)]; exact hc j hj

theorem IR.alloc {w : World} {ad : Option Addr} {len : Nat} {z : Nat → Int} (H : IR w ad len z) (o : Obj) : IR (w.alloc o) ad len z := H.below ((Below.refl _ _).alloc (Nat.le_refl _) o)
theorem IR.drewN {w : World} {ad : Option Addr} {len : Nat} {z : Nat → Int} (H : IR w ad len z) (q : Nat) : IR (w.drewN q) ad len z := H

theorem IR.cell {w : World} {k off len : Nat} {z : Nat → Int} (H : IR w (some ⟨k, off, none⟩) len z) {j : Nat} (hj : j < len) : w.cell? ⟨k, off + j, none⟩ = some (.int .i64 (z j)) := by
  rcases H with h | ⟨k', off', e, hk, hc⟩
  · omega
  · simp only [Option.some.injEq, Addr.mk.injEq] at e
    obtain ⟨rfl, rfl, _⟩ := e
    exact hc j hj

theorem IR.other {w : World} {k off len : Nat} {z : Nat → Int} (H : IR w (some ⟨k, off, none⟩) len z) {c o : Nat} (u : Value) (h : k ≠ c) : IR (w.setCell ⟨c, o, none⟩ u) (some ⟨k, off, none⟩) len z := by
  rcases H with h' | ⟨k', off', e, hk, hc⟩
  · exact .inl h'
  · simp only [Option.some.injEq, Addr.mk.injEq] at e
    obtain ⟨rfl, rfl, _⟩ := e
    refine .inr ⟨k, off, rfl, by simpa using hk, fun j hj => ?_⟩
    rw [World.cell?_of_block (w := w) (Below.heap_setCell _ _ _ _ (by simpa using h))]; exact hc j hj

/-- Where there is an element there is an address. -/
theorem IR.addr {w : World} {ad : Option Addr} {len : Nat} {z : Nat → Int} (H : IR w ad len z) (h : 0 < len) : ∃ k off, ad = some ⟨k, off, none⟩ ∧ k < w.heap.size := by
  rcases H with h' | ⟨k', off', e, hk, hc⟩
  · omega
  · exact ⟨k', off', e, hk⟩

theorem IR.congr {w : World} {ad : Option Addr} {len : Nat} {z y : Nat → Int} (H : IR w ad len z) (h : ∀ j, j < len → z j = y j) : IR w ad len y := by
  rcases H with h' | ⟨k', off', e, hk, hc⟩
  · exact .inl h'
  · exact .inr ⟨k', off', e, hk, fun j hj => by rw [← h j hj]; exact hc j hj⟩

theorem IR.of_block {w : World} {b : Nat} {cs : Array Value} {t : TypeId} (H : CB w b cs t) (n : Nat) (z : Nat → Int) (h : ∀ j, j < n → cs[j]? = some (.int .i64 (z j))) : IR w (some ⟨b, 0, none⟩) n z :=
  .inr ⟨b, 0, rfl, H.lt, fun j hj => by rw [Nat.zero_add, H.cell]; exact h j hj⟩

end Go.Proofs.Ytdgccdlaokbnhaa.Sh

namespace Go.Proofs.Ytdgccdlaokbnhaa.Sh
open Go.ChangeShapes Go.WideShapes Go.ChangeAt Go.RowKit
set_option linter.unusedVariables false
set_option linter.unusedSimpArgs false

theorem row_block {w w' : World} {base : Nat} {e : TypeId} {size : Nat} {v : Value} {n : Nat} {xs : List Value} (h : w.ownsRow base e size v n xs) (hb : ∀ g, v.ownBlock = some g → w'.heap[g]? = w.heap[g]?) : w'.ownsRow base e size v n xs := by
  refine ⟨h.1, ?_⟩
  rcases h.2 with hn | ⟨g, cap, cur, rfl, hb', hgg, rest⟩
  · exact .inl hn
  · refine .inr ⟨g, cap, cur, rfl, hb', ?_, rest⟩
    rw [hb g rfl]
    exact hgg
theorem row_cells {w : World} {base : Nat} {e : TypeId} {size : Nat} {v : Value} {n : Nat} {xs : List Value} (h : w.ownsRow base e size v n xs) {g : Nat} (hg : v.ownBlock = some g) : ∃ cur, w.heap[g]? = some (.cells cur e (0, 0)) := by
  rcases h.2 with ⟨rfl, _⟩ | ⟨g', cap, cur, rfl, hb', hgg, rest⟩
  · simp [Value.ownBlock] at hg
  · simp [Value.ownBlock] at hg
    subst hg
    exact ⟨cur, hgg⟩
theorem row_form {w : World} {base : Nat} {e : TypeId} {size : Nat} {v : Value} {n : Nat} {xs : List Value} (h : w.ownsRow base e size v n xs) : ∃ ad cap, v = .slice ad n cap := by
  rcases h.2 with ⟨rfl, rfl⟩ | ⟨g', cap, cur, rfl, hb', hgg, rest⟩
  · exact ⟨none, 0, rfl⟩
  · exact ⟨_, cap, rfl⟩
theorem row_get {w : World} {base : Nat} {e : TypeId} {v : Value} {n : Nat} {xs : List Value} (h : w.ownsRow base e 1 v n xs) {j : Nat} (hj : j < n) : ∃ g cap, v = .slice (some ⟨g, 0, none⟩) n cap ∧ g < w.heap.size ∧ base ≤ g ∧ ∀ j, j < n → w.cell? ⟨g, j, none⟩ = xs[j]? := by
  rcases h.2 with ⟨rfl, rfl⟩ | ⟨g, cap, cur, rfl, hb', hgg, h1, h2, h3, h4⟩
  · omega
  · refine ⟨g, cap, rfl, lt_of_block hgg, hb', fun j hj => ?_⟩
    simp only [World.cell?, hgg]
    rw [← h4, Nat.mul_one, List.getElem?_take, if_pos hj]
    simp
theorem row_below {w w' : World} {base : Nat} {e : TypeId} {size : Nat} {v : Value} {n : Nat} {xs : List Value} (h : w.ownsRow base e size v n xs) (k : Below w.heap.size w w') : w'.ownsRow base e size v n xs := row_block h (fun g hg => k.block g (h.lt g hg).2)
theorem row_IR {w : World} {base m cap : Nat} {ad : Option Addr} {xs : List Value} {z : Nat → Int} (h : w.ownsRow base 3 1 (.slice ad m cap) m xs) (hz : ∀ j, j < m → xs[j]? = some (.int .i64 (z j))) : IR w ad m z := by
  by_cases h0 : m = 0
  · exact .inl h0
  · obtain ⟨g, cp, e, hlt, _, hc⟩ := row_get h (j := 0) (by omega)
    simp only [Value.slice.injEq] at e
    refine .inr ⟨g, 0, e.1, hlt, fun j hj => ?_⟩
    rw [Nat.zero_add, hc j hj, hz j hj]
/-- A row of whole numbers in a block of the call's own, and what else is left. -/
theorem row_block_of {w : World} {base m : Nat} {v : Value} {xs : List Value} (h : w.ownsRow base 3 1 v m xs) (hm : 0 < m) : ∃ g cap cur, v = .slice (some ⟨g, 0, none⟩) m cap ∧ base ≤ g ∧ CB w g cur 3 ∧ m ≤ cur.size := by
  rcases h.2 with ⟨rfl, rfl⟩ | ⟨g, cap, cur, rfl, hb', hgg, h1, h2, h3, h4⟩
  · omega
  · exact ⟨g, cap, cur, rfl, hb', hgg, by omega⟩
theorem row_lower {w : World} {base base' : Nat} {e : TypeId} {size : Nat} {v : Value} {n : Nat} {xs : List Value} (h : w.ownsRow base e size v n xs) (hb : base' ≤ base) : w.ownsRow base' e size v n xs := by
  refine ⟨h.1, ?_⟩
  rcases h.2 with hn | ⟨g, cap, cur, rfl, hb', rest⟩
  · exact .inl hn
  · exact .inr ⟨g, cap, cur, rfl, by omega, rest⟩
theorem heap_set {w : World} {b o x : Nat} {u : Value} (hne : x ≠ b) : (w.setCell ⟨b, o, none⟩ u).heap[x]? = w.heap[x]? := Below.heap_setCell _ _ _ _ (by show x ≠ b; exact hne)
theorem CB.ne {w : World} {b : Nat} {cs : Array Value} {t : TypeId} {base : Nat} {e : TypeId} {size : Nat} {v : Value} {n : Nat} {xs : List Value} (H : CB w b cs t) (h : w.ownsRow base e size v n xs) (ht : t ≠ e) : some b ≠ v.ownBlock := by
  intro hg
  obtain ⟨cur, hc⟩ := row_cells h hg.symm
  unfold CB at H
  rw [H] at hc
  simp at hc
  exact ht hc.2
theorem get_set_eq {cs : Array Value} {i : Nat} {v : Value} (h : i < cs.size) : (cs.setIfInBounds i v)[i]? = some v := by rw [Array.getElem?_setIfInBounds, if_pos rfl, if_pos h]
/-- A cell set leaves all other places. -/
theorem get_set_ne {cs : Array Value} {i j : Nat} {v : Value} (h : i ≠ j) : (cs.setIfInBounds i v)[j]? = cs[j]? := by rw [Array.getElem?_setIfInBounds, if_neg h]
/-- A new row of whole numbers is handed back. -/
def NewI (m : Nat) (zs : List Value) (w : World) (e : Ending) (w' : World) : Prop :=
  ∃ ad cap, e = .returned (.slice ad m cap) ∧ w'.ownsRow w.heap.size 3 1 (.slice ad m cap) m zs ∧ Below w.heap.size w w'
set_option maxRecDepth 100000 in
theorem info3 : ∃ i, Try.prog.info? 3 = some i ∧ i.zero = some (.int .i64 0) ∧ i.size = 1 ∧ i.bytes = 8 := by
  obtain ⟨i0, hi⟩ : ∃ i, Try.prog.info? 3 = some i := ⟨_, rfl⟩
  have hz0 : i0.zero = some (.int .i64 0) := by
    have : (Try.prog.info? 3).bind (·.zero) = some (.int .i64 0) := by kernel_rfl
    rw [hi] at this; exact this
  have hz1 : i0.size = 1 := by
    have : (Try.prog.info? 3).map (·.size) = some 1 := by kernel_rfl
    rw [hi] at this; simpa using this
  have hz2 : i0.bytes = 8 := by
    have : (Try.prog.info? 3).map (·.bytes) = some 8 := by kernel_rfl
    rw [hi] at this; simpa using this
  exact ⟨i0, hi, hz0, hz1, hz2⟩
def zeros (n : Nat) : Array Value := madeCells #[.int .i64 0] n
theorem zeros_size (n : Nat) : (zeros n).size = n := size_madeCells _ _
set_option maxRecDepth 100000 in
theorem mkI (n : Nat) (h : (n : Int) ≤ 1048576) (w : World) : (Instr.makeSlice 27 (.int .i64 (n : Int)) (.int .i64 (n : Int))).run Try.prog w = .ok (.slice (some ⟨w.heap.size, 0, none⟩) n n) (w.alloc (.cells (zeros n) 3)) := by
  obtain ⟨i, hi⟩ : ∃ i, Try.prog.info? 3 = some i := ⟨_, rfl⟩
  have hz : i.zero = some (.int .i64 0) := by
    have : (Try.prog.info? 3).bind (·.zero) = some (.int .i64 0) := by kernel_rfl
    rw [hi] at this; exact this
  have hs : i.size = 1 := by
    have : (Try.prog.info? 3).map (·.size) = some 1 := by kernel_rfl
    rw [hi] at this; simpa using this
  have hb : i.bytes = 8 := by
    have : (Try.prog.info? 3).map (·.bytes) = some 8 := by kernel_rfl
    rw [hi] at this; simpa using this
  have hr := run_make (P := Try.prog) w 27 3 i (.int .i64 0) Try.underlying27 hi hz .i64 .i64 n n (by omega) (by omega) (by rw [hb]; omega) (by omega)
  simp only [Int.toNat_natCast, hs, Nat.mul_one] at hr
  exact hr
theorem row_of_block {w : World} {b base n : Nat} {cs : Array Value} (hC : CB w b cs 3) (hs : cs.size = n) (hb : base ≤ b) (hn : n ≤ 1048576) : w.ownsRow base 3 1 (.slice (some ⟨b, 0, none⟩) n n) n cs.toList :=
  ⟨by simp [hs], .inr ⟨b, n, cs, rfl, hb, hC, Nat.le_refl _, by unfold maxLen; omega, by omega, by rw [Nat.mul_one]; exact List.take_of_length_le (by simp [hs])⟩⟩
theorem CB.keep {w w' : World} {b : Nat} {cs : Array Value} {t : TypeId} (H : CB w b cs t) (h : w'.heap[b]? = w.heap[b]?) : CB w' b cs t := by unfold CB at H ⊢; rw [h]; exact H
def sm (z : Nat → Int) : Nat → Int
  | 0 => 0
  | n + 1 => sm z n + z n
theorem sm_succ (z : Nat → Int) (n : Nat) : sm z (n + 1) = sm z n + z n := rfl
theorem sm_bound {z : Nat → Int} {n : Nat} {M : Int} (hM : 0 ≤ M) (h : ∀ j, j < n → -M ≤ z j ∧ z j ≤ M) : ∀ a e, a ≤ e → e ≤ n → -(M * (e - a : Int)) ≤ sm z e - sm z a ∧ sm z e - sm z a ≤ M * (e - a : Int) := by
  intro a e
  induction e with
  | zero => intro h1 h2; have : a = 0 := by omega
            subst this; simp
  | succ k ih =>
    intro h1 h2
    by_cases g : a = k + 1
    · subst g; simp
    · obtain ⟨b1, b2⟩ := ih (by omega) (by omega)
      obtain ⟨c1, c2⟩ := h k (by omega)
      rw [sm_succ]
      have e1 : M * (((k + 1 : Nat) : Int) - (a : Int)) = M * ((k : Int) - (a : Int)) + M := by
        rw [show (((k + 1 : Nat) : Int) - (a : Int)) = ((k : Int) - (a : Int)) + 1 by omega, Int.mul_add, Int.mul_one]
      rw [e1]
      omega
theorem sm_congr {y z : Nat → Int} : ∀ {n : Nat}, (∀ j, j < n → y j = z j) → sm y n = sm z n
  | 0, _ => rfl
  | n + 1, h => by rw [sm_succ, sm_succ, sm_congr (fun j hj => h j (by omega)), h n (by omega)]
end Go.Proofs.Ytdgccdlaokbnhaa.Sh

namespace Go.Proofs.Ytdgccdlaokbnhaa.Sh
set_option linter.unusedVariables false

/-- f' is f but for the places from a up to b, which are rearranged. -/
def PermOn {α : Type} (a b : Nat) (f f' : Nat → α) : Prop :=
  (∀ i, ¬ (a ≤ i ∧ i < b) → f' i = f i) ∧ ∃ p : Nat → Nat, (∀ i, a ≤ i → i < b → a ≤ p i ∧ p i < b ∧ f' i = f (p i)) ∧ (∀ i j, a ≤ i → i < b → a ≤ j → j < b → p i = p j → i = j)

section
variable {α : Type} {a b c : Nat} {f g h : Nat → α}
theorem PermOn.refl (a b : Nat) (f : Nat → α) : PermOn a b f f := ⟨fun _ _ => rfl, fun i => i, fun i h1 h2 => ⟨h1, h2, rfl⟩, fun i j _ _ _ _ e => e⟩
theorem PermOn.trans (x : PermOn a b f g) (y : PermOn a b g h) : PermOn a b f h := by
  obtain ⟨x1, p, x2, x3⟩ := x
  obtain ⟨y1, q, y2, y3⟩ := y
  refine ⟨fun i hi => (y1 i hi).trans (x1 i hi), fun i => p (q i), fun i h1 h2 => ?_, fun i j h1 h2 h3 h4 e => ?_⟩
  · obtain ⟨u1, u2, u3⟩ := y2 i h1 h2
    obtain ⟨v1, v2, v3⟩ := x2 (q i) u1 u2
    exact ⟨v1, v2, u3.trans v3⟩
  · obtain ⟨u1, u2, _⟩ := y2 i h1 h2
    obtain ⟨v1, v2, _⟩ := y2 j h3 h4
    exact y3 i j h1 h2 h3 h4 (x3 _ _ u1 u2 v1 v2 e)
theorem PermOn.mono {a' b' : Nat} (x : PermOn a b f g) (ha : a' ≤ a) (hb : b ≤ b') : PermOn a' b' f g := by
  obtain ⟨x1, p, x2, x3⟩ := x
  refine ⟨fun i hi => x1 i (fun q => hi ⟨by omega, by omega⟩), fun i => if a ≤ i ∧ i < b then p i else i, fun i h1 h2 => ?_, fun i j h1 h2 h3 h4 e => ?_⟩
  · by_cases q : a ≤ i ∧ i < b
    · obtain ⟨u1, u2, u3⟩ := x2 i q.1 q.2
      simp only [if_pos q]
      exact ⟨by omega, by omega, u3⟩
    · simp only [if_neg q]
      exact ⟨h1, h2, x1 i q⟩
  · simp only at e
    by_cases q : a ≤ i ∧ i < b <;> by_cases r : a ≤ j ∧ j < b
    · rw [if_pos q, if_pos r] at e
      exact x3 i j q.1 q.2 r.1 r.2 e
    · rw [if_pos q, if_neg r] at e
      obtain ⟨u1, u2, _⟩ := x2 i q.1 q.2
      exact absurd ⟨by omega, by omega⟩ r
    · rw [if_neg q, if_pos r] at e
      obtain ⟨u1, u2, _⟩ := x2 j r.1 r.2
      exact absurd ⟨by omega, by omega⟩ q
    · rw [if_neg q, if_neg r] at e; exact e

/-- What the places a up to m and m up to b hold change sides, each in its order. -/
def rot (a m b : Nat) (f : Nat → α) (i : Nat) : α := if a ≤ i ∧ i < a + (b - m) then f (i + (m - a)) else if a + (b - m) ≤ i ∧ i < b then f (i - (b - m)) else f i
theorem rot_lo {m i : Nat} (h1 : a ≤ i) (h2 : i < a + (b - m)) : rot a m b f i = f (i + (m - a)) := if_pos ⟨h1, h2⟩
theorem rot_hi {m i : Nat} (h1 : a + (b - m) ≤ i) (h2 : i < b) : rot a m b f i = f (i - (b - m)) := by unfold rot; rw [if_neg (by omega), if_pos ⟨h1, h2⟩]
theorem rot_out {m i : Nat} (ha : a ≤ m) (hm : m ≤ b) (h : ¬ (a ≤ i ∧ i < b)) : rot a m b f i = f i := by unfold rot; rw [if_neg (by omega), if_neg (by omega)]
theorem rot_perm {m : Nat} (ha : a ≤ m) (hm : m ≤ b) : PermOn a b f (rot a m b f) := by
  refine ⟨fun i hi => rot_out ha hm hi, fun i => if i < a + (b - m) then i + (m - a) else i - (b - m), fun i h1 h2 => ?_, fun i j h1 h2 h3 h4 e => ?_⟩
  · by_cases q : i < a + (b - m)
    · simp only [if_pos q]; exact ⟨by omega, by omega, rot_lo h1 q⟩
    · simp only [if_neg q]; exact ⟨by omega, by omega, rot_hi (by omega) h2⟩
  · simp only at e
    by_cases q : i < a + (b - m) <;> by_cases r : j < a + (b - m)
    · rw [if_pos q, if_pos r] at e; omega
    · rw [if_pos q, if_neg r] at e; omega
    · rw [if_neg q, if_pos r] at e; omega
    · rw [if_neg q, if_neg r] at e; omega
end

section
variable {α : Type} (lt : α → α → Prop)
def SortedOn (f : Nat → α) (a b : Nat) : Prop := ∀ i j, a ≤ i → i < j → j < b → lt (f i) (f j)
variable {lt} {f g h : Nat → α} {a b m : Nat}
theorem SortedOn.sub {a' b' : Nat} (x : SortedOn lt f a b) (h1 : a ≤ a') (h2 : b' ≤ b) : SortedOn lt f a' b' := fun i j p q r => x i j (by omega) q (by omega)
theorem SortedOn.congr (x : SortedOn lt f a b) (e : ∀ i, a ≤ i → i < b → g i = f i) : SortedOn lt g a b := fun i j p q r => by rw [e i p (by omega), e j (by omega) r]; exact x i j p q r

/-- Both halves sorted, and all of the first ahead of all of the second. -/
theorem sorted_join (x : SortedOn lt f a m) (y : SortedOn lt f m b) (z : ∀ i j, a ≤ i → i < m → m ≤ j → j < b → lt (f i) (f j)) : SortedOn lt f a b := fun i j p q r => by
  rcases Nat.lt_or_ge j m with s | s
  · exact x i j p q s
  · rcases Nat.lt_or_ge i m with t | t
    · exact z i j p t s r
    · exact y i j t q r
/-- A rearrangement within each half leaves the first ahead of the second. -/
theorem cross_perm (z : ∀ i j, a ≤ i → i < m → m ≤ j → j < b → lt (f i) (f j)) (x : PermOn a m f g) (y : PermOn m b g h) (ham : a ≤ m) : ∀ i j, a ≤ i → i < m → m ≤ j → j < b → lt (h i) (h j) := by
  intro i j h1 h2 h3 h4
  obtain ⟨x1, p, x2, _⟩ := x
  obtain ⟨y1, q, y2, _⟩ := y
  obtain ⟨u1, u2, u3⟩ := x2 i h1 h2
  obtain ⟨v1, v2, v3⟩ := y2 j h3 h4
  rw [y1 i (by omega), u3, v3, x1 (q j) (by omega)]
  exact z _ _ u1 u2 v1 v2

/-- The step of the merge: 's' parts the first half so that the rotation lays the lesser ones ahead. -/
theorem merge_step (tr : ∀ x y z, lt x y → lt y z → lt x z) {mid s e : Nat} (ham : a ≤ m) (hmb : m ≤ b) (hmid : a ≤ mid ∧ mid ≤ b) (he : s + e = mid + m) (hs1 : a ≤ s) (hs2 : s ≤ m) (he1 : m ≤ e) (he2 : e ≤ b)
    (x : SortedOn lt f a m) (y : SortedOn lt f m b)
    (hl : a < s → e < b → lt (f (s - 1)) (f e)) (hr : s < m → m < e → lt (f (e - 1)) (f s)) :
    SortedOn lt (rot s m e f) a s ∧ SortedOn lt (rot s m e f) s mid ∧ SortedOn lt (rot s m e f) mid e ∧ SortedOn lt (rot s m e f) e b ∧ ∀ i j, a ≤ i → i < mid → mid ≤ j → j < b → lt (rot s m e f i) (rot s m e f j) := by
  have hmd : mid = s + (e - m) := by omega
  have le1 : ∀ i, a ≤ i → i < s → ∀ j, e ≤ j → j < b → lt (f i) (f j) := fun i h1 h2 j h3 h4 => by
    have k := hl (by omega) (by omega)
    have k1 : lt (f i) (f e) := by
      by_cases q : i = s - 1
      · rw [q]; exact k
      · exact tr _ _ _ (x i (s - 1) h1 (by omega) (by omega)) k
    by_cases q : j = e
    · rw [q]; exact k1
    · exact tr _ _ _ k1 (y e j (by omega) (by omega) h4)
  have le2 : ∀ i, m ≤ i → i < e → ∀ j, s ≤ j → j < m → lt (f i) (f j) := fun i h1 h2 j h3 h4 => by
    have k := hr (by omega) (by omega)
    have k1 : lt (f i) (f s) := by
      by_cases q : i = e - 1
      · rw [q]; exact k
      · exact tr _ _ _ (y i (e - 1) h1 (by omega) (by omega)) k
    by_cases q : j = s
    · rw [q]; exact k1
    · exact tr _ _ _ k1 (x s j (by omega) (by omega) h4)
  have out : ∀ i, ¬ (s ≤ i ∧ i < e) → rot s m e f i = f i := fun i hi => rot_out (by omega) (by omega) hi
  have lo : ∀ i, s ≤ i → i < mid → rot s m e f i = f (i + (m - s)) := fun i h1 h2 => rot_lo h1 (by omega)
  have hi : ∀ i, mid ≤ i → i < e → rot s m e f i = f (i - (e - m)) := fun i h1 h2 => rot_hi (by omega) h2
  refine ⟨(x.sub (Nat.le_refl _) hs2).congr (fun i h1 h2 => out i (by omega)), fun i j h1 h2 h3 => ?_, fun i j h1 h2 h3 => ?_, (y.sub he1 (Nat.le_refl _)).congr (fun i h1 h2 => out i (by omega)), fun i j h1 h2 h3 h4 => ?_⟩
  · rw [lo i h1 (by omega), lo j (by omega) h3]; exact y _ _ (by omega) (by omega) (by omega)
  · rw [hi i h1 (by omega), hi j (by omega) h3]; exact x _ _ (by omega) (by omega) (by omega)
  · rcases Nat.lt_or_ge i s with q | q <;> rcases Nat.lt_or_ge j e with r | r
    · rw [out i (by omega), hi j h3 r]; exact x _ _ h1 (by omega) (by omega)
    · rw [out i (by omega), out j (by omega)]; exact le1 i h1 q j r h4
    · rw [lo i q h2, hi j h3 r]; exact le2 _ (by omega) (by omega) _ (by omega) (by omega)
    · rw [lo i q h2, out j (by omega)]; exact y _ _ (by omega) (by omega) h4
end

end Go.Proofs.Ytdgccdlaokbnhaa.Sh

namespace Go.Proofs.Ytdgccdlaokbnhaa.Sh
set_option linter.unusedVariables false

section
variable {α : Type} {f g : Nat → α} {a b m : Nat}
/-- The places i and j change what they hold. -/
def swp (f : Nat → α) (i j : Nat) (k : Nat) : α := if k = i then f j else if k = j then f i else f k
theorem swp_l (f : Nat → α) (i j : Nat) : swp f i j i = f j := if_pos rfl
theorem swp_r (f : Nat → α) (i j : Nat) : swp f i j j = f i := by
  unfold swp
  by_cases h : j = i
  · rw [if_pos h, h]
  · rw [if_neg h, if_pos rfl]
theorem swp_o {i j k : Nat} (h1 : k ≠ i) (h2 : k ≠ j) : swp f i j k = f k := by unfold swp; rw [if_neg h1, if_neg h2]
theorem swp_perm {i j : Nat} (h1 : a ≤ i ∧ i < b) (h2 : a ≤ j ∧ j < b) : PermOn a b f (swp f i j) := by
  refine ⟨fun k hk => swp_o (fun e => hk (e ▸ h1)) (fun e => hk (e ▸ h2)), fun k => if k = i then j else if k = j then i else k, fun k q1 q2 => ?_, fun x y q1 q2 q3 q4 e => ?_⟩
  · by_cases e1 : k = i
    · subst e1; simp only [if_true]; exact ⟨h2.1, h2.2, swp_l _ _ _⟩
    · by_cases e2 : k = j
      · subst e2; simp only [if_neg e1, if_true]; exact ⟨h1.1, h1.2, swp_r _ _ _⟩
      · simp only [if_neg e1, if_neg e2]; exact ⟨q1, q2, swp_o e1 e2⟩
  · simp only at e
    split at e <;> split at e <;> (try split at e) <;> (try split at e) <;> omega
end

section
variable {α : Type} {lt : α → α → Prop} {f : Nat → α} {a i j m b e : Nat}
/-- All up to i is sorted but for the place j, which is less than all behind it. -/
def InsInv (lt : α → α → Prop) (f : Nat → α) (a i j : Nat) : Prop :=
  a ≤ j ∧ j ≤ i ∧ (∀ p q, a ≤ p → p < q → q ≤ i → p ≠ j → q ≠ j → lt (f p) (f q)) ∧ ∀ q, j < q → q ≤ i → lt (f j) (f q)
theorem InsInv.start (h : SortedOn lt f a i) (hai : a ≤ i) : InsInv lt f a i i := ⟨hai, Nat.le_refl _, fun p q h1 h2 h3 h4 h5 => h p q h1 h2 (by omega), fun q h1 h2 => by omega⟩
theorem InsInv.step (h : InsInv lt f a i j) (hj : a < j) (hl : lt (f j) (f (j - 1))) : InsInv lt (swp f j (j - 1)) a i (j - 1) := by
  obtain ⟨h1, h2, h3, h4⟩ := h
  refine ⟨by omega, by omega, fun p q q1 q2 q3 q4 q5 => ?_, fun q q1 q2 => ?_⟩
  · by_cases ep : p = j <;> by_cases eq : q = j
    · omega
    · subst ep; rw [swp_l, swp_o eq q5]; exact h3 (p - 1) q (by omega) (by omega) q3 (by omega) eq
    · subst eq; rw [swp_o ep q4, swp_l]; exact h3 p (q - 1) q1 (by omega) (by omega) ep (by omega)
    · rw [swp_o ep q4, swp_o eq q5]; exact h3 p q q1 q2 q3 ep eq
  · rw [swp_r]
    by_cases eq : q = j
    · subst eq; rw [swp_l]; exact hl
    · rw [swp_o eq (by omega)]; exact h4 q (by omega) q2
theorem InsInv.done (tr : ∀ x y z, lt x y → lt y z → lt x z) (h : InsInv lt f a i j) (he : j = a ∨ lt (f (j - 1)) (f j)) : SortedOn lt f a (i + 1) := by
  obtain ⟨h1, h2, h3, h4⟩ := h
  intro p q q1 q2 q3
  by_cases ep : p = j
  · rw [ep]; exact h4 q (by omega) (by omega)
  · by_cases eq : q = j
    · rw [eq]
      rcases he with e | e
      · omega
      · by_cases e2 : p = j - 1
        · rw [e2]; exact e
        · exact tr _ _ _ (h3 p (j - 1) q1 (by omega) (by omega) ep (by omega)) e
    · exact h3 p q q1 q2 (by omega) ep eq

/-- One element ahead of a sorted row, laid where it belongs. -/
theorem one_left (he : a + 1 ≤ e ∧ e ≤ b) (y : SortedOn lt f (a + 1) b) (hl : ∀ i, a + 1 ≤ i → i < e → lt (f i) (f a)) (hr : ∀ i, e ≤ i → i < b → lt (f a) (f i)) : SortedOn lt (rot a (a + 1) e f) a b := by
  have lo : ∀ i, a ≤ i → i < e - 1 → rot a (a + 1) e f i = f (i + 1) := fun i h1 h2 => by rw [rot_lo h1 (by omega)]; congr 1; omega
  have top : rot a (a + 1) e f (e - 1) = f a := by rw [rot_hi (by omega) (by omega)]; congr 1; omega
  have out : ∀ i, e ≤ i → rot a (a + 1) e f i = f i := fun i h => rot_out (by omega) (by omega) (by omega)
  intro i j h1 h2 h3
  rcases Nat.lt_or_ge j e with r | r
  · by_cases ej : j = e - 1
    · rw [ej, top, lo i h1 (by omega)]; exact hl _ (by omega) (by omega)
    · rw [lo i h1 (by omega), lo j (by omega) (by omega)]; exact y _ _ (by omega) (by omega) (by omega)
  · rw [out j r]
    by_cases ei : i = e - 1
    · rw [ei, top]; exact hr j r h3
    · rcases Nat.lt_or_ge i e with s | s
      · rw [lo i h1 (by omega)]; exact y _ _ (by omega) (by omega) h3
      · rw [out i s]; exact y _ _ (by omega) h2 h3
/-- One element behind a sorted row, laid where it belongs. -/
theorem one_right (he : a ≤ e ∧ e ≤ m) (x : SortedOn lt f a m) (hl : ∀ i, a ≤ i → i < e → lt (f i) (f m)) (hr : ∀ i, e ≤ i → i < m → lt (f m) (f i)) : SortedOn lt (rot e m (m + 1) f) a (m + 1) := by
  have fst : rot e m (m + 1) f e = f m := by rw [rot_lo (Nat.le_refl _) (by omega)]; congr 1; omega
  have hi : ∀ i, e < i → i ≤ m → rot e m (m + 1) f i = f (i - 1) := fun i h1 h2 => by rw [rot_hi (by omega) (by omega)]; congr 1; omega
  have out : ∀ i, i < e → rot e m (m + 1) f i = f i := fun i h => rot_out (by omega) (by omega) (by omega)
  intro i j h1 h2 h3
  rcases Nat.lt_or_ge i e with r | r
  · rw [out i r]
    rcases Nat.lt_trichotomy j e with s | s | s
    · rw [out j s]; exact x _ _ h1 h2 (by omega)
    · rw [s, fst]; exact hl i h1 r
    · rw [hi j s (by omega)]; exact x _ _ h1 (by omega) (by omega)
  · by_cases ei : i = e
    · rw [ei, fst, hi j (by omega) (by omega)]; exact hr _ (by omega) (by omega)
    · rw [hi i (by omega) (by omega), hi j (by omega) (by omega)]; exact x _ _ (by omega) (by omega) (by omega)
end

end Go.Proofs.Ytdgccdlaokbnhaa.Sh

namespace Go.Proofs.Ytdgccdlaokbnhaa.Sh
open Go.ChangeShapes Go.WideShapes Go.ChangeAt Go.RowKit
set_option linter.unusedVariables false
set_option linter.unusedSimpArgs false

theorem ret_bool {a b : Bool} (h : a = b) : Ending.returned (.bool a) = .returned (.bool b) := by rw [h]
theorem ret_int {a b : Int} (h : a = b) : Ending.returned (.int .i64 a) = .returned (.int .i64 b) := by rw [h]

theorem isNaN_any (x : Int) (w : World) : Calls Try.prog 117 #[.int .i64 x] w fun e w' => e = .returned (.bool false) ∧ w' = w := by
  go_enter Try.func117, Try.ntmps117
  go_wp2
  all_goals go_returns
  all_goals exact ⟨ret_bool (by simp), rfl⟩

/-- What cmp.Compare tells. -/
def cm (a b : Int) : Int := if a < b then -1 else if b < a then 1 else 0
theorem cm_l {a b : Int} (h : a < b) : cm a b = -1 := if_pos h
theorem cm_g {a b : Int} (h : b < a) : cm a b = 1 := by unfold cm; rw [if_neg (by omega), if_pos h]
theorem cm_e (a : Int) : cm a a = 0 := by unfold cm; rw [if_neg (by omega), if_neg (by omega)]

theorem compare_any (a b : Int) (w : World) : Calls Try.prog 111 #[.int .i64 a, .int .i64 b] w fun e w' => e = .returned (.int .i64 (cm a b)) ∧ w' = w := by
  by_cases h1 : a < b
  · rw [cm_l h1]
    go_enter Try.func111, Try.ntmps111
    go_wp2_with (go_at_call 117; refine (isNaN_any _ _).mono ?_; rintro e w1 ⟨rfl, rfl⟩)
    all_goals go_returns
    all_goals exact ⟨rfl, rfl⟩
  · by_cases h2 : b < a
    · rw [cm_g h2]
      go_enter Try.func111, Try.ntmps111
      go_wp2_with (go_at_call 117; refine (isNaN_any _ _).mono ?_; rintro e w1 ⟨rfl, rfl⟩)
      all_goals go_returns
      all_goals exact ⟨rfl, rfl⟩
    · obtain rfl : a = b := by omega
      rw [cm_e]
      go_enter Try.func111, Try.ntmps111
      go_wp2_with (go_at_call 117; refine (isNaN_any _ _).mono ?_; rintro e w1 ⟨rfl, rfl⟩)
      all_goals go_returns
      all_goals exact ⟨rfl, rfl⟩

/-- What cmp.Or tells of two. -/
def orV (a b : Int) : Int := if a ≠ 0 then a else b

set_option maxHeartbeats 1000000 in
theorem or_any (a b : Int) (k off : Nat) (w : World) (h0 : w.cell? ⟨k, off, none⟩ = some (.int .i64 a)) (h1 : w.cell? ⟨k, off + 1, none⟩ = some (.int .i64 b)) :
    Calls Try.prog 110 #[.slice (some ⟨k, off, none⟩) 2 2] w fun e w' => e = .returned (.int .i64 (orV a b)) ∧ w' = w := by
  have HR : ∀ j : Nat, j < 2 → w.cell? ⟨k, off + j, none⟩ = some (.int .i64 (if j = 0 then a else b)) := by
    intro j hj
    rcases (show j = 0 ∨ j = 1 by omega) with rfl | rfl
    · exact h0
    · exact h1
  have HH : Hid (∀ j : Nat, j < 2 → w.cell? ⟨k, off + j, none⟩ = some (.int .i64 (if j = 0 then a else b))) := HR
  clear HR h0 h1
  go_enter Try.func110, Try.ntmps110
  go_wp2
  go_loop [8] (fun i => ∃ j : Nat, j ≤ 2 ∧ i = .int .i64 (j : Int) ∧ Hid ((1 ≤ j → a = 0) ∧ (2 ≤ j → b = 0))) (fun i => 2 - (intOf i).toNat)
  case atStart => exact ⟨0, Nat.zero_le _, rfl, fun h => by omega, fun h => by omega⟩
  case round =>
    obtain ⟨j, hj, rfl, hP⟩ := hrel
    rcases (show j = 0 ∨ j = 1 ∨ j = 2 by omega) with rfl | rfl | rfl
    · have c1 := HH.out 0 (by omega)
      simp at c1
      by_cases ha : a = 0
      · have hP1 : Hid ((1 ≤ 1 → a = 0) ∧ (2 ≤ 1 → b = 0)) := ⟨fun _ => ha, fun h => by omega⟩
        go_wp2
        go_round
        case rel => exact ⟨1, by omega, by go_num, hP1⟩
        case measure => simp [intOf]
      · have hv : Hid (orV a b = a) := if_pos ha
        go_wp2
        go_returns
        exact ⟨ret_int hv.out.symm, rfl⟩
    · have c1 := HH.out 1 (by omega)
      simp at c1
      have ha : Hid (a = 0) := hP.out.1 (by omega)
      by_cases hb : b = 0
      · have hP1 : Hid ((1 ≤ 2 → a = 0) ∧ (2 ≤ 2 → b = 0)) := ⟨fun _ => ha.out, fun h => hb⟩
        go_wp2
        go_round
        case rel => exact ⟨2, by omega, by go_num, hP1⟩
        case measure => simp [intOf]
      · have hv : Hid (orV a b = b) := if_neg (by simp [ha.out])
        go_wp2
        go_returns
        exact ⟨ret_int hv.out.symm, rfl⟩
    · have hv : Hid (orV a b = 0) := by
        have e1 := hP.out.1 (by omega)
        have e2 := hP.out.2 (by omega)
        show orV a b = 0
        unfold orV; rw [e1, e2]; simp
      go_wp2
      go_returns
      exact ⟨ret_int hv.out.symm, rfl⟩

/-- What compareRests tells: the greater rest first, then the lower place. -/
def crV (a b : Int × Int) : Int := orV (cm b.1 a.1) (cm a.2 b.2)

theorem cell_at {w w' : World} {b o : Nat} {v : Value} (h : w.cell? ⟨b, o, none⟩ = some v) (k : Below w.heap.size w w') (hb : b < w.heap.size) : w'.cell? ⟨b, o, none⟩ = some v := by
  rw [World.cell?_of_block (w := w) (k.block b hb)]; exact h

theorem or_new (X Y : Int) (U : World) (t : TypeId) :
    Calls Try.prog 110 #[.slice (some ⟨U.heap.size, 0, none⟩) 2 2] (U.alloc (.cells #[.int .i64 X, .int .i64 Y] t (0, 0))) fun e w' => e = .returned (.int .i64 (orV X Y)) ∧ w' = U.alloc (.cells #[.int .i64 X, .int .i64 Y] t (0, 0)) :=
  or_any X Y U.heap.size 0 _ (by rw [(CB.new (w := U) _ t).cell]; rfl) (by rw [(CB.new (w := U) _ t).cell]; rfl)
end Go.Proofs.Ytdgccdlaokbnhaa.Sh

namespace Go.Proofs.Ytdgccdlaokbnhaa.Sh
open Go.ChangeShapes Go.WideShapes Go.ChangeAt Go.RowKit
set_option linter.unusedVariables false
set_option linter.unusedSimpArgs false

set_option maxHeartbeats 1000000 in
theorem compareRests_any (a b : Int × Int) (w : World) :
    Calls Try.prog 99 #[.agg #[.int .i64 a.1, .int .i64 a.2], .agg #[.int .i64 b.1, .int .i64 b.2]] w fun e w' => e = .returned (.int .i64 (crV a b)) ∧ Below w.heap.size w w' := by
  obtain ⟨d, f⟩ := a
  obtain ⟨d2, f2⟩ := b
  go_enter Try.func99, Try.ntmps99
  go_wp2
  go_region_held3 (fun w' => w'.cell? ⟨w.heap.size, 0, none⟩ = some (.int .i64 d) ∧ w'.cell? ⟨w.heap.size, 1, none⟩ = some (.int .i64 f) ∧ w'.cell? ⟨w.heap.size + 1, 0, none⟩ = some (.int .i64 d2) ∧ w'.cell? ⟨w.heap.size + 1, 1, none⟩ = some (.int .i64 f2))
    (go_keep)
    (first
    | (go_at_call 111; refine (compare_any _ _ _).mono ?_; rintro e w2 ⟨rfl, rfl⟩)
    | (go_at_call 110; refine (or_any (cm d2 d) (cm f f2) _ _ _ ((CB.newAt (by simp) _ _).cell 0) ((CB.newAt (by simp) _ _).cell 1)).mono ?_; rintro e w2 ⟨rfl, rfl⟩))
  go_wp2
  go_returns
  exact ⟨rfl, by first | (refine Below.drew ?_; go_grown) | go_grown⟩
end Go.Proofs.Ytdgccdlaokbnhaa.Sh

namespace Go.Proofs.Ytdgccdlaokbnhaa.Sh
open Go.RowKit
set_option linter.unusedVariables false

/-- The greater rest first, then the lower place. -/
def ltR (a b : Int × Int) : Prop := b.1 < a.1 ∨ (a.1 = b.1 ∧ a.2 < b.2)
theorem crV_lt {a b : Int × Int} (h : ltR a b) : crV a b = -1 := by
  obtain ⟨a1, a2⟩ := a; obtain ⟨b1, b2⟩ := b
  unfold ltR at h; simp only at h
  unfold crV orV cm; simp only
  repeat' split
  all_goals omega
theorem crV_ge {a b : Int × Int} (h : ¬ ltR a b) : crV a b = 0 ∨ crV a b = 1 := by
  obtain ⟨a1, a2⟩ := a; obtain ⟨b1, b2⟩ := b
  unfold ltR at h; simp only at h
  unfold crV orV cm; simp only
  repeat' split
  all_goals omega
theorem ltR_trans {a b c : Int × Int} (h1 : ltR a b) (h2 : ltR b c) : ltR a c := by unfold ltR at *; omega
theorem ltR_irrefl (a : Int × Int) : ¬ ltR a a := by unfold ltR; omega
theorem ltR_total {a b : Int × Int} (h : a.2 ≠ b.2) (h1 : ¬ ltR a b) : ltR b a := by unfold ltR at *; omega
instance (a b : Int × Int) : Decidable (ltR a b) := by unfold ltR; infer_instance

/-- Block b holds n pairs, the pairs f 0, f 1, .. -/
def RB (w : World) (b n : Nat) (t : TypeId) (f : Nat → Int × Int) : Prop :=
  ∃ cs, CB w b cs t ∧ cs.size = n * 2 ∧ ∀ j, j < n → cs[j * 2]? = some (.int .i64 (f j).1) ∧ cs[j * 2 + 1]? = some (.int .i64 (f j).2)
section
variable {w w' : World} {b n : Nat} {t : TypeId} {f g : Nat → Int × Int}
theorem RB.lt (H : RB w b n t f) : b < w.heap.size := by obtain ⟨cs, h, _⟩ := H; exact h.lt
theorem RB.cell (H : RB w b n t f) {j : Nat} (h : j < n) : w.cell? ⟨b, j * 2, none⟩ = some (.int .i64 (f j).1) ∧ w.cell? ⟨b, j * 2 + 1, none⟩ = some (.int .i64 (f j).2) := by
  obtain ⟨cs, h1, h2, h3⟩ := H
  rw [h1.cell, h1.cell]; exact h3 j h
theorem RB.fr (H : RB w b n t f) (o : Nat) : w.frozen? ⟨b, o, none⟩ = false := by obtain ⟨cs, h, _⟩ := H; exact h.fr o
theorem RB.below {B : Nat} (H : RB w b n t f) (k : Below B w w') (h : b < B) : RB w' b n t f := by
  obtain ⟨cs, h1, h2⟩ := H; exact ⟨cs, h1.below k h, h2⟩
theorem RB.alloc (H : RB w b n t f) (o : Obj) : RB (w.alloc o) b n t f := by obtain ⟨cs, h1, h2⟩ := H; exact ⟨cs, h1.alloc o, h2⟩
theorem RB.other (H : RB w b n t f) {c o : Nat} (u : Value) (h : b ≠ c) : RB (w.setCell ⟨c, o, none⟩ u) b n t f := by obtain ⟨cs, h1, h2⟩ := H; exact ⟨cs, h1.other u h, h2⟩
theorem RB.congr (H : RB w b n t f) (h : ∀ j, j < n → g j = f j) : RB w b n t g := by
  obtain ⟨cs, h1, h2, h3⟩ := H; exact ⟨cs, h1, h2, fun j hj => by rw [h j hj]; exact h3 j hj⟩
/-- A pair is written. -/
theorem RB.set (H : RB w b n t f) {i : Nat} (hi : i < n) (x y : Int) :
    RB ((w.setCell ⟨b, i * 2, none⟩ (.int .i64 x)).setCell ⟨b, i * 2 + 1, none⟩ (.int .i64 y)) b n t (fun j => if j = i then (x, y) else f j) := by
  obtain ⟨cs, h1, h2, h3⟩ := H
  refine ⟨_, (h1.set _ _).set _ _, by simp [h2], fun j hj => ?_⟩
  by_cases e : j = i
  · subst e
    simp only [if_true]
    constructor
    · rw [Array.getElem?_setIfInBounds_ne (by omega), Array.getElem?_setIfInBounds_self_of_lt (by omega)]
    · rw [Array.getElem?_setIfInBounds_self_of_lt (by simp; omega)]
  · simp only [if_neg e]
    rw [Array.getElem?_setIfInBounds_ne (by omega), Array.getElem?_setIfInBounds_ne (by omega), Array.getElem?_setIfInBounds_ne (by omega), Array.getElem?_setIfInBounds_ne (by omega)]
    exact h3 j hj
end
end Go.Proofs.Ytdgccdlaokbnhaa.Sh

namespace Go.Proofs.Ytdgccdlaokbnhaa.Sh
open Go.ChangeShapes Go.WideShapes Go.ChangeAt Go.RowKit
set_option linter.unusedVariables false
set_option linter.unusedSimpArgs false

/-- The first i of the two runs at a and at b have changed places. -/
def sw (f : Nat → Int × Int) (a b i : Nat) (k : Nat) : Int × Int := if a ≤ k ∧ k < a + i then f (b + (k - a)) else if b ≤ k ∧ k < b + i then f (a + (k - b)) else f k

set_option maxHeartbeats 2000000 in
theorem swapRange_any (B N cap a b n : Nat) (t : TypeId) (f : Nat → Int × Int) (fv : Value) (w : World) (hN : (N : Int) ≤ 1048576) (ha : a + n ≤ b) (hb : b + n ≤ N) (H : RB w B N t f) :
    Calls Try.prog 129 #[.slice (some ⟨B, 0, none⟩) N cap, .int .i64 a, .int .i64 b, .int .i64 n, fv] w fun e w' => e = .returned (.tuple #[]) ∧ RB w' B N t (sw f a b n) ∧ Below B w w' := by
  have HR : Hid (RB w B N t f) := H
  clear H
  have ia : (a : Int) ≤ 1048576 := by omega
  have ib : (b : Int) ≤ 1048576 := by omega
  have inn : (n : Int) ≤ 1048576 := by omega
  go_enter Try.func129, Try.ntmps129
  go_wp2
  go_loopw [10] (fun i wr => ∃ k : Nat, k ≤ n ∧ i = .int .i64 (k : Int) ∧ Hid (RB wr B N t (sw f a b k) ∧ Below B w wr)) (fun i _ => n - (intOf i).toNat)
  case atStart => exact ⟨0, Nat.zero_le _, rfl, HR.out.congr (fun j _ => by unfold sw; rw [if_neg (by omega), if_neg (by omega)]), Below.refl _ _⟩
  case round =>
    obtain ⟨k, hk, rfl, hP⟩ := hrel
    by_cases hlt : k < n
    · obtain ⟨x1, y1⟩ := hP.out.1.cell (j := a + k) (by omega)
      obtain ⟨x2, y2⟩ := hP.out.1.cell (j := b + k) (by omega)
      have e1 : sw f a b k (a + k) = f (a + k) := by unfold sw; rw [if_neg (by omega), if_neg (by omega)]
      have e2 : sw f a b k (b + k) = f (b + k) := by unfold sw; rw [if_neg (by omega), if_neg (by omega)]
      rw [e1] at x1 y1
      rw [e2] at x2 y2
      have r1 := hP.out.1.fr ((a + k) * 2)
      have r2 := hP.out.1.fr ((a + k) * 2 + 1)
      have r3 := hP.out.1.fr ((b + k) * 2)
      have r4 := hP.out.1.fr ((b + k) * 2 + 1)
      have l1 : (k : Int) < (n : Int) := by omega
      have l2 : (a : Int) + (k : Int) < (N : Int) := by omega
      have l3 : (b : Int) + (k : Int) < (N : Int) := by omega
      have HN : Hid (RB ((((wr.setCell ⟨B, (a + k) * 2, none⟩ (.int .i64 (f (b + k)).1)).setCell ⟨B, (a + k) * 2 + 1, none⟩ (.int .i64 (f (b + k)).2)).setCell ⟨B, (b + k) * 2, none⟩ (.int .i64 (f (a + k)).1)).setCell ⟨B, (b + k) * 2 + 1, none⟩ (.int .i64 (f (a + k)).2)).drew B N t (sw f a b (k + 1)) ∧ Below B w ((((wr.setCell ⟨B, (a + k) * 2, none⟩ (.int .i64 (f (b + k)).1)).setCell ⟨B, (a + k) * 2 + 1, none⟩ (.int .i64 (f (b + k)).2)).setCell ⟨B, (b + k) * 2, none⟩ (.int .i64 (f (a + k)).1)).setCell ⟨B, (b + k) * 2 + 1, none⟩ (.int .i64 (f (a + k)).2)).drew) := by
        refine ⟨RB.congr (((hP.out.1.set (i := a + k) (by omega) (f (b + k)).1 (f (b + k)).2).set (i := b + k) (by omega) (f (a + k)).1 (f (a + k)).2)) (fun j hj => ?_), ((((hP.out.2.setCell (Nat.le_refl _) _).setCell (Nat.le_refl _) _).setCell (Nat.le_refl _) _).setCell (Nat.le_refl _) _).drew⟩
        unfold sw
        by_cases q1 : j = b + k
        · subst q1; rw [if_neg (by omega), if_pos (by omega), if_pos rfl, show a + (b + k - b) = a + k by omega]
        · by_cases q2 : j = a + k
          · subst q2; rw [if_pos (by omega), if_neg q1, if_pos rfl, show b + (a + k - a) = b + k by omega]
          · rw [if_neg q1, if_neg q2]
            by_cases q3 : a ≤ j ∧ j < a + k
            · rw [if_pos q3, if_pos (by omega)]
            · rw [if_neg q3, if_neg (by omega)]
              by_cases q4 : b ≤ j ∧ j < b + k
              · rw [if_pos q4, if_pos (by omega)]
              · rw [if_neg q4, if_neg (by omega)]
      clear e1 e2
      go_wp2
      go_region
      go_wp2
      go_roundw
      case rel => exact ⟨k + 1, by omega, by go_num, HN⟩
      case measure => simp [intOf]; omega
    · obtain rfl : k = n := by omega
      go_wp2
      go_returns
      exact ⟨rfl, hP.out⟩
end Go.Proofs.Ytdgccdlaokbnhaa.Sh

namespace Go.Proofs.Ytdgccdlaokbnhaa.Sh
open Go.ChangeShapes Go.WideShapes Go.ChangeAt Go.RowKit
set_option linter.unusedVariables false
set_option linter.unusedSimpArgs false

theorem keep_cell' {W W' : World} {a : Addr} {v : Value} (h : Below W.heap.size W W') (hc : W.cell? a = some v) : W'.cell? a = some v := by
  have hlt : a.block < W.heap.size := by
    unfold World.cell? at hc
    rcases Nat.lt_or_ge a.block W.heap.size with r | r
    · exact r
    · rw [Array.getElem?_eq_none r] at hc; simp at hc
  rw [World.cell?_of_block (w := W) (h.block _ hlt)]; exact hc
theorem rb_on {W W' : World} {B N : Nat} {t : TypeId} {g : Nat → Int × Int} (H : RB W B N t g) (k : Below W.heap.size W W') : RB W' B N t g := H.below k H.lt
theorem bel_rb {A W W' : World} {B N : Nat} {t : TypeId} {g : Nat → Int × Int} (H : RB W B N t g) (h : Below B A W) (k : Below W.heap.size W W') : Below B A W' := h.trans (k.mono (Nat.le_of_lt H.lt))

/-- The comparison as told by a number V. -/
theorem compareRests_eq (a1 a2 b1 b2 V : Int) (w : World) (h : Hid (crV (a1, a2) (b1, b2) = V)) :
    Calls Try.prog 99 #[.agg #[.int .i64 a1, .int .i64 a2], .agg #[.int .i64 b1, .int .i64 b2]] w fun e w' => e = .returned (.int .i64 V) ∧ Below w.heap.size w w' := by
  rw [← h.out]; exact compareRests_any (a1, a2) (b1, b2) w

/-- What is apart stays apart. -/
theorem perm_apart {a b N : Nat} {f g : Nat → Int × Int} (x : PermOn a b f g) (hb : b ≤ N) (D : ∀ i j, i < N → j < N → i ≠ j → (f i).2 ≠ (f j).2) {i j : Nat} (h1 : a ≤ i) (h2 : i < b) (h3 : a ≤ j) (h4 : j < b) (h : i ≠ j) : (g i).2 ≠ (g j).2 := by
  obtain ⟨_, π, q1, q2⟩ := x
  obtain ⟨_, u1, u2⟩ := q1 i h1 h2
  obtain ⟨_, v1, v2⟩ := q1 j h3 h4
  rw [u2, v2]
  exact D _ _ (by omega) (by omega) (fun e => h (q2 i j h1 h2 h3 h4 e))

set_option maxHeartbeats 2000000 in
/-- The run from a to b is sorted; what was in it stays in it. -/
theorem insertion_any (B N cap a b : Nat) (t : TypeId) (f : Nat → Int × Int) (w : World) (hN : (N : Int) ≤ 1048576) (ha : a ≤ b) (hb : b ≤ N) (H : RB w B N t f) (D : ∀ i j, i < N → j < N → i ≠ j → (f i).2 ≠ (f j).2) :
    Calls Try.prog 120 #[.slice (some ⟨B, 0, none⟩) N cap, .int .i64 a, .int .i64 b, .func (Fn.func 99) #[] #[]] w fun e w' => e = .returned (.tuple #[]) ∧ ∃ g, RB w' B N t g ∧ PermOn a b f g ∧ SortedOn ltR g a b ∧ Below B w w' := by
  have HR : Hid (RB w B N t f) := H
  have HD : Hid (∀ i j, i < N → j < N → i ≠ j → (f i).2 ≠ (f j).2) := D
  clear H D
  have ia : (a : Int) ≤ 1048576 := by omega
  have ib : (b : Int) ≤ 1048576 := by omega
  go_enter Try.func120, Try.ntmps120
  go_wp2
  go_loopw [8] (fun i wr => ∃ k : Nat, a + 1 ≤ k ∧ (k = a + 1 ∨ k ≤ b) ∧ i = .int .i64 (k : Int) ∧ Hid (∃ g, RB wr B N t g ∧ PermOn a b f g ∧ SortedOn ltR g a k ∧ Below B w wr)) (fun i _ => b - (intOf i).toNat)
  case atStart => exact ⟨a + 1, Nat.le_refl _, .inl rfl, by go_num, f, HR.out, PermOn.refl _ _ _, fun p q _ _ _ => by omega, Below.refl _ _⟩
  case round =>
    obtain ⟨k, hk, hkb, rfl, hP⟩ := hrel
    by_cases hlt : k < b
    · have l1 : (k : Int) < (b : Int) := by omega
      go_wp2
      go_loopw [9] (fun j wq => ∃ m : Nat, a ≤ m ∧ m ≤ k ∧ j = .int .i64 (m : Int) ∧ Hid (∃ g, RB wq B N t g ∧ PermOn a b f g ∧ InsInv ltR g a k m ∧ Below B w wq)) (fun j _ => (intOf j).toNat)
      case atStart =>
        obtain ⟨g, q1, q2, q3, q4⟩ := hP.out
        exact ⟨k, by omega, Nat.le_refl _, rfl, g, q1, q2, InsInv.start q3 (by omega), q4⟩
      case round =>
        clear hP
        rename_i wr0
        obtain ⟨m, hm1, hm2, rfl, hQ⟩ := hrel
        have im : (m : Int) ≤ 1048576 := by omega
        by_cases hg : a < m
        · obtain ⟨p, hmp⟩ : ∃ p, m = p + 1 := ⟨m - 1, by omega⟩
          have dg : decide ((a : Int) < (m : Int)) = true := decide_eq_true (by omega)
          have ew : (m : Int) - 1 = (p : Int) := by omega
          have hwr : IntKind.i64.wrap ((m : Int) - 1) = (p : Int) := by rw [IntWalk.i64_in _ ⟨by omega, by omega⟩]; exact ew
          obtain ⟨g, hR, hp, hi, hB⟩ := hQ.out
          obtain ⟨c1, c2⟩ := hR.cell (j := m) (by omega)
          obtain ⟨c3, c4⟩ := hR.cell (j := p) (by omega)
          obtain ⟨x1, x2, hx⟩ : ∃ x1 x2, g m = (x1, x2) := ⟨_, _, rfl⟩
          obtain ⟨y1, y2, hy⟩ : ∃ y1 y2, g p = (y1, y2) := ⟨_, _, rfl⟩
          rw [hx] at c1 c2
          rw [hy] at c3 c4
          simp only at c1 c2 c3 c4
          have hRd : RB wr.drew B N t g := hR
          have hBd : Below B w wr.drew := hB.drew
          have Hx : Hid (g m = (x1, x2)) := hx
          have Hy : Hid (g p = (y1, y2)) := hy
          have Hp : Hid (PermOn a b f g) := hp
          have Hi : Hid (InsInv ltR g a k m) := hi
          have lm2 : (m : Int) < (N : Int) := by omega
          have lm3 : (p : Int) < (N : Int) := by omega
          have lm4 : (p : Int) ≤ 1048576 := by omega
          have Hmp : Hid (m = p + 1) := hmp
          have Hg : Hid (a < m) := hg
          have lg : (a : Int) < (m : Int) := by omega
          clear hx hy hR hB hp hi hQ hmp ew hg
          by_cases hc : ltR (x1, x2) (y1, y2)
          · obtain ⟨V, hV, HV⟩ : ∃ V, V < 0 ∧ Hid (crV (x1, x2) (y1, y2) = V) := ⟨-1, by omega, crV_lt hc⟩
            have dV : decide (V < 0) = true := decide_eq_true hV
            go_wp2
            go_region_held3 (fun w' => w'.cell? ⟨B, m * 2, none⟩ = some (.int .i64 x1) ∧ w'.cell? ⟨B, m * 2 + 1, none⟩ = some (.int .i64 x2) ∧ w'.cell? ⟨B, p * 2, none⟩ = some (.int .i64 y1) ∧ w'.cell? ⟨B, p * 2 + 1, none⟩ = some (.int .i64 y2) ∧ RB w' B N t g ∧ Below B w w')
              (refine ⟨?_, ?_, ?_, ?_, ?_, ?_⟩ <;> first | assumption | (simp [*]; done))
              (first | (go_at_call 99; refine (compareRests_eq _ _ _ _ V _ HV).mono ?_; rintro e w2 ⟨rfl, b2⟩; have q0 : w2.cell? ⟨B, m * 2, none⟩ = some (.int .i64 x1) := keep_cell' b2 (by simp [*]); have q1 : w2.cell? ⟨B, m * 2 + 1, none⟩ = some (.int .i64 x2) := keep_cell' b2 (by simp [*]); have q2 : w2.cell? ⟨B, p * 2, none⟩ = some (.int .i64 y1) := keep_cell' b2 (by simp [*]); have q3 : w2.cell? ⟨B, p * 2 + 1, none⟩ = some (.int .i64 y2) := keep_cell' b2 (by simp [*]); have q4 : RB w2 B N t g := rb_on (by assumption) b2; have q5 : Below B w w2 := bel_rb (g := g) (N := N) (t := t) (by assumption) (by assumption) b2))
            have HN : Hid (∃ g, RB ((((w2.setCell ⟨B, m * 2, none⟩ (.int .i64 y1)).setCell ⟨B, m * 2 + 1, none⟩ (.int .i64 y2)).setCell ⟨B, p * 2, none⟩ (.int .i64 x1)).setCell ⟨B, p * 2 + 1, none⟩ (.int .i64 x2)).drew B N t g ∧ PermOn a b f g ∧ InsInv ltR g a k p ∧ Below B w ((((w2.setCell ⟨B, m * 2, none⟩ (.int .i64 y1)).setCell ⟨B, m * 2 + 1, none⟩ (.int .i64 y2)).setCell ⟨B, p * 2, none⟩ (.int .i64 x1)).setCell ⟨B, p * 2 + 1, none⟩ (.int .i64 x2)).drew) := by
              have e := Hmp.out
              have hg := Hg.out
              refine ⟨swp g m (m - 1), RB.congr ((q4.set (i := m) (by omega) y1 y2).set (i := p) (by omega) x1 x2) (fun j hj => ?_), Hp.out.trans (swp_perm (by omega) (by omega)), ?_, ((((q5.setCell (Nat.le_refl _) _).setCell (Nat.le_refl _) _).setCell (Nat.le_refl _) _).setCell (Nat.le_refl _) _).drew⟩
              · unfold swp
                rw [show m - 1 = p by omega, Hx.out, Hy.out]
                by_cases z1 : j = p
                · rw [if_neg (by omega), if_pos z1, if_pos z1]
                · rw [if_neg z1, if_neg z1]
              · have := Hi.out.step (by omega) (by rw [show m - 1 = p by omega, Hx.out, Hy.out]; exact hc)
                rw [show m - 1 = p by omega] at this ⊢; exact this
            have r1 := q4.fr (m * 2)
            have r2 := q4.fr (m * 2 + 1)
            have r3 := q4.fr (p * 2)
            have r4 := q4.fr (p * 2 + 1)
            have hz : p + 1 = m := Hmp.out.symm
            have HZ : Hid (p + 1 = m) := hz
            have lpm : p < m := by omega
            clear hz c1 c2 c3 c4 hRd hBd q4 q5 b2
            go_wp2
            go_region
            go_wp2
            go_roundw
            case rel => exact ⟨p, by have := Hmp.out; have := Hg.out; omega, by have := Hmp.out; omega, by go_num, HN⟩
            case measure => have := Hmp.out; simp [intOf]; omega
          · obtain ⟨V, hV, HV⟩ : ∃ V, 0 ≤ V ∧ Hid (crV (x1, x2) (y1, y2) = V) := by
              rcases crV_ge hc with e | e
              · exact ⟨0, by omega, e⟩
              · exact ⟨1, by omega, e⟩
            have dV : decide (V < 0) = false := decide_eq_false (by omega)
            go_wp2
            go_region_held3 (fun w' => w'.cell? ⟨B, m * 2, none⟩ = some (.int .i64 x1) ∧ w'.cell? ⟨B, m * 2 + 1, none⟩ = some (.int .i64 x2) ∧ w'.cell? ⟨B, p * 2, none⟩ = some (.int .i64 y1) ∧ w'.cell? ⟨B, p * 2 + 1, none⟩ = some (.int .i64 y2) ∧ RB w' B N t g ∧ Below B w w')
              (refine ⟨?_, ?_, ?_, ?_, ?_, ?_⟩ <;> first | assumption | (simp [*]; done))
              (first | (go_at_call 99; refine (compareRests_eq _ _ _ _ V _ HV).mono ?_; rintro e w2 ⟨rfl, b2⟩; have q0 : w2.cell? ⟨B, m * 2, none⟩ = some (.int .i64 x1) := keep_cell' b2 (by simp [*]); have q1 : w2.cell? ⟨B, m * 2 + 1, none⟩ = some (.int .i64 x2) := keep_cell' b2 (by simp [*]); have q2 : w2.cell? ⟨B, p * 2, none⟩ = some (.int .i64 y1) := keep_cell' b2 (by simp [*]); have q3 : w2.cell? ⟨B, p * 2 + 1, none⟩ = some (.int .i64 y2) := keep_cell' b2 (by simp [*]); have q4 : RB w2 B N t g := rb_on (by assumption) b2; have q5 : Below B w w2 := bel_rb (g := g) (N := N) (t := t) (by assumption) (by assumption) b2))
            have HN : Hid (∃ g, RB w2 B N t g ∧ PermOn a b f g ∧ SortedOn ltR g a (k + 1) ∧ Below B w w2) := by
              have e := Hmp.out
              have hg := Hg.out
              have ap := perm_apart Hp.out hb HD.out (i := m) (j := p) (by omega) (by omega) (by omega) (by omega) (by omega)
              rw [Hx.out, Hy.out] at ap
              exact ⟨g, q4, Hp.out, Hi.out.done (fun x y z => ltR_trans) (.inr (by rw [show m - 1 = p by omega, Hx.out, Hy.out]; exact ltR_total ap hc)), q5⟩
            go_wp2
            go_roundw
            case rel => exact ⟨k + 1, by omega, .inr (by omega), by go_num, HN⟩
            case measure => simp [intOf]; omega
        · have dg : decide ((a : Int) < (m : Int)) = false := decide_eq_false (by omega)
          have HN : Hid (∀ q, ∃ g, RB (wr.drewN q) B N t g ∧ PermOn a b f g ∧ SortedOn ltR g a (k + 1) ∧ Below B w (wr.drewN q)) := by
            obtain ⟨g, hR, hp, hi, hB⟩ := hQ.out
            exact fun q => ⟨g, hR, hp, hi.done (fun x y z => ltR_trans) (.inl (by omega)), ⟨hB.os, hB.tape, hB.output, hB.size, hB.block⟩⟩
          go_wp2
          go_quiet ((fail))
          go_wp2
          go_roundw
          case rel => exact ⟨k + 1, by omega, .inr (by omega), by go_num, HN.out _⟩
          case measure => simp [intOf]; omega
    · have l1 : ¬ (k : Int) < (b : Int) := by omega
      have HN : Hid (∃ g, RB wr B N t g ∧ PermOn a b f g ∧ SortedOn ltR g a b ∧ Below B w wr) := by
        obtain ⟨g, q1, q2, q3, q4⟩ := hP.out
        exact ⟨g, q1, q2, fun p q r1 r2 r3 => q3 p q r1 r2 (by omega), q4⟩
      go_wp2
      go_returns
      exact ⟨rfl, HN.out⟩
end Go.Proofs.Ytdgccdlaokbnhaa.Sh

namespace Go.Proofs.Ytdgccdlaokbnhaa.Sh
set_option linter.unusedVariables false

set_option maxHeartbeats 1000000 in
theorem rot_left {h : Nat → Int × Int} {m i j : Nat} (hi : i ≤ m) (hj : 0 < j) (hij : j < i) (x : Nat) : rot (m - i) m (m + j) h x = rot (m - (i - j)) m (m + j) (sw h (m - i) m j) x := by
  unfold rot sw
  repeat' split
  all_goals first | omega | rfl | (congr 1; omega)
set_option maxHeartbeats 1000000 in
theorem rot_right {h : Nat → Int × Int} {m i j : Nat} (hi : i ≤ m) (hi0 : 0 < i) (hij : i < j) (x : Nat) : rot (m - i) m (m + j) h x = rot (m - i) m (m + (j - i)) (sw h (m - i) (m + j - i) i) x := by
  unfold rot sw
  repeat' split
  all_goals first | omega | rfl | (congr 1; omega)
set_option maxHeartbeats 1000000 in
theorem rot_same {h : Nat → Int × Int} {m i : Nat} (hi : i ≤ m) (hi0 : 0 < i) (x : Nat) : rot (m - i) m (m + i) h x = sw h (m - i) m i x := by
  unfold rot sw
  repeat' split
  all_goals first | omega | rfl | (congr 1; omega)
end Go.Proofs.Ytdgccdlaokbnhaa.Sh

namespace Go.Proofs.Ytdgccdlaokbnhaa.Sh
open Go.ChangeShapes Go.WideShapes Go.ChangeAt Go.RowKit
set_option linter.unusedVariables false
set_option linter.unusedSimpArgs false

theorem swapRange_at (B N cap a b n : Nat) (t : TypeId) (f : Nat → Int × Int) (fv : Value) (w : World) (x y z : Int) (hx : x = (a : Int)) (hy : y = (b : Int)) (hz : z = (n : Int)) (hN : (N : Int) ≤ 1048576) (ha : a + n ≤ b) (hb : b + n ≤ N) (H : RB w B N t f) :
    Calls Try.prog 129 #[.slice (some ⟨B, 0, none⟩) N cap, .int .i64 x, .int .i64 y, .int .i64 z, fv] w fun e w' => e = .returned (.tuple #[]) ∧ RB w' B N t (sw f a b n) ∧ Below B w w' := by
  subst hx hy hz; exact swapRange_any B N cap a b n t f fv w hN ha hb H

set_option maxHeartbeats 2000000 in
theorem rotate_any (B N cap a m b : Nat) (t : TypeId) (f : Nat → Int × Int) (fv : Value) (w : World) (hN : (N : Int) ≤ 1048576) (ha : a < m) (hm : m < b) (hb : b ≤ N) (H : RB w B N t f) :
    Calls Try.prog 128 #[.slice (some ⟨B, 0, none⟩) N cap, .int .i64 a, .int .i64 m, .int .i64 b, fv] w fun e w' => e = .returned (.tuple #[]) ∧ RB w' B N t (rot a m b f) ∧ Below B w w' := by
  have HR : Hid (RB w B N t f) := H
  clear H
  have ia : (a : Int) ≤ 1048576 := by omega
  have im : (m : Int) ≤ 1048576 := by omega
  have ib : (b : Int) ≤ 1048576 := by omega
  go_enter Try.func128, Try.ntmps128
  go_wp2
  go_loopw [10, 11] (fun u v wr => ∃ i j : Nat, 0 < i ∧ i ≤ m - a ∧ 0 < j ∧ j ≤ b - m ∧ u = .int .i64 (i : Int) ∧ v = .int .i64 (j : Int) ∧ Hid (∃ h, RB wr B N t h ∧ (∀ x, rot (m - i) m (m + j) h x = rot a m b f x) ∧ Below B w wr)) (fun u v _ => (intOf u).toNat + (intOf v).toNat)
  case atStart => exact ⟨m - a, b - m, by omega, Nat.le_refl _, by omega, Nat.le_refl _, by congr 1; omega, by congr 1; omega, f, HR.out, fun x => by rw [show m - (m - a) = a by omega, show m + (b - m) = b by omega], Below.refl _ _⟩
  case round =>
    obtain ⟨i, j, hi0, hi, hj0, hj, rfl, rfl, hP⟩ := hrel
    obtain ⟨h, q1, q2, q3⟩ := hP.out
    have H1 : Hid (RB wr B N t h) := q1
    have H2 : Hid (∀ x, rot (m - i) m (m + j) h x = rot a m b f x) := q2
    have H3 : Hid (Below B w wr) := q3
    clear q1 q2 q3 hP
    have ii : (i : Int) ≤ (m : Int) - (a : Int) := by omega
    have ij : (j : Int) ≤ (b : Int) - (m : Int) := by omega
    rcases Nat.lt_trichotomy i j with g | g | g
    · have g1 : (i : Int) < (j : Int) := by omega
      go_wp2_with (go_at_call 129; refine (swapRange_at B N cap (m - i) (m + j - i) i t h _ _ _ _ _ (by omega) (by omega) rfl hN (by omega) (by omega) H1.out).mono ?_; rintro e w2 ⟨rfl, r1, r2⟩)
      go_roundw
      case rel => exact ⟨i, j - i, hi0, hi, by omega, by omega, rfl, by congr 1; omega, _, r1, fun x => by rw [← rot_right (by omega) hi0 g]; exact H2.out x, H3.out.trans r2⟩
      case measure => simp [intOf]; omega
    · subst g
      go_wp2_with (go_at_call 129; refine (swapRange_at B N cap (m - i) m i t h _ _ _ _ _ (by omega) rfl rfl hN (by omega) (by omega) H1.out).mono ?_; rintro e w2 ⟨rfl, r1, r2⟩)
      go_returns
      exact ⟨rfl, r1.congr (fun x _ => by rw [← rot_same (by omega) hi0]; exact (H2.out x).symm), H3.out.trans r2⟩
    · have g1 : (j : Int) < (i : Int) := by omega
      go_wp2_with (go_at_call 129; refine (swapRange_at B N cap (m - i) m j t h _ _ _ _ _ (by omega) rfl rfl hN (by omega) (by omega) H1.out).mono ?_; rintro e w2 ⟨rfl, r1, r2⟩)
      go_roundw
      case rel => exact ⟨i - j, j, by omega, by omega, hj0, hj, by congr 1; omega, rfl, _, r1, fun x => by rw [← rot_left (by omega) hj0 g]; exact H2.out x, H3.out.trans r2⟩
      case measure => simp [intOf]; omega
end Go.Proofs.Ytdgccdlaokbnhaa.Sh

namespace Go.Proofs.Ytdgccdlaokbnhaa.Sh
open Go.ChangeShapes Go.WideShapes Go.ChangeAt Go.RowKit
set_option linter.unusedVariables false
set_option linter.unusedSimpArgs false

theorem rot_next {α : Type} {f : Nat → α} {a k : Nat} (h : a ≤ k) (j : Nat) : rot a (a + 1) (k + 2) f j = if j = k + 1 then f a else if j = k then f (k + 1) else rot a (a + 1) (k + 1) f j := by
  unfold rot
  repeat' split
  all_goals first | omega | rfl | (congr 1; omega)
theorem rot_one {α : Type} {f : Nat → α} {a : Nat} (j : Nat) : rot a (a + 1) (a + 1) f j = f j := by
  unfold rot
  repeat' split
  all_goals first | omega | rfl | (congr 1; omega)
theorem rot_back {α : Type} {f : Nat → α} {m p : Nat} (h : p + 1 ≤ m) (j : Nat) : rot p m (m + 1) f j = if j = p then f m else if j = p + 1 then f p else rot (p + 1) m (m + 1) f j := by
  unfold rot
  repeat' split
  all_goals first | omega | rfl | (congr 1; omega)
theorem rot_none {α : Type} {f : Nat → α} {m : Nat} (j : Nat) : rot m m (m + 1) f j = f j := by
  unfold rot
  repeat' split
  all_goals first | omega | rfl | (congr 1; omega)
theorem belowN {B : Nat} {w w' : World} (h : Below B w w') (q : Nat) : Below B w (w'.drewN q) := ⟨h.os, h.tape, h.output, h.size, h.block⟩
theorem ltR_of {a b : Int × Int} {i j : Nat} (h : a.2 ≠ b.2) (h1 : ¬ ltR a b) : ltR b a := ltR_total h h1

set_option maxRecDepth 20000 in
set_option maxHeartbeats 4000000 in
theorem sym_left (B N cap a b : Nat) (t : TypeId) (f : Nat → Int × Int) (w : World) (hN : (N : Int) ≤ 1048576) (ha : a + 1 < b) (hb : b ≤ N) (H : RB w B N t f) (D : ∀ i j, i < N → j < N → i ≠ j → (f i).2 ≠ (f j).2) (S : SortedOn ltR f (a + 1) b) :
    Calls Try.prog 121 #[.slice (some ⟨B, 0, none⟩) N cap, .int .i64 a, .int .i64 ((a + 1 : Nat) : Int), .int .i64 b, .func (Fn.func 99) #[] #[]] w fun e w' => e = .returned (.tuple #[]) ∧ ∃ g, RB w' B N t g ∧ PermOn a b f g ∧ SortedOn ltR g a b ∧ Below B w w' := by
  have HR : Hid (RB w B N t f) := H
  have HD : Hid (∀ i j, i < N → j < N → i ≠ j → (f i).2 ≠ (f j).2) := D
  have HS : Hid (SortedOn ltR f (a + 1) b) := S
  clear H D S
  obtain ⟨m, hm⟩ : ∃ m, m = a + 1 := ⟨_, rfl⟩
  have Hm : Hid (m = a + 1) := hm
  rw [← hm]
  have ia : (a : Int) ≤ 1048576 := by omega
  have im : (m : Int) ≤ 1048576 := by omega
  have ib : (b : Int) ≤ 1048576 := by omega
  have em1 : (m : Int) - (a : Int) = 1 := by omega
  have lam : (a : Int) < (m : Int) := by omega
  have lmb : (m : Int) < (b : Int) := by omega
  have lbN : (b : Int) ≤ (N : Int) := by omega
  have laN : (a : Int) < (N : Int) := by omega
  obtain ⟨y1, y2, hy⟩ : ∃ y1 y2, f a = (y1, y2) := ⟨_, _, rfl⟩
  have Hy : Hid (f a = (y1, y2)) := hy
  clear hm hy
  go_enter Try.func121, Try.ntmps121
  go_wp2
  go_loopw [10, 11] (fun u v wr => ∃ i j : Nat, u = .int .i64 (i : Int) ∧ v = .int .i64 (j : Int) ∧ m ≤ i ∧ i ≤ j ∧ j ≤ b ∧ Hid ((∀ x, m ≤ x → x < i → ltR (f x) (f a)) ∧ (∀ x, j ≤ x → x < b → ¬ ltR (f x) (f a))) ∧ Hid (RB wr B N t f ∧ Below B w wr)) (fun u v _ => (intOf v).toNat - (intOf u).toNat)
  case atStart => exact ⟨m, b, rfl, rfl, Nat.le_refl _, by omega, Nat.le_refl _, ⟨fun x h1 h2 => by omega, fun x h1 h2 => by omega⟩, HR.out, Below.refl _ _⟩
  case round =>
    obtain ⟨i, j, rfl, rfl, hmi, hij, hjb, HP, HW⟩ := hrel
    by_cases hlt : i < j
    · obtain ⟨c, hc⟩ : ∃ c : Nat, (i + j) / 2 = c := ⟨_, rfl⟩
      have ec : ((i : Int) + (j : Int)) / 2 = (c : Int) := by omega
      have c1 : i ≤ c := by omega
      have c2 : c < j := by omega
      have lcN : (c : Int) < (N : Int) := by omega
      have lij : (i : Int) < (j : Int) := by omega
      have ljN : (j : Int) ≤ (N : Int) := by omega
      clear hc
      obtain ⟨hR, hB⟩ := HW.out
      obtain ⟨d1, d2⟩ := hR.cell (j := c) (by omega)
      obtain ⟨d3, d4⟩ := hR.cell (j := a) (by omega)
      obtain ⟨x1, x2, hx⟩ : ∃ x1 x2, f c = (x1, x2) := ⟨_, _, rfl⟩
      rw [hx] at d1 d2
      rw [Hy.out] at d3 d4
      simp only at d1 d2 d3 d4
      have hRd : RB wr.drew B N t f := hR
      have hBd : Below B w wr.drew := hB.drew
      have Hx : Hid (f c = (x1, x2)) := hx
      clear hx hR hB HW
      by_cases hc : ltR (x1, x2) (y1, y2)
      · obtain ⟨V, hV, HV⟩ : ∃ V, V < 0 ∧ Hid (crV (x1, x2) (y1, y2) = V) := ⟨-1, by omega, crV_lt hc⟩
        have dV : decide (V < 0) = true := decide_eq_true hV
        have HP2 : Hid ((∀ x, m ≤ x → x < c + 1 → ltR (f x) (f a)) ∧ (∀ x, j ≤ x → x < b → ¬ ltR (f x) (f a))) := ⟨fun x h1 h2 => by
            by_cases e : x = c
            · rw [e, Hx.out, Hy.out]; exact hc
            · have e1 := HS.out x c (by have := Hm.out; omega) (by omega) (by omega)
              rw [Hx.out] at e1; rw [Hy.out]; exact ltR_trans e1 hc, HP.out.2⟩
        clear hc
        go_wp2
        go_region_held3 (fun w' => w'.cell? ⟨B, c * 2, none⟩ = some (.int .i64 x1) ∧ w'.cell? ⟨B, c * 2 + 1, none⟩ = some (.int .i64 x2) ∧ w'.cell? ⟨B, a * 2, none⟩ = some (.int .i64 y1) ∧ w'.cell? ⟨B, a * 2 + 1, none⟩ = some (.int .i64 y2) ∧ RB w' B N t f ∧ Below B w w')
          (refine ⟨?_, ?_, ?_, ?_, ?_, ?_⟩ <;> first | assumption | (simp [*]; done))
          (first | (go_at_call 99; refine (compareRests_eq _ _ _ _ V _ HV).mono ?_; rintro e w2 ⟨rfl, b2⟩; have q0 : w2.cell? ⟨B, c * 2, none⟩ = some (.int .i64 x1) := keep_cell' b2 (by simp [*]); have q1 : w2.cell? ⟨B, c * 2 + 1, none⟩ = some (.int .i64 x2) := keep_cell' b2 (by simp [*]); have q2 : w2.cell? ⟨B, a * 2, none⟩ = some (.int .i64 y1) := keep_cell' b2 (by simp [*]); have q3 : w2.cell? ⟨B, a * 2 + 1, none⟩ = some (.int .i64 y2) := keep_cell' b2 (by simp [*]); have q4 : RB w2 B N t f := rb_on (by assumption) b2; have q5 : Below B w w2 := bel_rb (g := f) (N := N) (t := t) (by assumption) (by assumption) b2))
        go_wp2
        go_roundw
        case rel => exact ⟨c + 1, j, by go_num, rfl, by omega, by omega, hjb, HP2, q4, q5⟩
        case measure => simp [intOf]; omega
      · obtain ⟨V, hV, HV⟩ : ∃ V, 0 ≤ V ∧ Hid (crV (x1, x2) (y1, y2) = V) := by
          rcases crV_ge hc with e | e
          · exact ⟨0, by omega, e⟩
          · exact ⟨1, by omega, e⟩
        have dV : decide (V < 0) = false := decide_eq_false (by omega)
        have HP2 : Hid ((∀ x, m ≤ x → x < i → ltR (f x) (f a)) ∧ (∀ x, c ≤ x → x < b → ¬ ltR (f x) (f a))) := ⟨HP.out.1, fun x h1 h2 h3 => by
            by_cases e : x = c
            · rw [e, Hx.out, Hy.out] at h3; exact hc h3
            · have e1 := HS.out c x (by have := Hm.out; omega) (by omega) (by omega)
              rw [Hx.out] at e1; rw [Hy.out] at h3; exact hc (ltR_trans e1 h3)⟩
        clear hc
        go_wp2
        go_region_held3 (fun w' => w'.cell? ⟨B, c * 2, none⟩ = some (.int .i64 x1) ∧ w'.cell? ⟨B, c * 2 + 1, none⟩ = some (.int .i64 x2) ∧ w'.cell? ⟨B, a * 2, none⟩ = some (.int .i64 y1) ∧ w'.cell? ⟨B, a * 2 + 1, none⟩ = some (.int .i64 y2) ∧ RB w' B N t f ∧ Below B w w')
          (refine ⟨?_, ?_, ?_, ?_, ?_, ?_⟩ <;> first | assumption | (simp [*]; done))
          (first | (go_at_call 99; refine (compareRests_eq _ _ _ _ V _ HV).mono ?_; rintro e w2 ⟨rfl, b2⟩; have q0 : w2.cell? ⟨B, c * 2, none⟩ = some (.int .i64 x1) := keep_cell' b2 (by simp [*]); have q1 : w2.cell? ⟨B, c * 2 + 1, none⟩ = some (.int .i64 x2) := keep_cell' b2 (by simp [*]); have q2 : w2.cell? ⟨B, a * 2, none⟩ = some (.int .i64 y1) := keep_cell' b2 (by simp [*]); have q3 : w2.cell? ⟨B, a * 2 + 1, none⟩ = some (.int .i64 y2) := keep_cell' b2 (by simp [*]); have q4 : RB w2 B N t f := rb_on (by assumption) b2; have q5 : Below B w w2 := bel_rb (g := f) (N := N) (t := t) (by assumption) (by assumption) b2))
        go_wp2
        go_roundw
        case rel => exact ⟨i, c, rfl, by go_num, by omega, by omega, by omega, HP2, q4, q5⟩
        case measure => simp [intOf]; omega
    · obtain rfl : i = j := by omega
      have lii : ¬ (i : Int) < (i : Int) := by omega
      have lib : (i : Int) ≤ (b : Int) := by omega
      have lmi : (m : Int) ≤ (i : Int) := by omega
      go_wp2
      go_loopw [13] (fun u wq => ∃ k : Nat, u = .int .i64 (k : Int) ∧ a ≤ k ∧ k + 1 ≤ i ∧ Hid (RB wq B N t (rot a (a + 1) (k + 1) f) ∧ Below B w wq)) (fun u _ => i - (intOf u).toNat)
      case atStart => exact ⟨a, rfl, Nat.le_refl _, by have := Hm.out; omega, HW.out.1.congr (fun j _ => rot_one j), HW.out.2⟩
      case round =>
        clear HW
        rename_i wr0
        obtain ⟨k, rfl, hak, hki, HW⟩ := hrel
        by_cases hk : k + 1 < i
        · have lk : (k : Int) < (i : Int) - 1 := by omega
          have lk2 : (k : Int) + 1 < (N : Int) := by omega
          obtain ⟨hR, hB⟩ := HW.out
          obtain ⟨d1, d2⟩ := hR.cell (j := k) (by omega)
          obtain ⟨d3, d4⟩ := hR.cell (j := k + 1) (by omega)
          have e1 : rot a (a + 1) (k + 1) f k = (y1, y2) := by
            rw [rot_hi (by omega) (by omega), ← Hy.out]; congr 1; omega
          have e2 : rot a (a + 1) (k + 1) f (k + 1) = f (k + 1) := rot_out (by omega) (by omega) (by omega)
          obtain ⟨x1, x2, hx⟩ : ∃ x1 x2, f (k + 1) = (x1, x2) := ⟨_, _, rfl⟩
          rw [e1] at d1 d2
          rw [e2, hx] at d3 d4
          simp only at d1 d2 d3 d4
          have r1 := hR.fr (k * 2)
          have r2 := hR.fr (k * 2 + 1)
          have r3 := hR.fr ((k + 1) * 2)
          have r4 := hR.fr ((k + 1) * 2 + 1)
          have HN : Hid (RB ((((wr.setCell ⟨B, k * 2, none⟩ (.int .i64 x1)).setCell ⟨B, k * 2 + 1, none⟩ (.int .i64 x2)).setCell ⟨B, (k + 1) * 2, none⟩ (.int .i64 y1)).setCell ⟨B, (k + 1) * 2 + 1, none⟩ (.int .i64 y2)).drew B N t (rot a (a + 1) (k + 1 + 1) f) ∧ Below B w ((((wr.setCell ⟨B, k * 2, none⟩ (.int .i64 x1)).setCell ⟨B, k * 2 + 1, none⟩ (.int .i64 x2)).setCell ⟨B, (k + 1) * 2, none⟩ (.int .i64 y1)).setCell ⟨B, (k + 1) * 2 + 1, none⟩ (.int .i64 y2)).drew) := by
            refine ⟨RB.congr ((hR.set (i := k) (by omega) x1 x2).set (i := k + 1) (by omega) y1 y2) (fun j hj => ?_), ((((hB.setCell (Nat.le_refl _) _).setCell (Nat.le_refl _) _).setCell (Nat.le_refl _) _).setCell (Nat.le_refl _) _).drew⟩
            rw [rot_next hak, Hy.out, hx]
          clear hR hB HW e1 e2 hx
          go_wp2
          go_region
          go_wp2
          go_roundw
          case rel => exact ⟨k + 1, by go_num, by omega, by omega, HN⟩
          case measure => simp [intOf]; omega
        · obtain rfl : i = k + 1 := by omega
          have lk : ¬ (k : Int) < ((k + 1 : Nat) : Int) - 1 := by omega
          have HN : Hid (∃ g, RB wr B N t g ∧ PermOn a b f g ∧ SortedOn ltR g a b ∧ Below B w wr) := by
            have hm := Hm.out
            subst hm
            refine ⟨_, HW.out.1, (rot_perm (by omega) (by omega)).mono (Nat.le_refl _) hjb, one_left ⟨by omega, hjb⟩ HS.out HP.out.1 (fun x h1 h2 => ltR_total (HD.out x a (by omega) (by omega) (by omega)) (HP.out.2 x h1 h2)), HW.out.2⟩
          clear HW HP
          go_wp2
          go_returns
          exact ⟨rfl, HN.out⟩

set_option maxRecDepth 20000 in
set_option maxHeartbeats 4000000 in
theorem sym_right (B N cap a m : Nat) (t : TypeId) (f : Nat → Int × Int) (w : World) (hN : (N : Int) ≤ 1048576) (ha : a + 1 < m) (hb : m + 1 ≤ N) (H : RB w B N t f) (D : ∀ i j, i < N → j < N → i ≠ j → (f i).2 ≠ (f j).2) (S : SortedOn ltR f a m) :
    Calls Try.prog 121 #[.slice (some ⟨B, 0, none⟩) N cap, .int .i64 a, .int .i64 m, .int .i64 ((m + 1 : Nat) : Int), .func (Fn.func 99) #[] #[]] w fun e w' => e = .returned (.tuple #[]) ∧ ∃ g, RB w' B N t g ∧ PermOn a (m + 1) f g ∧ SortedOn ltR g a (m + 1) ∧ Below B w w' := by
  have HR : Hid (RB w B N t f) := H
  have HD : Hid (∀ i j, i < N → j < N → i ≠ j → (f i).2 ≠ (f j).2) := D
  have HS : Hid (SortedOn ltR f a m) := S
  clear H D S
  obtain ⟨b, hm⟩ : ∃ b, b = m + 1 := ⟨_, rfl⟩
  have Hm : Hid (b = m + 1) := hm
  rw [← hm]
  have ia : (a : Int) ≤ 1048576 := by omega
  have im : (m : Int) ≤ 1048576 := by omega
  have ib : (b : Int) ≤ 1048576 := by omega
  have em0 : ((m : Int) - (a : Int) == 1) = false := by simp; omega
  have em1 : (b : Int) - (m : Int) = 1 := by omega
  have lam : (a : Int) + 1 < (m : Int) := by omega
  have lmb : (m : Int) < (b : Int) := by omega
  have lbN : (b : Int) ≤ (N : Int) := by omega
  have laN : (m : Int) < (N : Int) := by omega
  obtain ⟨y1, y2, hy⟩ : ∃ y1 y2, f m = (y1, y2) := ⟨_, _, rfl⟩
  have Hy : Hid (f m = (y1, y2)) := hy
  clear hm hy
  go_enter Try.func121, Try.ntmps121
  go_wp2
  go_loopw [14, 15] (fun u v wr => ∃ i j : Nat, u = .int .i64 (i : Int) ∧ v = .int .i64 (j : Int) ∧ a ≤ i ∧ i ≤ j ∧ j ≤ m ∧ Hid ((∀ x, a ≤ x → x < i → ¬ ltR (f m) (f x)) ∧ (∀ x, j ≤ x → x < m → ltR (f m) (f x))) ∧ Hid (RB wr B N t f ∧ Below B w wr)) (fun u v _ => (intOf v).toNat - (intOf u).toNat)
  case atStart => exact ⟨a, m, rfl, rfl, Nat.le_refl _, by omega, Nat.le_refl _, ⟨fun x h1 h2 => by omega, fun x h1 h2 => by omega⟩, HR.out, Below.refl _ _⟩
  case round =>
    obtain ⟨i, j, rfl, rfl, hai, hij, hjm, HP, HW⟩ := hrel
    by_cases hlt : i < j
    · obtain ⟨c, hc⟩ : ∃ c : Nat, (i + j) / 2 = c := ⟨_, rfl⟩
      have ec : ((i : Int) + (j : Int)) / 2 = (c : Int) := by omega
      have c1 : i ≤ c := by omega
      have c2 : c < j := by omega
      have lcN : (c : Int) < (N : Int) := by omega
      have lij : (i : Int) < (j : Int) := by omega
      have ljN : (j : Int) ≤ (N : Int) := by omega
      clear hc
      obtain ⟨hR, hB⟩ := HW.out
      obtain ⟨d1, d2⟩ := hR.cell (j := c) (by omega)
      obtain ⟨d3, d4⟩ := hR.cell (j := m) (by omega)
      obtain ⟨x1, x2, hx⟩ : ∃ x1 x2, f c = (x1, x2) := ⟨_, _, rfl⟩
      rw [hx] at d1 d2
      rw [Hy.out] at d3 d4
      simp only at d1 d2 d3 d4
      have hRd : RB wr.drew B N t f := hR
      have hBd : Below B w wr.drew := hB.drew
      have Hx : Hid (f c = (x1, x2)) := hx
      clear hx hR hB HW
      by_cases hc : ltR (y1, y2) (x1, x2)
      · obtain ⟨V, hV, HV⟩ : ∃ V, V < 0 ∧ Hid (crV (y1, y2) (x1, x2) = V) := ⟨-1, by omega, crV_lt hc⟩
        have dV : decide (V < 0) = true := decide_eq_true hV
        have HP2 : Hid ((∀ x, a ≤ x → x < i → ¬ ltR (f m) (f x)) ∧ (∀ x, c ≤ x → x < m → ltR (f m) (f x))) := ⟨HP.out.1, fun x h1 h2 => by
            by_cases e : x = c
            · rw [e, Hx.out, Hy.out]; exact hc
            · have e1 := HS.out c x (by omega) (by omega) (by omega)
              rw [Hx.out] at e1; rw [Hy.out]; exact ltR_trans hc e1⟩
        clear hc
        go_wp2
        go_region_held3 (fun w' => w'.cell? ⟨B, m * 2, none⟩ = some (.int .i64 y1) ∧ w'.cell? ⟨B, m * 2 + 1, none⟩ = some (.int .i64 y2) ∧ w'.cell? ⟨B, c * 2, none⟩ = some (.int .i64 x1) ∧ w'.cell? ⟨B, c * 2 + 1, none⟩ = some (.int .i64 x2) ∧ RB w' B N t f ∧ Below B w w')
          (refine ⟨?_, ?_, ?_, ?_, ?_, ?_⟩ <;> first | assumption | (simp [*]; done))
          (first | (go_at_call 99; refine (compareRests_eq _ _ _ _ V _ HV).mono ?_; rintro e w2 ⟨rfl, b2⟩; have q0 : w2.cell? ⟨B, m * 2, none⟩ = some (.int .i64 y1) := keep_cell' b2 (by simp [*]); have q1 : w2.cell? ⟨B, m * 2 + 1, none⟩ = some (.int .i64 y2) := keep_cell' b2 (by simp [*]); have q2 : w2.cell? ⟨B, c * 2, none⟩ = some (.int .i64 x1) := keep_cell' b2 (by simp [*]); have q3 : w2.cell? ⟨B, c * 2 + 1, none⟩ = some (.int .i64 x2) := keep_cell' b2 (by simp [*]); have q4 : RB w2 B N t f := rb_on (by assumption) b2; have q5 : Below B w w2 := bel_rb (g := f) (N := N) (t := t) (by assumption) (by assumption) b2))
        go_wp2
        go_roundw
        case rel => exact ⟨i, c, rfl, by go_num, by omega, by omega, by omega, HP2, q4, q5⟩
        case measure => simp [intOf]; omega
      · obtain ⟨V, hV, HV⟩ : ∃ V, 0 ≤ V ∧ Hid (crV (y1, y2) (x1, x2) = V) := by
          rcases crV_ge hc with e | e
          · exact ⟨0, by omega, e⟩
          · exact ⟨1, by omega, e⟩
        have dV : decide (V < 0) = false := decide_eq_false (by omega)
        have HP2 : Hid ((∀ x, a ≤ x → x < c + 1 → ¬ ltR (f m) (f x)) ∧ (∀ x, j ≤ x → x < m → ltR (f m) (f x))) := ⟨fun x h1 h2 h3 => by
            by_cases e : x = c
            · rw [e, Hx.out, Hy.out] at h3; exact hc h3
            · have e1 := HS.out x c (by omega) (by omega) (by omega)
              rw [Hx.out] at e1; rw [Hy.out] at h3; exact hc (ltR_trans h3 e1), HP.out.2⟩
        clear hc
        go_wp2
        go_region_held3 (fun w' => w'.cell? ⟨B, m * 2, none⟩ = some (.int .i64 y1) ∧ w'.cell? ⟨B, m * 2 + 1, none⟩ = some (.int .i64 y2) ∧ w'.cell? ⟨B, c * 2, none⟩ = some (.int .i64 x1) ∧ w'.cell? ⟨B, c * 2 + 1, none⟩ = some (.int .i64 x2) ∧ RB w' B N t f ∧ Below B w w')
          (refine ⟨?_, ?_, ?_, ?_, ?_, ?_⟩ <;> first | assumption | (simp [*]; done))
          (first | (go_at_call 99; refine (compareRests_eq _ _ _ _ V _ HV).mono ?_; rintro e w2 ⟨rfl, b2⟩; have q0 : w2.cell? ⟨B, m * 2, none⟩ = some (.int .i64 y1) := keep_cell' b2 (by simp [*]); have q1 : w2.cell? ⟨B, m * 2 + 1, none⟩ = some (.int .i64 y2) := keep_cell' b2 (by simp [*]); have q2 : w2.cell? ⟨B, c * 2, none⟩ = some (.int .i64 x1) := keep_cell' b2 (by simp [*]); have q3 : w2.cell? ⟨B, c * 2 + 1, none⟩ = some (.int .i64 x2) := keep_cell' b2 (by simp [*]); have q4 : RB w2 B N t f := rb_on (by assumption) b2; have q5 : Below B w w2 := bel_rb (g := f) (N := N) (t := t) (by assumption) (by assumption) b2))
        go_wp2
        go_roundw
        case rel => exact ⟨c + 1, j, by go_num, rfl, by omega, by omega, hjm, HP2, q4, q5⟩
        case measure => simp [intOf]; omega
    · obtain rfl : i = j := by omega
      have lii : ¬ (i : Int) < (i : Int) := by omega
      have lib : (i : Int) ≤ (m : Int) := by omega
      go_wp2
      go_loopw [17] (fun u wq => ∃ k : Nat, u = .int .i64 (k : Int) ∧ i ≤ k ∧ k ≤ m ∧ Hid (RB wq B N t (rot k m (m + 1) f) ∧ Below B w wq)) (fun u _ => (intOf u).toNat)
      case atStart => exact ⟨m, rfl, hjm, Nat.le_refl _, HW.out.1.congr (fun j _ => rot_none j), HW.out.2⟩
      case round =>
        clear HW
        rename_i wr0
        obtain ⟨k, rfl, hik, hkm, HW⟩ := hrel
        by_cases hk : i < k
        · obtain ⟨p, hkp⟩ : ∃ p, k = p + 1 := ⟨k - 1, by omega⟩
          have lk : (i : Int) < (k : Int) := by omega
          have lkN : (k : Int) < (N : Int) := by omega
          have lpN : (p : Int) < (N : Int) := by omega
          have ew : (k : Int) - 1 = (p : Int) := by omega
          have hwr : IntKind.i64.wrap ((k : Int) - 1) = (p : Int) := by rw [IntWalk.i64_in _ ⟨by omega, by omega⟩]; exact ew
          obtain ⟨hR, hB⟩ := HW.out
          obtain ⟨d1, d2⟩ := hR.cell (j := k) (by omega)
          obtain ⟨d3, d4⟩ := hR.cell (j := p) (by omega)
          have e1 : rot k m (m + 1) f k = (y1, y2) := by
            rw [rot_lo (by omega) (by omega), ← Hy.out]; congr 1; omega
          have e2 : rot k m (m + 1) f p = f p := rot_out (by omega) (by omega) (by omega)
          obtain ⟨x1, x2, hx⟩ : ∃ x1 x2, f p = (x1, x2) := ⟨_, _, rfl⟩
          rw [e1] at d1 d2
          rw [e2, hx] at d3 d4
          simp only at d1 d2 d3 d4
          have r1 := hR.fr (k * 2)
          have r2 := hR.fr (k * 2 + 1)
          have r3 := hR.fr (p * 2)
          have r4 := hR.fr (p * 2 + 1)
          have HN : Hid (RB ((((wr.setCell ⟨B, k * 2, none⟩ (.int .i64 x1)).setCell ⟨B, k * 2 + 1, none⟩ (.int .i64 x2)).setCell ⟨B, p * 2, none⟩ (.int .i64 y1)).setCell ⟨B, p * 2 + 1, none⟩ (.int .i64 y2)).drew B N t (rot p m (m + 1) f) ∧ Below B w ((((wr.setCell ⟨B, k * 2, none⟩ (.int .i64 x1)).setCell ⟨B, k * 2 + 1, none⟩ (.int .i64 x2)).setCell ⟨B, p * 2, none⟩ (.int .i64 y1)).setCell ⟨B, p * 2 + 1, none⟩ (.int .i64 y2)).drew) := by
            refine ⟨RB.congr ((hR.set (i := k) (by omega) x1 x2).set (i := p) (by omega) y1 y2) (fun j hj => ?_), ((((hB.setCell (Nat.le_refl _) _).setCell (Nat.le_refl _) _).setCell (Nat.le_refl _) _).setCell (Nat.le_refl _) _).drew⟩
            rw [rot_back (by omega), Hy.out, hx, ← hkp]
          have Hkp : Hid (k = p + 1) := hkp
          have lpk : p < k := by omega
          clear hR hB HW e1 e2 hx hkp ew
          go_wp2
          go_region
          go_wp2
          go_roundw
          case rel => exact ⟨p, by go_num, by have := Hkp.out; omega, by have := Hkp.out; omega, HN⟩
          case measure => have := Hkp.out; simp [intOf]; omega
        · obtain rfl : i = k := by omega
          have HN : Hid (∃ g, RB wr B N t g ∧ PermOn a b f g ∧ SortedOn ltR g a b ∧ Below B w wr) := by
            have hm := Hm.out
            subst hm
            refine ⟨_, HW.out.1, (rot_perm (by omega) (by omega)).mono hai (Nat.le_refl _), one_right ⟨hai, hkm⟩ HS.out (fun x h1 h2 => ltR_total (HD.out m x (by omega) (by omega) (by omega)) (HP.out.1 x h1 h2)) HP.out.2, HW.out.2⟩
          clear HW HP
          go_wp2
          go_returns
          exact ⟨rfl, HN.out⟩
end Go.Proofs.Ytdgccdlaokbnhaa.Sh

namespace Go.Proofs.Ytdgccdlaokbnhaa.Sh
open Go.ChangeShapes Go.WideShapes Go.ChangeAt Go.RowKit
set_option linter.unusedVariables false
set_option linter.unusedSimpArgs false

theorem perm_dist {a b N : Nat} {f g : Nat → Int × Int} (x : PermOn a b f g) (hb : b ≤ N) (D : ∀ i j, i < N → j < N → i ≠ j → (f i).2 ≠ (f j).2) : ∀ i j, i < N → j < N → i ≠ j → (g i).2 ≠ (g j).2 :=
  fun i j hi hj h => perm_apart (x.mono (Nat.zero_le _) hb) (Nat.le_refl _) D (Nat.zero_le _) hi (Nat.zero_le _) hj h

/-- What a merged run is. -/
def Mg2 (B N : Nat) (t : TypeId) (a b : Nat) (f : Nat → Int × Int) (w w' : World) : Prop := ∃ g, RB w' B N t g ∧ PermOn a b f g ∧ SortedOn ltR g a b ∧ Below B w w'

section
variable {B N a m b md s e : Nat} {t : TypeId} {f g1 g2 : Nat → Int × Int} {w w' w1 w2 : World}
/-- The parted search: s is where it ends. -/
def Cut (a m b md s e : Nat) (f : Nat → Int × Int) : Prop := a ≤ s ∧ s ≤ m ∧ m ≤ e ∧ e ≤ b ∧ s ≤ md ∧ md ≤ e ∧ s + e = md + m ∧ (a < s → e < b → ltR (f (s - 1)) (f e)) ∧ (s < m → m < e → ltR (f (e - 1)) (f s))

theorem rot_same_l (hme : m ≤ e) : rot m m e f = f := by
  funext i; unfold rot
  repeat' split
  all_goals first | omega | rfl | (congr 1; omega)
theorem rot_same_r (hsm : s ≤ m) : rot s m m f = f := by
  funext i; unfold rot
  repeat' split
  all_goals first | omega | rfl | (congr 1; omega)

/-- Both halves done. -/
theorem sym_fin (ham : a < m) (hmb : m < b) (hmd : a ≤ md ∧ md ≤ b) (C : Cut a m b md s e f) (x : SortedOn ltR f a m) (y : SortedOn ltR f m b)
    (p1 : PermOn a md (rot s m e f) g1) (s1 : SortedOn ltR g1 a md) (p2 : PermOn md b g1 g2) (s2 : SortedOn ltR g2 md b) : PermOn a b f g2 ∧ SortedOn ltR g2 a b := by
  obtain ⟨c1, c2, c3, c4, c5, c6, c7, c8, c9⟩ := C
  have M := merge_step (lt := ltR) (fun x y z => ltR_trans) (by omega) (by omega) hmd c7 c1 c2 c3 c4 x y c8 c9
  refine ⟨(((rot_perm (by omega) (by omega)).mono c1 c4).trans (p1.mono (Nat.le_refl _) hmd.2)).trans (p2.mono hmd.1 (Nat.le_refl _)), ?_⟩
  refine sorted_join (m := md) ?_ s2 (cross_perm M.2.2.2.2 p1 p2 hmd.1)
  exact s1.congr (fun i h1 h2 => p2.1 i (by omega))
/-- The first half, and what the second one has to start from. -/
theorem sym_mid (ham : a < m) (hmb : m < b) (hmd : a ≤ md ∧ md ≤ b) (C : Cut a m b md s e f) (x : SortedOn ltR f a m) (y : SortedOn ltR f m b) :
    SortedOn ltR (rot s m e f) a s ∧ SortedOn ltR (rot s m e f) s md ∧ ∀ g1, PermOn a md (rot s m e f) g1 → SortedOn ltR g1 md e ∧ SortedOn ltR g1 e b := by
  obtain ⟨c1, c2, c3, c4, c5, c6, c7, c8, c9⟩ := C
  have M := merge_step (lt := ltR) (fun x y z => ltR_trans) (by omega) (by omega) hmd c7 c1 c2 c3 c4 x y c8 c9
  exact ⟨M.1, M.2.1, fun g1 p => ⟨M.2.2.1.congr (fun i h1 h2 => p.1 i (by omega)), M.2.2.2.1.congr (fun i h1 h2 => p.1 i (by omega))⟩⟩
theorem sorted_l {h : Nat → Int × Int} (q : s = a ∨ s = md) (x : SortedOn ltR h a s) (y : SortedOn ltR h s md) : SortedOn ltR h a md := by
  rcases q with q | q
  · rw [q] at y; exact y
  · rw [q] at x; exact x
theorem cut_perm (C : Cut a m b md s e f) : PermOn a b f (rot s m e f) := (rot_perm C.2.1 C.2.2.1).mono C.1 C.2.2.2.1
end

theorem rotate_at (B N cap a m b : Nat) (t : TypeId) (f : Nat → Int × Int) (fv : Value) (w : World) (hN : (N : Int) ≤ 1048576) (ha : (a : Int) < m) (hm : (m : Int) < b) (hb : b ≤ N) (H : RB w B N t f) :
    Calls Try.prog 128 #[.slice (some ⟨B, 0, none⟩) N cap, .int .i64 a, .int .i64 m, .int .i64 b, fv] w fun e w' => e = .returned (.tuple #[]) ∧ RB w' B N t (rot a m b f) ∧ Below B w w' :=
  rotate_any B N cap a m b t f fv w hN (by omega) (by omega) hb H

/-- What symMerge is to keep, for runs of at most d places. -/
def SymOk (B N cap : Nat) (t : TypeId) (d : Nat) : Prop := ∀ (a m b : Nat) (f : Nat → Int × Int) (w : World), b - a ≤ d → a < m → m < b → b ≤ N → RB w B N t f → (∀ i j, i < N → j < N → i ≠ j → (f i).2 ≠ (f j).2) → SortedOn ltR f a m → SortedOn ltR f m b →
    Calls Try.prog 121 #[.slice (some ⟨B, 0, none⟩) N cap, .int .i64 a, .int .i64 m, .int .i64 b, .func (Fn.func 99) #[] #[]] w fun e w' => e = .returned (.tuple #[]) ∧ Mg2 B N t a b f w w'

set_option maxRecDepth 20000 in
set_option maxHeartbeats 8000000 in
theorem sym_big (B N cap d a m b : Nat) (t : TypeId) (f : Nat → Int × Int) (w : World) (hN : (N : Int) ≤ 1048576) (ih : SymOk B N cap t d) (hd : b - a ≤ d + 1) (ham2 : a + 1 < m) (hmb2 : m + 1 < b) (hb : b ≤ N) (H : RB w B N t f) (D : ∀ i j, i < N → j < N → i ≠ j → (f i).2 ≠ (f j).2) (X : SortedOn ltR f a m) (Y : SortedOn ltR f m b) (hmd : (a + b) / 2 < m) :
    Calls Try.prog 121 #[.slice (some ⟨B, 0, none⟩) N cap, .int .i64 a, .int .i64 m, .int .i64 b, .func (Fn.func 99) #[] #[]] w fun e w' => e = .returned (.tuple #[]) ∧ Mg2 B N t a b f w w' := by
  have HR : Hid (RB w B N t f) := H
  have HD : Hid (∀ i j, i < N → j < N → i ≠ j → (f i).2 ≠ (f j).2) := D
  have HX : Hid (SortedOn ltR f a m) := X
  have HY : Hid (SortedOn ltR f m b) := Y
  have HI : Hid (SymOk B N cap t d) := ih
  have ham : a < m := by omega
  have hmb : m < b := by omega
  obtain ⟨md, hmid⟩ : ∃ md : Nat, (a + b) / 2 = md := ⟨_, rfl⟩
  have hmdb : a ≤ md ∧ md ≤ b := by omega
  have emd : ((a : Int) + (b : Int)) / 2 = (md : Int) := by omega
  obtain ⟨n, hn⟩ : ∃ n : Nat, n = md + m := ⟨_, rfl⟩
  obtain ⟨p, hp⟩ : ∃ p : Nat, p = n - 1 := ⟨_, rfl⟩
  have en : (md : Int) + (m : Int) = (n : Int) := by omega
  have ep : (n : Int) - 1 = (p : Int) := by omega
  have Hn : Hid (n = md + m ∧ 2 * md ≤ a + b ∧ a + b ≤ 2 * md + 1) := ⟨hn, by omega, by omega⟩
  have Hp : Hid (p = n - 1) := hp
  have ia : (a : Int) ≤ 1048576 := by omega
  have im : (m : Int) ≤ 1048576 := by omega
  have ib : (b : Int) ≤ 1048576 := by omega
  have imd : (md : Int) ≤ 1048576 := by omega
  have lamd : (a : Int) < md := by omega
  have lmdb : (md : Int) < b := by omega
  have em0 : ((m : Int) - (a : Int) == 1) = false := by simp; omega
  have em1 : ((b : Int) - (m : Int) == 1) = false := by simp; omega
  have lbm : (md : Int) < m := by omega
  clear H D X Y ih hmid hn hp
  go_enter Try.func121, Try.ntmps121
  go_wp2
  go_loopw [20, 21] (fun u v wr => ∃ s r : Nat, u = .int .i64 (s : Int) ∧ v = .int .i64 (r : Int) ∧ n - b ≤ s ∧ s ≤ r ∧ r ≤ md ∧ Hid ((s = n - b ∨ ¬ ltR (f (n - s)) (f (s - 1))) ∧ (r = md ∨ ltR (f (n - 1 - r)) (f r))) ∧ Hid (RB wr B N t f ∧ Below B w wr)) (fun u v _ => (intOf v).toNat - (intOf u).toNat)
  case atStart => exact ⟨n - b, md, by congr 1; have := Hn.out; omega, rfl, Nat.le_refl _, by have := Hn.out; omega, Nat.le_refl _, ⟨.inl rfl, .inl rfl⟩, HR.out, Below.refl _ _⟩
  case round =>
    obtain ⟨s, r, rfl, rfl, hls, hsr, hrh, HP, HW⟩ := hrel
    by_cases hlt : s < r
    · obtain ⟨c, hc⟩ : ∃ c : Nat, (s + r) / 2 = c := ⟨_, rfl⟩
      have ec : ((s : Int) + (r : Int)) / 2 = (c : Int) := by omega
      have c1 : s ≤ c := by omega
      have c2 : c < r := by omega
      obtain ⟨q, hq⟩ : ∃ q : Nat, q = p - c := ⟨_, rfl⟩
      have hqN : q < N := by have := Hn.out; have := Hp.out; omega
      have eq : (p : Int) - (c : Int) = (q : Int) := by have := Hn.out; have := Hp.out; omega
      have hwr : IntKind.i64.wrap ((p : Int) - (c : Int)) = (q : Int) := by rw [IntWalk.i64_in _ ⟨by omega, by omega⟩]; exact eq
      have Hq : Hid (q = n - 1 - c) := by have := Hn.out; have := Hp.out; show _ = _; omega
      have lcN : (c : Int) < (N : Int) := by have := Hn.out; omega
      have lqN : (q : Int) < (N : Int) := by omega
      have lsr : (s : Int) < (r : Int) := by omega
      have lrN : (r : Int) ≤ (N : Int) := by have := Hn.out; omega
      have cN : c < N := by omega
      clear hc hq eq
      obtain ⟨hR, hB⟩ := HW.out
      obtain ⟨d1, d2⟩ := hR.cell (j := q) hqN
      obtain ⟨d3, d4⟩ := hR.cell (j := c) cN
      obtain ⟨x1, x2, hx⟩ : ∃ x1 x2, f q = (x1, x2) := ⟨_, _, rfl⟩
      obtain ⟨y1, y2, hy⟩ : ∃ y1 y2, f c = (y1, y2) := ⟨_, _, rfl⟩
      rw [hx] at d1 d2
      rw [hy] at d3 d4
      simp only at d1 d2 d3 d4
      have hRd : RB wr.drew B N t f := hR
      have hBd : Below B w wr.drew := hB.drew
      have Hx : Hid (f q = (x1, x2)) := hx
      have Hy : Hid (f c = (y1, y2)) := hy
      clear hx hy hR hB HW
      by_cases hc : ltR (x1, x2) (y1, y2)
      · obtain ⟨V, hV, HV⟩ : ∃ V, V < 0 ∧ Hid (crV (x1, x2) (y1, y2) = V) := ⟨-1, by omega, crV_lt hc⟩
        have dV : decide (V < 0) = true := decide_eq_true hV
        have HP2 : Hid ((s = n - b ∨ ¬ ltR (f (n - s)) (f (s - 1))) ∧ (c = md ∨ ltR (f (n - 1 - c)) (f c))) := ⟨HP.out.1, .inr (by rw [← Hq.out, Hx.out, Hy.out]; exact hc)⟩
        clear hc
        go_wp2
        go_region_held3 (fun w' => w'.cell? ⟨B, q * 2, none⟩ = some (.int .i64 x1) ∧ w'.cell? ⟨B, q * 2 + 1, none⟩ = some (.int .i64 x2) ∧ w'.cell? ⟨B, c * 2, none⟩ = some (.int .i64 y1) ∧ w'.cell? ⟨B, c * 2 + 1, none⟩ = some (.int .i64 y2) ∧ RB w' B N t f ∧ Below B w w')
          (refine ⟨?_, ?_, ?_, ?_, ?_, ?_⟩ <;> first | assumption | (simp [*]; done))
          (first | (go_at_call 99; refine (compareRests_eq _ _ _ _ V _ HV).mono ?_; rintro e w2 ⟨rfl, b2⟩; have q0 : w2.cell? ⟨B, q * 2, none⟩ = some (.int .i64 x1) := keep_cell' b2 (by simp [*]); have q1 : w2.cell? ⟨B, q * 2 + 1, none⟩ = some (.int .i64 x2) := keep_cell' b2 (by simp [*]); have q2 : w2.cell? ⟨B, c * 2, none⟩ = some (.int .i64 y1) := keep_cell' b2 (by simp [*]); have q3 : w2.cell? ⟨B, c * 2 + 1, none⟩ = some (.int .i64 y2) := keep_cell' b2 (by simp [*]); have q4 : RB w2 B N t f := rb_on (by assumption) b2; have q5 : Below B w w2 := bel_rb (g := f) (N := N) (t := t) (by assumption) (by assumption) b2))
        go_wp2
        go_roundw
        case rel => exact ⟨s, c, rfl, by go_num, hls, c1, by omega, HP2, q4, q5⟩
        case measure => simp [intOf]; omega
      · obtain ⟨V, hV, HV⟩ : ∃ V, 0 ≤ V ∧ Hid (crV (x1, x2) (y1, y2) = V) := by
          rcases crV_ge hc with e | e
          · exact ⟨0, by omega, e⟩
          · exact ⟨1, by omega, e⟩
        have dV : decide (V < 0) = false := decide_eq_false (by omega)
        have HP2 : Hid ((c + 1 = n - b ∨ ¬ ltR (f (n - (c + 1))) (f (c + 1 - 1))) ∧ (r = md ∨ ltR (f (n - 1 - r)) (f r))) := ⟨.inr (by rw [show n - (c + 1) = q by have := Hq.out; omega, show c + 1 - 1 = c by omega, Hx.out, Hy.out]; exact hc), HP.out.2⟩
        clear hc
        go_wp2
        go_region_held3 (fun w' => w'.cell? ⟨B, q * 2, none⟩ = some (.int .i64 x1) ∧ w'.cell? ⟨B, q * 2 + 1, none⟩ = some (.int .i64 x2) ∧ w'.cell? ⟨B, c * 2, none⟩ = some (.int .i64 y1) ∧ w'.cell? ⟨B, c * 2 + 1, none⟩ = some (.int .i64 y2) ∧ RB w' B N t f ∧ Below B w w')
          (refine ⟨?_, ?_, ?_, ?_, ?_, ?_⟩ <;> first | assumption | (simp [*]; done))
          (first | (go_at_call 99; refine (compareRests_eq _ _ _ _ V _ HV).mono ?_; rintro e w2 ⟨rfl, b2⟩; have q0 : w2.cell? ⟨B, q * 2, none⟩ = some (.int .i64 x1) := keep_cell' b2 (by simp [*]); have q1 : w2.cell? ⟨B, q * 2 + 1, none⟩ = some (.int .i64 x2) := keep_cell' b2 (by simp [*]); have q2 : w2.cell? ⟨B, c * 2, none⟩ = some (.int .i64 y1) := keep_cell' b2 (by simp [*]); have q3 : w2.cell? ⟨B, c * 2 + 1, none⟩ = some (.int .i64 y2) := keep_cell' b2 (by simp [*]); have q4 : RB w2 B N t f := rb_on (by assumption) b2; have q5 : Below B w w2 := bel_rb (g := f) (N := N) (t := t) (by assumption) (by assumption) b2))
        go_wp2
        go_roundw
        case rel => exact ⟨c + 1, r, by go_num, rfl, by omega, by omega, hrh, HP2, q4, q5⟩
        case measure => simp [intOf]; omega
    · obtain rfl : s = r := by omega
      have lss : ¬ (s : Int) < (s : Int) := by omega
      obtain ⟨e, he⟩ : ∃ e : Nat, (e : Int) = (n : Int) - (s : Int) := ⟨n - s, by have := Hn.out; omega⟩
      have ee : (n : Int) - (s : Int) = (e : Int) := he.symm
      have HC : Hid (Cut a m b md s e f) := by
        have hn := Hn.out
        have c1 := HP.out.1
        have c2 := HP.out.2
        refine ⟨by omega, by omega, by omega, by omega, by omega, by omega, by omega, fun h1 h2 => ?_, fun h1 h2 => ?_⟩
        · rcases c1 with c | c
          · omega
          · rw [show n - s = e by omega] at c; exact ltR_total (HD.out _ _ (by omega) (by omega) (by omega)) c
        · rcases c2 with c | c
          · omega
          · rw [show n - 1 - s = e - 1 by omega] at c; exact c
      have HM : Hid (SortedOn ltR (rot s m e f) a s ∧ SortedOn ltR (rot s m e f) s md ∧ ∀ g1, PermOn a md (rot s m e f) g1 → SortedOn ltR g1 md e ∧ SortedOn ltR g1 e b) := sym_mid ham hmb hmdb HC.out HX.out HY.out
      have HDr : Hid (∀ i j, i < N → j < N → i ≠ j → (rot s m e f i).2 ≠ (rot s m e f j).2) := perm_dist (cut_perm HC.out) hb HD.out
      have hse : (s : Int) + (e : Int) = (md : Int) + (m : Int) := by have := HC.out.2.2.2.2.2.2.1; omega
      have hsm : (s : Int) ≤ m := by have := HC.out.2.1; omega
      have hme : (m : Int) ≤ e := by have := HC.out.2.2.1; omega
      have heb : (e : Int) ≤ b := by have := HC.out.2.2.2.1; omega
      have has : (a : Int) ≤ s := by have := HC.out.1; omega
      have hsd : (s : Int) ≤ md := by have := HC.out.2.2.2.2.1; omega
      have hde : (md : Int) ≤ e := by have := HC.out.2.2.2.2.2.1; omega
      have tok1 : True := trivial
      clear he HP
      by_cases z1 : (s : Int) < md ∧ (s : Int) < m
      · have z2 : (m : Int) < e := by omega
        have z3 : (md : Int) < e := by omega
        obtain ⟨z4, z5⟩ := z1
        by_cases z6 : (a : Int) < s
        · by_cases z7 : (e : Int) < b
          · go_wp2_with (first
              | (go_at_call 128; refine (rotate_at B N cap s m e t f _ _ hN (by omega) (by omega) (by have := HC.out.2.2.2.1; omega) HW.out.1).mono ?_; rintro ee w1 ⟨rfl, r1, r2⟩; have HW1 : Hid (RB w1 B N t (rot s m e f) ∧ Below B w w1) := ⟨r1, HW.out.2.trans r2⟩; clear r1 r2)
              | (go_at_call 121; clear tok1; refine (HI.out a s md _ _ (by omega) (by omega) (by omega) (by omega) HW1.out.1 HDr.out HM.out.1 HM.out.2.1).mono ?_; rintro ee w2 ⟨rfl, g1, r1, r2, r3, r4⟩; have HW2 : Hid (∃ g1, RB w2 B N t g1 ∧ PermOn a md (rot s m e f) g1 ∧ SortedOn ltR g1 a md ∧ Below B w w2) := ⟨g1, r1, r2, r3, HW1.out.2.trans r4⟩; clear r1 r2 r3 r4)
              | (go_at_call 121; obtain ⟨g1, k1, k2, k3, k4⟩ := HW2.out; refine (HI.out md e b g1 _ (by omega) (by omega) (by omega) (by omega) k1 (perm_dist k2 (by omega) HDr.out) (HM.out.2.2 g1 k2).1 (HM.out.2.2 g1 k2).2).mono ?_; rintro ee w3 ⟨rfl, g2, r1, r2, r3, r4⟩; have HF : Hid (Mg2 B N t a b f w w3) := ⟨g2, r1, (sym_fin ham hmb hmdb HC.out HX.out HY.out k2 k3 r2 r3).1, (sym_fin ham hmb hmdb HC.out HX.out HY.out k2 k3 r2 r3).2, k4.trans r4⟩; clear r1 r2 r3 r4 k1 k2 k3 k4))
            go_returns
            exact ⟨rfl, HF.out⟩
          · have HQ2 : Hid (e = md ∨ e = b) := .inr (by omega)
            go_wp2_with (first
              | (go_at_call 128; refine (rotate_at B N cap s m e t f _ _ hN (by omega) (by omega) (by have := HC.out.2.2.2.1; omega) HW.out.1).mono ?_; rintro ee w1 ⟨rfl, r1, r2⟩; have HW1 : Hid (RB w1 B N t (rot s m e f) ∧ Below B w w1) := ⟨r1, HW.out.2.trans r2⟩; clear r1 r2)
              | (go_at_call 121; clear tok1; refine (HI.out a s md _ _ (by omega) (by omega) (by omega) (by omega) HW1.out.1 HDr.out HM.out.1 HM.out.2.1).mono ?_; rintro ee w2 ⟨rfl, g1, r1, r2, r3, r4⟩; have HW2 : Hid (∃ g1, RB w2 B N t g1 ∧ PermOn a md (rot s m e f) g1 ∧ SortedOn ltR g1 a md ∧ Below B w w2) := ⟨g1, r1, r2, r3, HW1.out.2.trans r4⟩; clear r1 r2 r3 r4; have HF : Hid (Mg2 B N t a b f w w2) := (by obtain ⟨g1, k1, k2, k3, k4⟩ := HW2.out; have z := sym_fin ham hmb hmdb HC.out HX.out HY.out k2 k3 (PermOn.refl _ _ _) (sorted_l HQ2.out (HM.out.2.2 g1 k2).1 (HM.out.2.2 g1 k2).2); exact ⟨g1, k1, z.1, z.2, k4⟩)))
            go_returns
            exact ⟨rfl, HF.out⟩
        · have HQ : Hid (s = a ∨ s = md) := .inl (by omega)
          by_cases z7 : (e : Int) < b
          · exfalso; have := Hn.out; omega
          · have HQ2 : Hid (e = md ∨ e = b) := .inr (by omega)
            go_wp2_with (first
              | (go_at_call 128; refine (rotate_at B N cap s m e t f _ _ hN (by omega) (by omega) (by have := HC.out.2.2.2.1; omega) HW.out.1).mono ?_; rintro ee w1 ⟨rfl, r1, r2⟩; have HW1 : Hid (RB w1 B N t (rot s m e f) ∧ Below B w w1) := ⟨r1, HW.out.2.trans r2⟩; clear r1 r2; have HW2 : Hid (∃ g1, RB w1 B N t g1 ∧ PermOn a md (rot s m e f) g1 ∧ SortedOn ltR g1 a md ∧ Below B w w1) := ⟨_, HW1.out.1, PermOn.refl _ _ _, sorted_l HQ.out HM.out.1 HM.out.2.1, HW1.out.2⟩; have HF : Hid (Mg2 B N t a b f w w1) := (by obtain ⟨g1, k1, k2, k3, k4⟩ := HW2.out; have z := sym_fin ham hmb hmdb HC.out HX.out HY.out k2 k3 (PermOn.refl _ _ _) (sorted_l HQ2.out (HM.out.2.2 g1 k2).1 (HM.out.2.2 g1 k2).2); exact ⟨g1, k1, z.1, z.2, k4⟩)))
            go_returns
            exact ⟨rfl, HF.out⟩
      · have z4 : (s : Int) = md := by omega
        have z4n : ¬ (s : Int) < md := by omega
        have z5 : (s : Int) < m := by omega
        have z2 : ¬ (m : Int) < e := by omega
        have z3 : (md : Int) < e := by omega
        have z7 : (e : Int) < b := by omega
        have z6 : decide ((s : Int) < md) = false := decide_eq_false z4n
        have HE : Hid (rot s m e f = f) := by rw [show e = m by omega]; exact rot_same_r (by omega)
        have HQ : Hid (s = a ∨ s = md) := .inr (by omega)
        clear z1 tok1 z4
        by_cases z8 : (a : Int) < s
        · have HW1 : Hid (RB wr B N t (rot s m e f) ∧ Below B w wr) := by rw [HE.out]; exact HW.out
          have HW2 : Hid (∃ g1, RB wr B N t g1 ∧ PermOn a md (rot s m e f) g1 ∧ SortedOn ltR g1 a md ∧ Below B w wr) := ⟨_, HW1.out.1, PermOn.refl _ _ _, sorted_l HQ.out HM.out.1 HM.out.2.1, HW1.out.2⟩
          go_wp2_with (first
            | (go_at_call 121; obtain ⟨g1, k1, k2, k3, k4⟩ := HW2.out; refine (HI.out md e b g1 _ (by omega) (by omega) (by omega) (by omega) k1 (perm_dist k2 (by omega) HDr.out) (HM.out.2.2 g1 k2).1 (HM.out.2.2 g1 k2).2).mono ?_; rintro ee w3 ⟨rfl, g2, r1, r2, r3, r4⟩; have HF : Hid (Mg2 B N t a b f w w3) := ⟨g2, r1, (sym_fin ham hmb hmdb HC.out HX.out HY.out k2 k3 r2 r3).1, (sym_fin ham hmb hmdb HC.out HX.out HY.out k2 k3 r2 r3).2, k4.trans r4⟩; clear r1 r2 r3 r4 k1 k2 k3 k4))
          go_returns
          exact ⟨rfl, HF.out⟩
        · have HW1 : Hid (RB wr B N t (rot s m e f) ∧ Below B w wr) := by rw [HE.out]; exact HW.out
          have HW2 : Hid (∃ g1, RB wr B N t g1 ∧ PermOn a md (rot s m e f) g1 ∧ SortedOn ltR g1 a md ∧ Below B w wr) := ⟨_, HW1.out.1, PermOn.refl _ _ _, sorted_l HQ.out HM.out.1 HM.out.2.1, HW1.out.2⟩
          go_wp2_with (first
            | (go_at_call 121; obtain ⟨g1, k1, k2, k3, k4⟩ := HW2.out; refine (HI.out md e b g1 _ (by omega) (by omega) (by omega) (by omega) k1 (perm_dist k2 (by omega) HDr.out) (HM.out.2.2 g1 k2).1 (HM.out.2.2 g1 k2).2).mono ?_; rintro ee w3 ⟨rfl, g2, r1, r2, r3, r4⟩; have HF : Hid (Mg2 B N t a b f w w3) := ⟨g2, r1, (sym_fin ham hmb hmdb HC.out HX.out HY.out k2 k3 r2 r3).1, (sym_fin ham hmb hmdb HC.out HX.out HY.out k2 k3 r2 r3).2, k4.trans r4⟩; clear r1 r2 r3 r4 k1 k2 k3 k4))
          go_returns
          exact ⟨rfl, HF.out⟩

set_option maxRecDepth 20000 in
set_option maxHeartbeats 8000000 in
theorem sym_small (B N cap d a m b : Nat) (t : TypeId) (f : Nat → Int × Int) (w : World) (hN : (N : Int) ≤ 1048576) (ih : SymOk B N cap t d) (hd : b - a ≤ d + 1) (ham2 : a + 1 < m) (hmb2 : m + 1 < b) (hb : b ≤ N) (H : RB w B N t f) (D : ∀ i j, i < N → j < N → i ≠ j → (f i).2 ≠ (f j).2) (X : SortedOn ltR f a m) (Y : SortedOn ltR f m b) (hmd : m ≤ (a + b) / 2) :
    Calls Try.prog 121 #[.slice (some ⟨B, 0, none⟩) N cap, .int .i64 a, .int .i64 m, .int .i64 b, .func (Fn.func 99) #[] #[]] w fun e w' => e = .returned (.tuple #[]) ∧ Mg2 B N t a b f w w' := by
  have HR : Hid (RB w B N t f) := H
  have HD : Hid (∀ i j, i < N → j < N → i ≠ j → (f i).2 ≠ (f j).2) := D
  have HX : Hid (SortedOn ltR f a m) := X
  have HY : Hid (SortedOn ltR f m b) := Y
  have HI : Hid (SymOk B N cap t d) := ih
  have ham : a < m := by omega
  have hmb : m < b := by omega
  obtain ⟨md, hmid⟩ : ∃ md : Nat, (a + b) / 2 = md := ⟨_, rfl⟩
  have hmdb : a ≤ md ∧ md ≤ b := by omega
  have emd : ((a : Int) + (b : Int)) / 2 = (md : Int) := by omega
  obtain ⟨n, hn⟩ : ∃ n : Nat, n = md + m := ⟨_, rfl⟩
  obtain ⟨p, hp⟩ : ∃ p : Nat, p = n - 1 := ⟨_, rfl⟩
  have en : (md : Int) + (m : Int) = (n : Int) := by omega
  have ep : (n : Int) - 1 = (p : Int) := by omega
  have Hn : Hid (n = md + m ∧ 2 * md ≤ a + b ∧ a + b ≤ 2 * md + 1) := ⟨hn, by omega, by omega⟩
  have Hp : Hid (p = n - 1) := hp
  have ia : (a : Int) ≤ 1048576 := by omega
  have im : (m : Int) ≤ 1048576 := by omega
  have ib : (b : Int) ≤ 1048576 := by omega
  have imd : (md : Int) ≤ 1048576 := by omega
  have lamd : (a : Int) < md := by omega
  have lmdb : (md : Int) < b := by omega
  have em0 : ((m : Int) - (a : Int) == 1) = false := by simp; omega
  have em1 : ((b : Int) - (m : Int) == 1) = false := by simp; omega
  have lbm : ¬ (md : Int) < m := by omega
  clear H D X Y ih hmid hn hp
  go_enter Try.func121, Try.ntmps121
  go_wp2
  go_loopw [20, 21] (fun u v wr => ∃ s r : Nat, u = .int .i64 (s : Int) ∧ v = .int .i64 (r : Int) ∧ a ≤ s ∧ s ≤ r ∧ r ≤ m ∧ Hid ((s = a ∨ ¬ ltR (f (n - s)) (f (s - 1))) ∧ (r = m ∨ ltR (f (n - 1 - r)) (f r))) ∧ Hid (RB wr B N t f ∧ Below B w wr)) (fun u v _ => (intOf v).toNat - (intOf u).toNat)
  case atStart => exact ⟨a, m, rfl, rfl, Nat.le_refl _, by have := Hn.out; omega, Nat.le_refl _, ⟨.inl rfl, .inl rfl⟩, HR.out, Below.refl _ _⟩
  case round =>
    obtain ⟨s, r, rfl, rfl, hls, hsr, hrh, HP, HW⟩ := hrel
    by_cases hlt : s < r
    · obtain ⟨c, hc⟩ : ∃ c : Nat, (s + r) / 2 = c := ⟨_, rfl⟩
      have ec : ((s : Int) + (r : Int)) / 2 = (c : Int) := by omega
      have c1 : s ≤ c := by omega
      have c2 : c < r := by omega
      obtain ⟨q, hq⟩ : ∃ q : Nat, q = p - c := ⟨_, rfl⟩
      have hqN : q < N := by have := Hn.out; have := Hp.out; omega
      have eq : (p : Int) - (c : Int) = (q : Int) := by have := Hn.out; have := Hp.out; omega
      have hwr : IntKind.i64.wrap ((p : Int) - (c : Int)) = (q : Int) := by rw [IntWalk.i64_in _ ⟨by omega, by omega⟩]; exact eq
      have Hq : Hid (q = n - 1 - c) := by have := Hn.out; have := Hp.out; show _ = _; omega
      have lcN : (c : Int) < (N : Int) := by have := Hn.out; omega
      have lqN : (q : Int) < (N : Int) := by omega
      have lsr : (s : Int) < (r : Int) := by omega
      have lrN : (r : Int) ≤ (N : Int) := by have := Hn.out; omega
      have cN : c < N := by omega
      clear hc hq eq
      obtain ⟨hR, hB⟩ := HW.out
      obtain ⟨d1, d2⟩ := hR.cell (j := q) hqN
      obtain ⟨d3, d4⟩ := hR.cell (j := c) cN
      obtain ⟨x1, x2, hx⟩ : ∃ x1 x2, f q = (x1, x2) := ⟨_, _, rfl⟩
      obtain ⟨y1, y2, hy⟩ : ∃ y1 y2, f c = (y1, y2) := ⟨_, _, rfl⟩
      rw [hx] at d1 d2
      rw [hy] at d3 d4
      simp only at d1 d2 d3 d4
      have hRd : RB wr.drew B N t f := hR
      have hBd : Below B w wr.drew := hB.drew
      have Hx : Hid (f q = (x1, x2)) := hx
      have Hy : Hid (f c = (y1, y2)) := hy
      clear hx hy hR hB HW
      by_cases hc : ltR (x1, x2) (y1, y2)
      · obtain ⟨V, hV, HV⟩ : ∃ V, V < 0 ∧ Hid (crV (x1, x2) (y1, y2) = V) := ⟨-1, by omega, crV_lt hc⟩
        have dV : decide (V < 0) = true := decide_eq_true hV
        have HP2 : Hid ((s = a ∨ ¬ ltR (f (n - s)) (f (s - 1))) ∧ (c = m ∨ ltR (f (n - 1 - c)) (f c))) := ⟨HP.out.1, .inr (by rw [← Hq.out, Hx.out, Hy.out]; exact hc)⟩
        clear hc
        go_wp2
        go_region_held3 (fun w' => w'.cell? ⟨B, q * 2, none⟩ = some (.int .i64 x1) ∧ w'.cell? ⟨B, q * 2 + 1, none⟩ = some (.int .i64 x2) ∧ w'.cell? ⟨B, c * 2, none⟩ = some (.int .i64 y1) ∧ w'.cell? ⟨B, c * 2 + 1, none⟩ = some (.int .i64 y2) ∧ RB w' B N t f ∧ Below B w w')
          (refine ⟨?_, ?_, ?_, ?_, ?_, ?_⟩ <;> first | assumption | (simp [*]; done))
          (first | (go_at_call 99; refine (compareRests_eq _ _ _ _ V _ HV).mono ?_; rintro e w2 ⟨rfl, b2⟩; have q0 : w2.cell? ⟨B, q * 2, none⟩ = some (.int .i64 x1) := keep_cell' b2 (by simp [*]); have q1 : w2.cell? ⟨B, q * 2 + 1, none⟩ = some (.int .i64 x2) := keep_cell' b2 (by simp [*]); have q2 : w2.cell? ⟨B, c * 2, none⟩ = some (.int .i64 y1) := keep_cell' b2 (by simp [*]); have q3 : w2.cell? ⟨B, c * 2 + 1, none⟩ = some (.int .i64 y2) := keep_cell' b2 (by simp [*]); have q4 : RB w2 B N t f := rb_on (by assumption) b2; have q5 : Below B w w2 := bel_rb (g := f) (N := N) (t := t) (by assumption) (by assumption) b2))
        go_wp2
        go_roundw
        case rel => exact ⟨s, c, rfl, by go_num, hls, c1, by omega, HP2, q4, q5⟩
        case measure => simp [intOf]; omega
      · obtain ⟨V, hV, HV⟩ : ∃ V, 0 ≤ V ∧ Hid (crV (x1, x2) (y1, y2) = V) := by
          rcases crV_ge hc with e | e
          · exact ⟨0, by omega, e⟩
          · exact ⟨1, by omega, e⟩
        have dV : decide (V < 0) = false := decide_eq_false (by omega)
        have HP2 : Hid ((c + 1 = a ∨ ¬ ltR (f (n - (c + 1))) (f (c + 1 - 1))) ∧ (r = m ∨ ltR (f (n - 1 - r)) (f r))) := ⟨.inr (by rw [show n - (c + 1) = q by have := Hq.out; omega, show c + 1 - 1 = c by omega, Hx.out, Hy.out]; exact hc), HP.out.2⟩
        clear hc
        go_wp2
        go_region_held3 (fun w' => w'.cell? ⟨B, q * 2, none⟩ = some (.int .i64 x1) ∧ w'.cell? ⟨B, q * 2 + 1, none⟩ = some (.int .i64 x2) ∧ w'.cell? ⟨B, c * 2, none⟩ = some (.int .i64 y1) ∧ w'.cell? ⟨B, c * 2 + 1, none⟩ = some (.int .i64 y2) ∧ RB w' B N t f ∧ Below B w w')
          (refine ⟨?_, ?_, ?_, ?_, ?_, ?_⟩ <;> first | assumption | (simp [*]; done))
          (first | (go_at_call 99; refine (compareRests_eq _ _ _ _ V _ HV).mono ?_; rintro e w2 ⟨rfl, b2⟩; have q0 : w2.cell? ⟨B, q * 2, none⟩ = some (.int .i64 x1) := keep_cell' b2 (by simp [*]); have q1 : w2.cell? ⟨B, q * 2 + 1, none⟩ = some (.int .i64 x2) := keep_cell' b2 (by simp [*]); have q2 : w2.cell? ⟨B, c * 2, none⟩ = some (.int .i64 y1) := keep_cell' b2 (by simp [*]); have q3 : w2.cell? ⟨B, c * 2 + 1, none⟩ = some (.int .i64 y2) := keep_cell' b2 (by simp [*]); have q4 : RB w2 B N t f := rb_on (by assumption) b2; have q5 : Below B w w2 := bel_rb (g := f) (N := N) (t := t) (by assumption) (by assumption) b2))
        go_wp2
        go_roundw
        case rel => exact ⟨c + 1, r, by go_num, rfl, by omega, by omega, hrh, HP2, q4, q5⟩
        case measure => simp [intOf]; omega
    · obtain rfl : s = r := by omega
      have lss : ¬ (s : Int) < (s : Int) := by omega
      obtain ⟨e, he⟩ : ∃ e : Nat, (e : Int) = (n : Int) - (s : Int) := ⟨n - s, by have := Hn.out; omega⟩
      have ee : (n : Int) - (s : Int) = (e : Int) := he.symm
      have HC : Hid (Cut a m b md s e f) := by
        have hn := Hn.out
        have c1 := HP.out.1
        have c2 := HP.out.2
        refine ⟨by omega, by omega, by omega, by omega, by omega, by omega, by omega, fun h1 h2 => ?_, fun h1 h2 => ?_⟩
        · rcases c1 with c | c
          · omega
          · rw [show n - s = e by omega] at c; exact ltR_total (HD.out _ _ (by omega) (by omega) (by omega)) c
        · rcases c2 with c | c
          · omega
          · rw [show n - 1 - s = e - 1 by omega] at c; exact c
      have HM : Hid (SortedOn ltR (rot s m e f) a s ∧ SortedOn ltR (rot s m e f) s md ∧ ∀ g1, PermOn a md (rot s m e f) g1 → SortedOn ltR g1 md e ∧ SortedOn ltR g1 e b) := sym_mid ham hmb hmdb HC.out HX.out HY.out
      have HDr : Hid (∀ i j, i < N → j < N → i ≠ j → (rot s m e f i).2 ≠ (rot s m e f j).2) := perm_dist (cut_perm HC.out) hb HD.out
      have hse : (s : Int) + (e : Int) = (md : Int) + (m : Int) := by have := HC.out.2.2.2.2.2.2.1; omega
      have hsm : (s : Int) ≤ m := by have := HC.out.2.1; omega
      have hme : (m : Int) ≤ e := by have := HC.out.2.2.1; omega
      have heb : (e : Int) ≤ b := by have := HC.out.2.2.2.1; omega
      have has : (a : Int) ≤ s := by have := HC.out.1; omega
      have hsd : (s : Int) ≤ md := by have := HC.out.2.2.2.2.1; omega
      have hde : (md : Int) ≤ e := by have := HC.out.2.2.2.2.2.1; omega
      have tok1 : True := trivial
      clear he HP
      by_cases z1 : (s : Int) < md ∧ (s : Int) < m
      · have z2 : (m : Int) < e := by omega
        have z3 : (md : Int) < e := by omega
        obtain ⟨z4, z5⟩ := z1
        by_cases z6 : (a : Int) < s
        · by_cases z7 : (e : Int) < b
          · go_wp2_with (first
              | (go_at_call 128; refine (rotate_at B N cap s m e t f _ _ hN (by omega) (by omega) (by have := HC.out.2.2.2.1; omega) HW.out.1).mono ?_; rintro ee w1 ⟨rfl, r1, r2⟩; have HW1 : Hid (RB w1 B N t (rot s m e f) ∧ Below B w w1) := ⟨r1, HW.out.2.trans r2⟩; clear r1 r2)
              | (go_at_call 121; clear tok1; refine (HI.out a s md _ _ (by omega) (by omega) (by omega) (by omega) HW1.out.1 HDr.out HM.out.1 HM.out.2.1).mono ?_; rintro ee w2 ⟨rfl, g1, r1, r2, r3, r4⟩; have HW2 : Hid (∃ g1, RB w2 B N t g1 ∧ PermOn a md (rot s m e f) g1 ∧ SortedOn ltR g1 a md ∧ Below B w w2) := ⟨g1, r1, r2, r3, HW1.out.2.trans r4⟩; clear r1 r2 r3 r4)
              | (go_at_call 121; obtain ⟨g1, k1, k2, k3, k4⟩ := HW2.out; refine (HI.out md e b g1 _ (by omega) (by omega) (by omega) (by omega) k1 (perm_dist k2 (by omega) HDr.out) (HM.out.2.2 g1 k2).1 (HM.out.2.2 g1 k2).2).mono ?_; rintro ee w3 ⟨rfl, g2, r1, r2, r3, r4⟩; have HF : Hid (Mg2 B N t a b f w w3) := ⟨g2, r1, (sym_fin ham hmb hmdb HC.out HX.out HY.out k2 k3 r2 r3).1, (sym_fin ham hmb hmdb HC.out HX.out HY.out k2 k3 r2 r3).2, k4.trans r4⟩; clear r1 r2 r3 r4 k1 k2 k3 k4))
            go_returns
            exact ⟨rfl, HF.out⟩
          · exfalso; have := Hn.out; omega
        · have HQ : Hid (s = a ∨ s = md) := .inl (by omega)
          by_cases z7 : (e : Int) < b
          · clear tok1
            go_wp2_with (first
              | (go_at_call 128; refine (rotate_at B N cap s m e t f _ _ hN (by omega) (by omega) (by have := HC.out.2.2.2.1; omega) HW.out.1).mono ?_; rintro ee w1 ⟨rfl, r1, r2⟩; have HW1 : Hid (RB w1 B N t (rot s m e f) ∧ Below B w w1) := ⟨r1, HW.out.2.trans r2⟩; clear r1 r2; have HW2 : Hid (∃ g1, RB w1 B N t g1 ∧ PermOn a md (rot s m e f) g1 ∧ SortedOn ltR g1 a md ∧ Below B w w1) := ⟨_, HW1.out.1, PermOn.refl _ _ _, sorted_l HQ.out HM.out.1 HM.out.2.1, HW1.out.2⟩)
              | (go_at_call 121; obtain ⟨g1, k1, k2, k3, k4⟩ := HW2.out; refine (HI.out md e b g1 _ (by omega) (by omega) (by omega) (by omega) k1 (perm_dist k2 (by omega) HDr.out) (HM.out.2.2 g1 k2).1 (HM.out.2.2 g1 k2).2).mono ?_; rintro ee w3 ⟨rfl, g2, r1, r2, r3, r4⟩; have HF : Hid (Mg2 B N t a b f w w3) := ⟨g2, r1, (sym_fin ham hmb hmdb HC.out HX.out HY.out k2 k3 r2 r3).1, (sym_fin ham hmb hmdb HC.out HX.out HY.out k2 k3 r2 r3).2, k4.trans r4⟩; clear r1 r2 r3 r4 k1 k2 k3 k4))
            go_returns
            exact ⟨rfl, HF.out⟩
          · have HQ2 : Hid (e = md ∨ e = b) := .inr (by omega)
            go_wp2_with (first
              | (go_at_call 128; refine (rotate_at B N cap s m e t f _ _ hN (by omega) (by omega) (by have := HC.out.2.2.2.1; omega) HW.out.1).mono ?_; rintro ee w1 ⟨rfl, r1, r2⟩; have HW1 : Hid (RB w1 B N t (rot s m e f) ∧ Below B w w1) := ⟨r1, HW.out.2.trans r2⟩; clear r1 r2; have HW2 : Hid (∃ g1, RB w1 B N t g1 ∧ PermOn a md (rot s m e f) g1 ∧ SortedOn ltR g1 a md ∧ Below B w w1) := ⟨_, HW1.out.1, PermOn.refl _ _ _, sorted_l HQ.out HM.out.1 HM.out.2.1, HW1.out.2⟩; have HF : Hid (Mg2 B N t a b f w w1) := (by obtain ⟨g1, k1, k2, k3, k4⟩ := HW2.out; have z := sym_fin ham hmb hmdb HC.out HX.out HY.out k2 k3 (PermOn.refl _ _ _) (sorted_l HQ2.out (HM.out.2.2 g1 k2).1 (HM.out.2.2 g1 k2).2); exact ⟨g1, k1, z.1, z.2, k4⟩)))
            go_returns
            exact ⟨rfl, HF.out⟩
      · have z5 : ¬ (s : Int) < m := by omega
        have z3 : ¬ (md : Int) < e := by omega
        have z6 : (a : Int) < s := by omega
        have HE : Hid (rot s m e f = f) := by rw [show s = m by omega]; exact rot_same_l (by omega)
        have HQ2 : Hid (e = md ∨ e = b) := .inl (by omega)
        clear z1
        by_cases z7 : (s : Int) < md
        · have HW1 : Hid (RB wr B N t (rot s m e f) ∧ Below B w wr) := by rw [HE.out]; exact HW.out
          go_wp2_with (first
            | (go_at_call 121; clear tok1; refine (HI.out a s md _ _ (by omega) (by omega) (by omega) (by omega) HW1.out.1 HDr.out HM.out.1 HM.out.2.1).mono ?_; rintro ee w2 ⟨rfl, g1, r1, r2, r3, r4⟩; have HW2 : Hid (∃ g1, RB w2 B N t g1 ∧ PermOn a md (rot s m e f) g1 ∧ SortedOn ltR g1 a md ∧ Below B w w2) := ⟨g1, r1, r2, r3, HW1.out.2.trans r4⟩; clear r1 r2 r3 r4; have HF : Hid (Mg2 B N t a b f w w2) := (by obtain ⟨g1, k1, k2, k3, k4⟩ := HW2.out; have z := sym_fin ham hmb hmdb HC.out HX.out HY.out k2 k3 (PermOn.refl _ _ _) (sorted_l HQ2.out (HM.out.2.2 g1 k2).1 (HM.out.2.2 g1 k2).2); exact ⟨g1, k1, z.1, z.2, k4⟩)))
          go_returns
          exact ⟨rfl, HF.out⟩
        · have HQ : Hid (s = a ∨ s = md) := .inr (by omega)
          have HW1 : Hid (RB wr B N t (rot s m e f) ∧ Below B w wr) := by rw [HE.out]; exact HW.out
          have HW2 : Hid (∃ g1, RB wr B N t g1 ∧ PermOn a md (rot s m e f) g1 ∧ SortedOn ltR g1 a md ∧ Below B w wr) := ⟨_, HW1.out.1, PermOn.refl _ _ _, sorted_l HQ.out HM.out.1 HM.out.2.1, HW1.out.2⟩
          have HF : Hid (Mg2 B N t a b f w wr) := (by obtain ⟨g1, k1, k2, k3, k4⟩ := HW2.out; have z := sym_fin ham hmb hmdb HC.out HX.out HY.out k2 k3 (PermOn.refl _ _ _) (sorted_l HQ2.out (HM.out.2.2 g1 k2).1 (HM.out.2.2 g1 k2).2); exact ⟨g1, k1, z.1, z.2, k4⟩)
          go_wp2
          go_returns
          exact ⟨rfl, HF.out⟩

theorem symMerge_any (B N cap : Nat) (t : TypeId) (hN : (N : Int) ≤ 1048576) : ∀ d, SymOk B N cap t d
  | 0 => fun a m b f w hd h1 h2 => by omega
  | d + 1 => fun a m b f w hd h1 h2 hb H D X Y => by
    by_cases q1 : m = a + 1
    · subst q1; exact sym_left B N cap a b t f w hN h2 hb H D Y
    · by_cases q2 : b = m + 1
      · subst q2; exact sym_right B N cap a m t f w hN (by omega) hb H D X
      · by_cases q3 : (a + b) / 2 < m
        · exact sym_big B N cap d a m b t f w hN (symMerge_any B N cap t hN d) hd (by omega) (by omega) hb H D X Y q3
        · exact sym_small B N cap d a m b t f w hN (symMerge_any B N cap t hN d) hd (by omega) (by omega) hb H D X Y (by omega)
end Go.Proofs.Ytdgccdlaokbnhaa.Sh

namespace Go.Proofs.Ytdgccdlaokbnhaa.Sh
open Go.ChangeShapes Go.WideShapes Go.ChangeAt Go.RowKit
set_option linter.unusedVariables false
set_option linter.unusedSimpArgs false

/-- From a on, runs of s places are sorted, each by itself. -/
inductive From (s N : Nat) (g : Nat → Int × Int) : Nat → Prop
  | last (a : Nat) : SortedOn ltR g a N → N ≤ a + s → From s N g a
  | cons (a : Nat) : SortedOn ltR g a (a + s) → From s N g (a + s) → From s N g a
section
variable {s N a : Nat} {g h : Nat → Int × Int}
theorem From.congr (x : From s N g a) (e : ∀ i, a ≤ i → h i = g i) : From s N h a := by
  induction x with
  | last a q1 q2 => exact .last a (q1.congr (fun i h1 _ => e i h1)) q2
  | cons a q1 q2 ih => exact .cons a (q1.congr (fun i h1 _ => e i h1)) (ih (fun i hi => e i (by omega)))
theorem From.one (x : From s N g a) (h : N ≤ a + s) : SortedOn ltR g a N := by
  cases x with
  | last _ q1 q2 => exact q1
  | cons _ q1 q2 => exact q1.sub (Nat.le_refl _) h
theorem From.half (x : From s N g a) (h1 : a + s < N) (h2 : N ≤ a + 2 * s) : SortedOn ltR g a (a + s) ∧ SortedOn ltR g (a + s) N := by
  cases x with
  | last _ q1 q2 => omega
  | cons _ q1 q2 => exact ⟨q1, q2.one (by omega)⟩
theorem From.two (x : From s N g a) (h1 : a + 2 * s ≤ N) (hs : 0 < s) : SortedOn ltR g a (a + s) ∧ SortedOn ltR g (a + s) (a + 2 * s) ∧ From s N g (a + 2 * s) := by
  cases x with
  | last _ q1 q2 => omega
  | cons _ q1 q2 =>
    cases q2 with
    | last _ r1 r2 =>
      obtain rfl : N = a + 2 * s := by omega
      exact ⟨q1, r1, .last _ (fun i j _ _ _ => by omega) (by omega)⟩
    | cons _ r1 r2 => rw [show a + s + s = a + 2 * s by omega] at r1 r2; exact ⟨q1, r1, r2⟩

/-- All up to a is laid: with the rest from a on it is so from the start on. -/
def Upto (s N : Nat) (g : Nat → Int × Int) (a : Nat) : Prop := ∀ h, (∀ i, i < a → h i = g i) → From s N h a → From s N h 0
theorem Upto.zero : Upto s N g 0 := fun h _ x => x
theorem Upto.step (x : Upto s N g a) (e : ∀ i, i < a → h i = g i) (q : SortedOn ltR h a (a + s)) : Upto s N h (a + s) := fun k e1 y =>
  x k (fun i hi => (e1 i (by omega)).trans (e i hi)) (.cons a (q.congr (fun i _ h2 => e1 i h2)) y)
theorem Upto.done (x : Upto s N g a) (e : ∀ i, i < a → h i = g i) (q : SortedOn ltR h a N) (hs : N ≤ a + s) : From s N h 0 := x h e (.last a q hs)
theorem perm_lo {b : Nat} (x : PermOn a b g h) : ∀ i, i < a → h i = g i := fun i hi => x.1 i (by omega)
theorem perm_hi {b : Nat} (x : PermOn a b g h) : ∀ i, b ≤ i → h i = g i := fun i hi => x.1 i (by omega)
end

/-- What the sort is to keep: the row is rearranged. -/
def Kept (B N : Nat) (t : TypeId) (f : Nat → Int × Int) (w w' : World) (g : Nat → Int × Int) : Prop := RB w' B N t g ∧ PermOn 0 N f g ∧ Below B w w'

theorem ins_at (B N cap a b : Nat) (t : TypeId) (f g : Nat → Int × Int) (w W : World) (hN : (N : Int) ≤ 1048576) (ha : a ≤ b) (hb : b ≤ N) (K : Kept B N t f w W g) (D : ∀ i j, i < N → j < N → i ≠ j → (f i).2 ≠ (f j).2) :
    Calls Try.prog 120 #[.slice (some ⟨B, 0, none⟩) N cap, .int .i64 a, .int .i64 b, .func (Fn.func 99) #[] #[]] W fun e w' => e = .returned (.tuple #[]) ∧ ∃ h, Kept B N t f w w' h ∧ PermOn a b g h ∧ SortedOn ltR h a b := by
  refine (insertion_any B N cap a b t g W hN ha hb K.1 (perm_dist K.2.1 (Nat.le_refl _) D)).mono ?_
  rintro e w' ⟨rfl, h, r1, r2, r3, r4⟩
  exact ⟨rfl, h, ⟨r1, K.2.1.trans (r2.mono (Nat.zero_le _) hb), K.2.2.trans r4⟩, r2, r3⟩

theorem sym_at (B N cap a m b : Nat) (t : TypeId) (f g : Nat → Int × Int) (w W : World) (x : Int) (hx : x = (m : Int)) (hN : (N : Int) ≤ 1048576) (ha : a < m) (hm : m < b) (hb : b ≤ N) (K : Kept B N t f w W g) (D : ∀ i j, i < N → j < N → i ≠ j → (f i).2 ≠ (f j).2) (X : SortedOn ltR g a m) (Y : SortedOn ltR g m b) :
    Calls Try.prog 121 #[.slice (some ⟨B, 0, none⟩) N cap, .int .i64 a, .int .i64 x, .int .i64 b, .func (Fn.func 99) #[] #[]] W fun e w' => e = .returned (.tuple #[]) ∧ ∃ h, Kept B N t f w w' h ∧ PermOn a b g h ∧ SortedOn ltR h a b := by
  subst hx
  refine (symMerge_any B N cap t hN (b - a) a m b g W (Nat.le_refl _) ha hm hb K.1 (perm_dist K.2.1 (Nat.le_refl _) D) X Y).mono ?_
  rintro e w' ⟨rfl, h, r1, r2, r3, r4⟩
  exact ⟨rfl, h, ⟨r1, K.2.1.trans (r2.mono (Nat.zero_le _) hb), K.2.2.trans r4⟩, r2, r3⟩

set_option maxRecDepth 20000 in
set_option maxHeartbeats 8000000 in
theorem stable_any (B N cap : Nat) (t : TypeId) (f : Nat → Int × Int) (w : World) (hN : (N : Int) ≤ 1048576) (H : RB w B N t f) (D : ∀ i j, i < N → j < N → i ≠ j → (f i).2 ≠ (f j).2) :
    Calls Try.prog 116 #[.slice (some ⟨B, 0, none⟩) N cap, .int .i64 N, .func (Fn.func 99) #[] #[]] w fun e w' => e = .returned (.tuple #[]) ∧ ∃ g, Kept B N t f w w' g ∧ SortedOn ltR g 0 N := by
  have HR : Hid (RB w B N t f) := H
  have HD : Hid (∀ i j, i < N → j < N → i ≠ j → (f i).2 ≠ (f j).2) := D
  clear H D
  go_enter Try.func116, Try.ntmps116
  go_wp2
  go_loopw [7, 8] (fun u v wr => ∃ a b : Nat, u = .int .i64 (a : Int) ∧ v = .int .i64 (b : Int) ∧ b = a + 20 ∧ a ≤ N ∧ Hid (∃ g, Kept B N t f w wr g ∧ Upto 20 N g a)) (fun u v _ => N - (intOf u).toNat)
  case atStart => exact ⟨0, 20, rfl, rfl, rfl, Nat.zero_le _, f, ⟨HR.out, PermOn.refl _ _ _, Below.refl _ _⟩, Upto.zero⟩
  case round =>
    obtain ⟨a, b, rfl, rfl, hba, haN, HP⟩ := hrel
    by_cases hlt : b ≤ N
    · have l1 : (b : Int) ≤ (N : Int) := by omega
      have Hb : Hid (b = a + 20) := hba
      obtain ⟨g, hK, hU⟩ := HP.out
      have HK : Hid (Kept B N t f w wr g) := hK
      have HU : Hid (Upto 20 N g a) := hU
      clear hba HP hK hU
      go_wp2_with (go_at_call 120; refine (ins_at B N cap a b t f g w wr hN (by have := Hb.out; omega) hlt HK.out HD.out).mono ?_; rintro ee w2 ⟨rfl, h, r1, r2, r3⟩; have HN2 : Hid (∃ g, Kept B N t f w w2 g ∧ Upto 20 N g b) := ⟨h, r1, by have e := Hb.out; rw [e] at r2 r3 ⊢; exact HU.out.step (perm_lo r2) r3⟩; clear r1 r2 r3)
      go_roundw
      case rel => exact ⟨b, b + 20, rfl, by go_num, rfl, hlt, HN2⟩
      case measure => have := Hb.out; simp [intOf]; omega
    · have l1 : ¬ (b : Int) ≤ (N : Int) := by omega
      have Hb : Hid (b = a + 20) := hba
      obtain ⟨g, hK, hU⟩ := HP.out
      have HK : Hid (Kept B N t f w wr g) := hK
      have HU : Hid (Upto 20 N g a) := hU
      clear hba HP hK hU
      go_wp2_with (go_at_call 120; refine (ins_at B N cap a N t f g w wr hN haN (Nat.le_refl _) HK.out HD.out).mono ?_; rintro ee w2 ⟨rfl, h, r1, r2, r3⟩; have HN2 : Hid (∃ g, Kept B N t f w w2 g ∧ From 20 N g 0) := ⟨h, r1, HU.out.done (perm_lo r2) r3 (by have := Hb.out; omega)⟩; clear r1 r2 r3)
      clear HK HU
      rename_i wr0
      go_loopw [6] (fun u wr => ∃ s : Nat, u = .int .i64 (s : Int) ∧ 0 < s ∧ (s = 20 ∨ s ≤ 2 * N) ∧ Hid (∃ g, Kept B N t f w wr g ∧ From s N g 0)) (fun u _ => N - (intOf u).toNat)
      case atStart => exact ⟨20, rfl, by omega, .inl rfl, HN2⟩
      case round =>
        clear HN2
        obtain ⟨s, rfl, hs0, hsN, HP⟩ := hrel
        have is : (s : Int) ≤ 2097152 := by omega
        by_cases hsl : s < N
        · have l2 : (s : Int) < (N : Int) := by omega
          obtain ⟨d, hd⟩ : ∃ d : Nat, d = 2 * s := ⟨_, rfl⟩
          have ed : 2 * (s : Int) = (d : Int) := by omega
          have ed2 : (s : Int) * 2 = (d : Int) := by omega
          have Hd : Hid (d = 2 * s) := hd
          have id : (d : Int) ≤ 2097152 := by omega
          clear hd
          go_wp2
          go_loopw [7, 8] (fun u v wq => ∃ a b : Nat, u = .int .i64 (a : Int) ∧ v = .int .i64 (b : Int) ∧ b = a + d ∧ a ≤ N ∧ Hid (∃ g, Kept B N t f w wq g ∧ Upto d N g a ∧ From s N g a)) (fun u v _ => N - (intOf u).toNat)
          case atStart =>
            obtain ⟨g, k1, k2⟩ := HP.out
            exact ⟨0, d, rfl, rfl, by omega, Nat.zero_le _, g, k1, Upto.zero, k2⟩
          case round =>
            clear HP
            obtain ⟨a', b', rfl, rfl, hba', haN', HP⟩ := hrel
            have Hb' : Hid (b' = a' + d) := hba'
            have hd := Hd.out
            obtain ⟨g', hK, hU, hF⟩ := HP.out
            have ia' : (a' : Int) ≤ (N : Int) := by omega
            by_cases hl : b' ≤ N
            · have l3 : (b' : Int) ≤ (N : Int) := by omega
              have HK : Hid (Kept B N t f w wr g') := hK
              have HU : Hid (Upto d N g' a') := hU
              have HF : Hid (SortedOn ltR g' a' (a' + s) ∧ SortedOn ltR g' (a' + s) b' ∧ From s N g' b') := by
                have := hF.two (by omega) hs0
                rw [show a' + 2 * s = b' by omega] at this; exact this
              have q1 : a' + s < b' := by omega
              clear hd
              clear hba' HP hK hU hF
              go_wp2_with (go_at_call 121; refine (sym_at B N cap a' (a' + s) b' t f g' w wr _ (by omega) hN (by omega) q1 hl HK.out HD.out HF.out.1 HF.out.2.1).mono ?_; rintro ee w2 ⟨rfl, h, r1, r2, r3⟩; have HN2 : Hid (∃ g, Kept B N t f w w2 g ∧ Upto d N g b' ∧ From s N g b') := ⟨h, r1, by have e := Hb'.out; rw [e] at r2 r3 ⊢; exact HU.out.step (perm_lo r2) r3, HF.out.2.2.congr (perm_hi r2)⟩; clear r1 r2 r3)
              go_roundw
              case rel => exact ⟨b', b' + d, rfl, by go_num, rfl, hl, HN2⟩
              case measure => have := Hb'.out; have := Hd.out; simp [intOf]; omega
            · have l3 : ¬ (b' : Int) ≤ (N : Int) := by omega
              by_cases hm : a' + s < N
              · have l4 : (a' : Int) + (s : Int) < (N : Int) := by omega
                have HK : Hid (Kept B N t f w wr g') := hK
                have HU : Hid (Upto d N g' a') := hU
                have HF : Hid (SortedOn ltR g' a' (a' + s) ∧ SortedOn ltR g' (a' + s) N) := hF.half hm (by omega)
                have hbd : Hid (N ≤ a' + d) := by show _ ≤ _; omega
                clear hd
                clear hba' HP hK hU hF
                go_wp2_with (go_at_call 121; refine (sym_at B N cap a' (a' + s) N t f g' w wr _ (by omega) hN (by omega) hm (Nat.le_refl _) HK.out HD.out HF.out.1 HF.out.2).mono ?_; rintro ee w2 ⟨rfl, h, r1, r2, r3⟩; have HN2 : Hid (∃ g, Kept B N t f w w2 g ∧ From d N g 0) := ⟨h, r1, HU.out.done (perm_lo r2) r3 hbd.out⟩; clear r1 r2 r3)
                go_roundw
                case rel => exact ⟨d, by go_num, by have := Hd.out; omega, .inr (by have := Hd.out; omega), HN2⟩
                case measure => have := Hd.out; simp [intOf]; omega
              · have l4 : ¬ (a' : Int) + (s : Int) < (N : Int) := by omega
                have HN2 : Hid (∃ g, Kept B N t f w wr g ∧ From d N g 0) := ⟨g', hK, hU.done (fun _ _ => rfl) (hF.one (by omega)) (by omega)⟩
                clear hd
                clear hba' HP hK hU hF
                go_wp2
                go_roundw
                case rel => exact ⟨d, by go_num, by have := Hd.out; omega, .inr (by have := Hd.out; omega), HN2⟩
                case measure => have := Hd.out; simp [intOf]; omega
        · have l2 : ¬ (s : Int) < (N : Int) := by omega
          have HF : Hid (∃ g, Kept B N t f w wr g ∧ SortedOn ltR g 0 N) := by
            obtain ⟨g, k1, k2⟩ := HP.out
            exact ⟨g, k1, k2.one (by omega)⟩
          clear HP
          go_wp2
          go_returns
          exact ⟨rfl, HF.out⟩

theorem sortStable_any (B N cap : Nat) (t : TypeId) (f : Nat → Int × Int) (w : World) (hN : (N : Int) ≤ 1048576) (H : RB w B N t f) (D : ∀ i j, i < N → j < N → i ≠ j → (f i).2 ≠ (f j).2) :
    Calls Try.prog 109 #[.slice (some ⟨B, 0, none⟩) N cap, .func (Fn.func 99) #[] #[]] w fun e w' => e = .returned (.tuple #[]) ∧ ∃ g, Kept B N t f w w' g ∧ SortedOn ltR g 0 N := by
  have HR : Hid (RB w B N t f) := H
  have HD : Hid (∀ i j, i < N → j < N → i ≠ j → (f i).2 ≠ (f j).2) := D
  clear H D
  go_enter Try.func109, Try.ntmps109
  go_wp2_with (go_at_call 116; refine (stable_any B N cap t f w hN HR.out HD.out).mono ?_; rintro ee w2 ⟨rfl, r⟩; have HF : Hid (∃ g, Kept B N t f w w2 g ∧ SortedOn ltR g 0 N) := r; clear r)
  go_returns
  exact ⟨rfl, HF.out⟩

theorem sortBy_any (B N cap : Nat) (t : TypeId) (f : Nat → Int × Int) (w : World) (hN : (N : Int) ≤ 1048576) (H : RB w B N t f) (D : ∀ i j, i < N → j < N → i ≠ j → (f i).2 ≠ (f j).2) :
    Calls Try.prog 98 #[.slice (some ⟨B, 0, none⟩) N cap, .func (Fn.func 99) #[] #[]] w fun e w' => e = .returned (.tuple #[]) ∧ ∃ g, Kept B N t f w w' g ∧ SortedOn ltR g 0 N := by
  have HR : Hid (RB w B N t f) := H
  have HD : Hid (∀ i j, i < N → j < N → i ≠ j → (f i).2 ≠ (f j).2) := D
  clear H D
  go_enter Try.func98, Try.ntmps98
  go_wp2_with (go_at_call 109; refine (sortStable_any B N cap t f w hN HR.out HD.out).mono ?_; rintro ee w2 ⟨rfl, r⟩; have HF : Hid (∃ g, Kept B N t f w w2 g ∧ SortedOn ltR g 0 N) := r; clear r)
  go_returns
  exact ⟨rfl, HF.out⟩
end Go.Proofs.Ytdgccdlaokbnhaa.Sh
