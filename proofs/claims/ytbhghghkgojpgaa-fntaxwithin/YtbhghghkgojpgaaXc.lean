/- l10DrawCodes. -/
import Derived.Test.YtbhghghkgojpgaaXr
namespace Go.Proofs.Ytbhghghkgojpgaa
open Go Go.ChangeShapes Go.WideShapes Go.ChangeAt Go.RowKit
set_option linter.unusedVariables false
set_option linter.unusedSimpArgs false

def flS (z : Nat → ByteArray) : Nat → List Value
  | 0 => []
  | n + 1 => flS z n ++ [.string (z n)]
theorem flS_len (z : Nat → ByteArray) : ∀ n, (flS z n).length = n
  | 0 => rfl
  | n + 1 => by rw [flS, List.length_append, flS_len z n]; rfl
theorem flS_get (z : Nat → ByteArray) : ∀ n j, j < n → (flS z n)[j]? = some (.string (z j))
  | 0, j, h => by omega
  | n + 1, j, h => by
    have hl := flS_len z n
    rw [flS]
    by_cases e : j = n
    · subst e; rw [List.getElem?_append_right (by omega), hl]; simp
    · rw [List.getElem?_append_left (by omega)]; exact flS_get z n j (by omega)
theorem row_STR {w : World} {base n : Nat} {ad : Option Addr} {cp : Nat} {z : Nat → ByteArray} (h : w.ownsRow base 9 1 (.slice ad n cp) n (flS z n)) : STR w ad n z := by
  by_cases h0 : n = 0
  · exact .inl h0
  rcases h.2 with ⟨_, e⟩ | ⟨g, cap, cur, e, hb, hg, _, _, _, ht⟩
  · omega
  · simp only [Value.slice.injEq] at e
    obtain ⟨rfl, _, _⟩ := e
    have hC : CB w g cur 9 := hg
    refine STR.of_block hC n z fun j hj => ?_
    have a := flS_get z n j hj
    rw [← ht, List.getElem?_take, if_pos (by omega)] at a
    simpa using a
set_option maxRecDepth 100000 in
theorem info9 : ∃ i, Try.prog.info? 9 = some i ∧ i.zero = some (.string ByteArray.empty) ∧ i.size = 1 ∧ i.bytes = 16 := by
  obtain ⟨i0, hi⟩ : ∃ i, Try.prog.info? 9 = some i := ⟨_, rfl⟩
  have hz0 : i0.zero = some (.string ByteArray.empty) := by
    have : (Try.prog.info? 9).bind (·.zero) = some (.string ByteArray.empty) := by kernel_rfl
    rw [hi] at this; exact this
  have hz1 : i0.size = 1 := by
    have : (Try.prog.info? 9).map (·.size) = some 1 := by kernel_rfl
    rw [hi] at this; simpa using this
  have hz2 : i0.bytes = 16 := by
    have : (Try.prog.info? 9).map (·.bytes) = some 16 := by kernel_rfl
    rw [hi] at this; simpa using this
  exact ⟨i0, hi, hz0, hz1, hz2⟩
def sAdd (z : Nat → ByteArray) (k : Nat) (x : ByteArray) (j : Nat) : ByteArray := if j = k then x else z j
theorem flS_congr {u v : Nat → ByteArray} : ∀ {n : Nat}, (∀ j, j < n → u j = v j) → flS u n = flS v n
  | 0, _ => rfl
  | n + 1, h => by rw [flS, flS, flS_congr (n := n) (fun j hj => h j (by omega)), h n (by omega)]
theorem flS_add (z : Nat → ByteArray) (k : Nat) (x : ByteArray) : flS (sAdd z k x) (k + 1) = flS z k ++ [.string x] := by
  rw [flS, flS_congr (v := z) (fun j hj => by unfold sAdd; rw [if_neg (by omega)])]
  unfold sAdd; rw [if_pos rfl]

/-- A row of texts of its own, beside a cursor and a row of rules. -/
structure CW (B b : Nat) (w : World) (bs : Nat) (sa : Option Addr) (m sc : Nat) (z : Nat → ByteArray) (ra : Option Addr) (n : Nat) (c : Nat → T5) (W : World) : Prop where
  cur : Cursor W b
  bel : Below B w W
  own : W.ownsRow bs 9 1 (.slice sa m sc) m (flS z m)
  tr : TR W ra n c
  bb : b < bs
  Bb : B ≤ b
  wB : B ≤ w.heap.size
  rb : ∀ q off, ra = some ⟨q, off, none⟩ → q ≠ b ∧ q < bs
section
variable {B b : Nat} {w W W' : World} {bs m sc n : Nat} {sa ra : Option Addr} {z : Nat → ByteArray} {c : Nat → T5}
theorem TR.kept {ad : Option Addr} {len : Nat} (H : TR W ad len c) (hs : W.heap.size ≤ W'.heap.size) (h : ∀ q off, ad = some ⟨q, off, none⟩ → q < W.heap.size → W'.heap[q]? = W.heap[q]?) : TR W' ad len c := by
  rcases H with h0 | ⟨k, off, e, hk, hc⟩
  · exact .inl h0
  · exact .inr ⟨k, off, e, Nat.lt_of_lt_of_le hk hs, fun j hj => (hc j hj).block (h k off e hk)⟩
theorem CW.moved (h : CW B b w bs sa m sc z ra n c W) (mv : Moved b W W') : CW B b w bs sa m sc z ra n c W' := by
  have hb := h.bb
  have hl := h.cur.lt
  refine ⟨mv.1, h.bel.trans (mv.2.below h.Bb (by have := h.Bb; omega)), arow_block h.own (fun q hq => ?_), h.tr.kept mv.2.size (fun q off e hq => mv.2.block q hq (h.rb q off e).1), h.bb, h.Bb, h.wB, h.rb⟩
  have := h.own.lt q hq
  exact mv.2.block q this.2 (by omega)
theorem CW.below (h : CW B b w bs sa m sc z ra n c W) (bl : Below W.heap.size W W') : CW B b w bs sa m sc z ra n c W' := h.moved ⟨h.cur.below bl, Turns.of_below bl⟩
theorem CW.grow {w9 : World} {s9 : Option Addr} {sc9 : Nat} {o : Obj} {z' : Nat → ByteArray} (h : CW B b w bs sa m sc z ra n c W) (hg : (W.alloc o).grownBy w9 (Value.slice sa m sc).ownBlock) (hown : w9.ownsRow bs 9 1 (.slice s9 (m + 1) sc9) (m + 1) (flS z' (m + 1))) : CW B b w bs s9 (m + 1) sc9 z' ra n c w9 := by
  have h2 := h.bb
  have hge : ∀ q, (Value.slice sa m sc).ownBlock = some q → bs ≤ q := own_ge h.own
  refine ⟨(h.cur.alloc o).grown hg (fun q hq => by have := hge q hq; omega), bel_grown (h.bel.alloc (by have := h.cur.lt; have := h.Bb; omega) o) h.wB hg (fun q hq => by have := hge q hq; have := h.Bb; omega), hown, ?_, h.bb, h.Bb, h.wB, h.rb⟩
  have h3 := TR.alloc h.tr o
  exact h3.kept hg.size (fun q off e hq => hg.block q hq (fun e2 => by have := hge q e2.symm; have := (h.rb q off e).2; omega))
end
end Go.Proofs.Ytbhghghkgojpgaa
