/- Rows of lines and of entries that own their blocks. Nothing of the program. -/
import Derived.Test.YtapailihjlfkgaaDoorLr
namespace Go.Proofs.YtapailihjlfkgaaDoor
open Go.RowKit
set_option linter.unusedVariables false

/-- Block b holds just these n lines. -/
def OwnL (w : World) (b n : Nat) (ls : Nat → L5) (t : TypeId) : Prop := ∃ lc, CB w b lc t ∧ lc.size = n * 5 ∧ ∀ i, i < n → Cells5 lc (i * 5) (ls i)
theorem OwnL.lt {w : World} {b n : Nat} {ls : Nat → L5} {t : TypeId} (h : OwnL w b n ls t) : b < w.heap.size := by obtain ⟨lc, h1, _⟩ := h; exact h1.lt
theorem OwnL.row {w : World} {b n : Nat} {ls : Nat → L5} {t : TypeId} (h : OwnL w b n ls t) : LR w (some ⟨b, 0, none⟩) n ls := by obtain ⟨lc, h1, _, h3⟩ := h; exact LR.of_block h1 n ls h3
theorem OwnL.below {w w' : World} {B b n : Nat} {ls : Nat → L5} {t : TypeId} (h : OwnL w b n ls t) (k : Below B w w') (hb : b < B) : OwnL w' b n ls t := by obtain ⟨lc, h1, h2, h3⟩ := h; exact ⟨lc, h1.below k hb, h2, h3⟩
theorem OwnL.other {w : World} {b n c o : Nat} {ls : Nat → L5} {t : TypeId} {v : Value} (h : OwnL w b n ls t) (hb : b ≠ c) : OwnL (w.setCell ⟨c, o, none⟩ v) b n ls t := by obtain ⟨lc, h1, h2, h3⟩ := h; exact ⟨lc, h1.other v hb, h2, h3⟩

/-- Block B holds n entries, of which the first k are e 0, e 1, ..; entry j's lines lie in a block of their own, bl j. -/
structure OwnE (w : World) (B n k : Nat) (e : Nat → E4) (bl : Nat → Nat) (t tl : TypeId) : Prop where
  main : ∃ cs, CB w B cs t ∧ cs.size = n * 4 ∧ ∀ j, j < k → CellsE cs (j * 4) (e j) (.slice (some ⟨bl j, 0, none⟩) (e j).n (e j).n)
  own : ∀ j, j < k → OwnL w (bl j) (e j).n (e j).ls tl
  apart : ∀ j, j < k → bl j ≠ B
  inj : ∀ i j, i < k → j < k → i ≠ j → bl i ≠ bl j

theorem OwnE.row {w : World} {B n k : Nat} {e : Nat → E4} {bl : Nat → Nat} {t tl : TypeId} (h : OwnE w B n k e bl t tl) : ER w (some ⟨B, 0, none⟩) k e := by
  obtain ⟨cs, h1, h2, h3⟩ := h.main
  refine .inr ⟨B, 0, rfl, h1.lt, fun j hj => ?_⟩
  obtain ⟨a, b, c, d⟩ := h3 j hj
  rw [Nat.zero_add]
  exact ⟨by rw [h1.cell]; exact a, by rw [h1.cell]; exact b, by rw [h1.cell]; exact c, _, _, by rw [h1.cell]; exact d, (h.own j hj).row⟩

theorem OwnE.below {w w' : World} {C B n k : Nat} {e : Nat → E4} {bl : Nat → Nat} {t tl : TypeId} (h : OwnE w B n k e bl t tl) (hb : Below C w w') (hB : B < C) (hl : ∀ j, j < k → bl j < C) : OwnE w' B n k e bl t tl := by
  obtain ⟨cs, h1, h2, h3⟩ := h.main
  exact ⟨⟨cs, h1.below hb hB, h2, h3⟩, fun j hj => (h.own j hj).below hb (hl j hj), h.apart, h.inj⟩
theorem OwnE.keep {w w' : World} {B n k : Nat} {e : Nat → E4} {bl : Nat → Nat} {t tl : TypeId} (h : OwnE w B n k e bl t tl) (hb : Below w.heap.size w w') : OwnE w' B n k e bl t tl :=
  h.below hb (by obtain ⟨cs, h1, _⟩ := h.main; exact h1.lt) (fun j hj => (h.own j hj).lt)

/-- One entry more is stored. -/
theorem OwnE.step {w : World} {B n k b : Nat} {e : Nat → E4} {bl : Nat → Nat} {t tl : TypeId} (h : OwnE w B n k e bl t tl) (hk : k < n) (hO : OwnL w b (e k).n (e k).ls tl) (hb : b ≠ B) (hn : ∀ j, j < k → bl j ≠ b) :
    OwnE ((((w.setCell ⟨B, k * 4, none⟩ (.int .i64 (e k).day)).setCell ⟨B, k * 4 + 1, none⟩ (.int .i64 (e k).ref)).setCell ⟨B, k * 4 + 2, none⟩ (.string (e k).text)).setCell ⟨B, k * 4 + 3, none⟩ (.slice (some ⟨b, 0, none⟩) (e k).n (e k).n)) B n (k + 1) e (fun j => if j = k then b else bl j) t tl := by
  obtain ⟨cs, h1, h2, h3⟩ := h.main
  refine ⟨⟨put4 cs (k * 4) (e k) (.slice (some ⟨b, 0, none⟩) (e k).n (e k).n), ((((h1.set _ _).set _ _).set _ _).set _ _), by rw [put4_size]; exact h2, fun j hj => ?_⟩, fun j hj => ?_, fun j hj => ?_, fun i j hi hj hij => ?_⟩
  · by_cases hjk : j = k
    · subst hjk; simp only [if_true]; exact put4_get (by omega)
    · simp only [if_neg hjk]; exact put4_other (h3 j (by omega)) (by omega)
  · by_cases hjk : j = k
    · subst hjk; simp only [if_true]; exact (((hO.other hb).other hb).other hb).other hb
    · simp only [if_neg hjk]
      have ha := h.apart j (by omega)
      exact ((((h.own j (by omega)).other ha).other ha).other ha).other ha
  · by_cases hjk : j = k
    · simp only [if_pos hjk]; exact hb
    · simp only [if_neg hjk]; exact h.apart j (by omega)
  · by_cases hi2 : i = k <;> by_cases hj2 : j = k
    · omega
    · simp only [if_pos hi2, if_neg hj2]; exact fun q => hn j (by omega) q.symm
    · simp only [if_neg hi2, if_pos hj2]; exact hn i (by omega)
    · simp only [if_neg hi2, if_neg hj2]; exact h.inj i j (by omega) (by omega) hij

end Go.Proofs.YtapailihjlfkgaaDoor
