/- What FnLevelled wants: rows of truths; what has been marked. -/
import Derived.Test.YtmbdeafpfdeigaaDg
import Derived.Test.YtmbdeafpfdeigaaJi
import Derived.Test.YtmbdeafpfdeigaaLp
namespace Go.Proofs.Ytmbdeafpfdeigaa
open Go Go.ChangeShapes Go.WideShapes Go.ChangeAt Go.RowKit
set_option linter.unusedVariables false
set_option linter.unusedSimpArgs false

theorem ByteRow.up {w W : World} {ad : Option Addr} {len : Nat} (H : ByteRow w w.heap.size ad len) (b : Below w.heap.size w W) : ByteRow W W.heap.size ad len := by
  rcases H with h | ⟨k, off, e, h1, h2, h3⟩
  · exact .inl h
  · exact .inr ⟨k, off, e, by have := b.size; omega, by have := b.size; omega, fun j hj => by obtain ⟨c, c0, c1, hc⟩ := h3 j hj; exact ⟨c, c0, c1, by rw [World.cell?_of_block (w := w) (b.block k h2)]; exact hc⟩⟩
set_option maxRecDepth 20000 in
theorem big_f (ad : Option Addr) (len cap : Nat) (w : World) (h : (len : Int) ≤ 1048576) :
    Calls Try.prog 16 #[.slice ad len cap] w fun e w' => e = .returned (.bool false) ∧ w' = w := by
  have hd : decide ((1048576 : Int) < (len : Int)) = false := decide_eq_false (by omega)
  go_enter Try.func16, Try.ntmps16
  go_wp2
  go_returns
  exact ⟨rfl, rfl⟩
def zerosB (n : Nat) : Array Value := madeCells #[.bool false] n
theorem zerosB_get {n j : Nat} (h : j < n) : (zerosB n)[j]? = some (.bool false) := by
  simp [zerosB, madeCells, h, Nat.mod_one]
set_option maxRecDepth 100000 in
theorem mkBo (n : Nat) (h : (n : Int) ≤ 1048576) (w : World) : (Instr.makeSlice 45 (.int .i64 (n : Int)) (.int .i64 (n : Int))).run Try.prog w = .ok (.slice (some ⟨w.heap.size, 0, none⟩) n n) (w.alloc (.cells (zerosB n) 4)) := by
  obtain ⟨i, hi⟩ : ∃ i, Try.prog.info? 4 = some i := ⟨_, rfl⟩
  have hz : i.zero = some (.bool false) := by
    have : (Try.prog.info? 4).bind (·.zero) = some (.bool false) := by kernel_rfl
    rw [hi] at this; exact this
  have hs : i.size = 1 := by
    have : (Try.prog.info? 4).map (·.size) = some 1 := by kernel_rfl
    rw [hi] at this; simpa using this
  have hb : i.bytes = 1 := by
    have : (Try.prog.info? 4).map (·.bytes) = some 1 := by kernel_rfl
    rw [hi] at this; simpa using this
  have hr := run_make (P := Try.prog) w 45 4 i (.bool false) Try.underlying45 hi hz .i64 .i64 n n (by omega) (by omega) (by rw [hb]; omega) (by omega)
  simp only [Int.toNat_natCast, hs, Nat.mul_one] at hr
  exact hr
/-- A row of truths in a block of its own. -/
def BA (W : World) (b n : Nat) (f : Nat → Bool) : Prop := ∃ cs, CB W b cs 4 ∧ cs.size = n ∧ ∀ j, j < n → cs[j]? = some (.bool (f j))
section
variable {W W' : World} {b n : Nat} {f : Nat → Bool}
theorem BA.lt (h : BA W b n f) : b < W.heap.size := by obtain ⟨cs, h, _⟩ := h; exact h.lt
theorem BA.cell (h : BA W b n f) {j : Nat} (hj : j < n) : W.cell? ⟨b, j, none⟩ = some (.bool (f j)) := by obtain ⟨cs, h1, _, h2⟩ := h; rw [h1.cell]; exact h2 j hj
theorem BA.fr (h : BA W b n f) (j : Nat) : W.frozen? ⟨b, j, none⟩ = false := by obtain ⟨cs, h1, _⟩ := h; exact h1.fr j
theorem BA.keep (h : BA W b n f) (hb : W'.heap[b]? = W.heap[b]?) : BA W' b n f := by obtain ⟨cs, h1, h2⟩ := h; exact ⟨cs, by unfold CB at h1 ⊢; rw [hb]; exact h1, h2⟩
theorem BA.below (h : BA W b n f) (k : Below W.heap.size W W') : BA W' b n f := h.keep (k.block b h.lt)
theorem BA.set (h : BA W b n f) {p : Nat} (hp : p < n) (v : Bool) : BA (W.setCell ⟨b, p, none⟩ (.bool v)) b n (fun j => if j = p then v else f j) := by
  obtain ⟨cs, h1, h2, h3⟩ := h
  refine ⟨cs.setIfInBounds p (.bool v), h1.set p _, by simpa using h2, fun j hj => ?_⟩
  by_cases e : j = p
  · subst e; simp [h2, hj]
  · simp only [e, if_false]; rw [Array.getElem?_setIfInBounds_ne (fun q => e q.symm)]; exact h3 j hj
end
/-- Which have been met as a part of one of the first i, or of the first k of the next. -/
def PT (c : Nat → IT) (i k p : Nat) : Prop := ∃ i' k', (i' < i ∨ (i' = i ∧ k' < k)) ∧ k' < (c i').parn ∧ ((c i').parz k').item.toNat = p
def TT (c : Nat → IT) (L : Nat → Int) (i k p : Nat) : Prop := ∃ i' k', (i' < i ∨ (i' = i ∧ k' < k)) ∧ k' < (c i').parn ∧ ((c i').parz k').item.toNat = p ∧ L p = L i' + 1
theorem PT.next {c : Nat → IT} {i p : Nat} : PT c i (c i).parn p ↔ PT c (i + 1) 0 p := by
  constructor
  · rintro ⟨i', k', h1, h2, h3⟩; exact ⟨i', k', .inl (by omega), h2, h3⟩
  · rintro ⟨i', k', h1, h2, h3⟩
    by_cases e : i' = i
    · subst e; exact ⟨i', k', .inr ⟨rfl, h2⟩, h2, h3⟩
    · exact ⟨i', k', .inl (by omega), h2, h3⟩
theorem TT.next {c : Nat → IT} {L : Nat → Int} {i p : Nat} : TT c L i (c i).parn p ↔ TT c L (i + 1) 0 p := by
  constructor
  · rintro ⟨i', k', h1, h2, h3⟩; exact ⟨i', k', .inl (by omega), h2, h3⟩
  · rintro ⟨i', k', h1, h2, h3⟩
    by_cases e : i' = i
    · subst e; exact ⟨i', k', .inr ⟨rfl, h2⟩, h2, h3⟩
    · exact ⟨i', k', .inl (by omega), h2, h3⟩
theorem PT.step {c : Nat → IT} {i k p : Nat} (hk : k < (c i).parn) : PT c i (k + 1) p ↔ (PT c i k p ∨ p = ((c i).parz k).item.toNat) := by
  constructor
  · rintro ⟨i', k', h1, h2, h3⟩
    rcases h1 with h1 | ⟨rfl, h1⟩
    · exact .inl ⟨i', k', .inl h1, h2, h3⟩
    · by_cases e : k' = k
      · subst e; exact .inr h3.symm
      · exact .inl ⟨i', k', .inr ⟨rfl, by omega⟩, h2, h3⟩
  · rintro (⟨i', k', h1, h2, h3⟩ | rfl)
    · exact ⟨i', k', by rcases h1 with h1 | ⟨h1, h4⟩; exact .inl h1; exact .inr ⟨h1, by omega⟩, h2, h3⟩
    · exact ⟨i, k, .inr ⟨rfl, by omega⟩, hk, rfl⟩
theorem TT.step {c : Nat → IT} {L : Nat → Int} {i k p : Nat} (hk : k < (c i).parn) : TT c L i (k + 1) p ↔ (TT c L i k p ∨ (p = ((c i).parz k).item.toNat ∧ L p = L i + 1)) := by
  constructor
  · rintro ⟨i', k', h1, h2, h3, h4⟩
    rcases h1 with h1 | ⟨rfl, h1⟩
    · exact .inl ⟨i', k', .inl h1, h2, h3, h4⟩
    · by_cases e : k' = k
      · subst e; exact .inr ⟨h3.symm, h4⟩
      · exact .inl ⟨i', k', .inr ⟨rfl, by omega⟩, h2, h3, h4⟩
  · rintro (⟨i', k', h1, h2, h3, h4⟩ | ⟨rfl, h4⟩)
    · exact ⟨i', k', by rcases h1 with h1 | ⟨h1, h5⟩; exact .inl h1; exact .inr ⟨h1, by omega⟩, h2, h3, h4⟩
    · exact ⟨i, k, .inr ⟨rfl, by omega⟩, hk, rfl, h4⟩
theorem BA.drew {W : World} {b n : Nat} {f : Nat → Bool} (h : BA W b n f) : BA W.drew b n f := h
theorem BA.other {W : World} {b n : Nat} {f : Nat → Bool} (h : BA W b n f) {q o : Nat} {v : Value} (hq : b ≠ q) : BA (W.setCell ⟨q, o, none⟩ v) b n f := h.keep (Below.heap_setCell _ _ _ _ (by simpa using hq))
theorem hp_step {n : Nat} {c : Nat → IT} {i k P : Nat} {g : Nat → Bool} (hp : ∀ p, p < n → (g p = true ↔ PT c i k p)) (hk : k < (c i).parn) (hP : ((c i).parz k).item.toNat = P) : ∀ p, p < n → ((if p = P then true else g p) = true ↔ PT c i (k + 1) p) := fun p h => by
  rw [PT.step hk, hP, ← hp p h]
  by_cases e : p = P <;> simp [e]
theorem ht_yes {n : Nat} {c : Nat → IT} {L : Nat → Int} {i k P : Nat} {f : Nat → Bool} (ht : ∀ p, p < n → (f p = true ↔ TT c L i k p)) (hk : k < (c i).parn) (hP : ((c i).parz k).item.toNat = P) (e : L P = L i + 1) : ∀ p, p < n → ((if p = P then true else f p) = true ↔ TT c L i (k + 1) p) := fun p h => by
  rw [TT.step hk, hP, ← ht p h]
  by_cases e1 : p = P
  · subst e1; simp [e]
  · simp [e1]
theorem ht_no {n : Nat} {c : Nat → IT} {L : Nat → Int} {i k P : Nat} {f : Nat → Bool} (ht : ∀ p, p < n → (f p = true ↔ TT c L i k p)) (hk : k < (c i).parn) (hP : ((c i).parz k).item.toNat = P) (e : ¬ L P = L i + 1) : ∀ p, p < n → (f p = true ↔ TT c L i (k + 1) p) := fun p h => by
  rw [TT.step hk, hP, ← ht p h]
  constructor
  · exact .inl
  · rintro (q | ⟨rfl, q⟩)
    · exact q
    · exact absurd q e
/-- The two rows of marks, as far as they go. -/
structure MK (n : Nat) (c : Nat → IT) (L : Nat → Int) (tb pb i k : Nat) (f g : Nat → Bool) (W : World) : Prop where
  t : BA W tb n f
  p : BA W pb n g
  ht : ∀ p, p < n → (f p = true ↔ TT c L i k p)
  hp : ∀ p, p < n → (g p = true ↔ PT c i k p)
  ne : tb ≠ pb
/-- At the end both rows say the same, and what is part of nothing stands at 0. -/
theorem mk_end {n : Nat} {c : Nat → IT} {tb pb : Nat} {f g : Nat → Bool} {W : World} (h : MK n c (lvS c n) tb pb n 0 f g W) (hl : LvOk n c) {p : Nat} (hp : p < n) : g p = f p ∧ (g p = false → lvS c n p = 0) := by
  rcases lv_tight hl p with ⟨h0, h1⟩ | ⟨i, k, hi, hk, e1, e2⟩
  · have hg : g p = false := by
      cases hg : g p
      · rfl
      · obtain ⟨i', k', a1, a2, a3⟩ := (h.hp p hp).1 hg
        exact absurd a3 (h1 i' (by omega) k' a2)
    have hf : f p = false := by
      cases hf : f p
      · rfl
      · obtain ⟨i', k', a1, a2, a3, _⟩ := (h.ht p hp).1 hf
        exact absurd a3 (h1 i' (by omega) k' a2)
    exact ⟨by rw [hg, hf], fun _ => h0⟩
  · have hg : g p = true := (h.hp p hp).2 ⟨i, k, .inl hi, hk, e1⟩
    have hf : f p = true := (h.ht p hp).2 ⟨i, k, .inl hi, hk, e1, e2⟩
    exact ⟨by rw [hg, hf], fun e => by rw [hg] at e; cases e⟩
end Go.Proofs.Ytmbdeafpfdeigaa
