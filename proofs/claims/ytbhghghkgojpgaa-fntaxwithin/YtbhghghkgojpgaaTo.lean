/- What a bill is, and parts that grow: plain and small things for TaxOf. -/
import Derived.Test.YtbhghghkgojpgaaTr
import Derived.BigRegion
namespace Go.Proofs.Ytbhghghkgojpgaa
open Go Go.ChangeShapes Go.WideShapes Go.ChangeAt Go.RowKit
set_option linter.unusedVariables false
set_option linter.unusedSimpArgs false

def TaxP (n : Nat) (c : Nat → T5) (m : Nat) (cs : Nat → ByteArray) (f : Nat) (fs : Nat → ByteArray) (p d : Int) : Prop := TrP n c ∧ m ≤ 6 ∧ f ≤ 60 ∧ amt p = true ∧ UsP n c m cs d ∧ BiP (usR n c cs f fs d) m p
/-- What both sides leave. -/
def TaxS (n : Nat) (c : Nat → T5) (m : Nat) (cs : Nat → ByteArray) (f : Nat) (fs : Nat → ByteArray) (p d : Int) (w : World) (e : Ending) (w' : World) : Prop :=
  Below w.heap.size w w' ∧ ((TaxP n c m cs f fs p d ∧ ∃ pa pc, e = .returned (.tuple #[.agg #[.int .i64 (netV (usR n c cs f fs d) m p), .int .i64 (grV (usR n c cs f fs d) (netV (usR n c cs f fs d) m p) (wiV (usR n c cs f fs d) m p) m), .slice pa m pc], .bool true]) ∧ PRow w' pa m (ptV (usR n c cs f fs d) (netV (usR n c cs f fs d) m p) (wiV (usR n c cs f fs d) m p))) ∨ (¬ TaxP n c m cs f fs p d ∧ e = .returned (.tuple #[.agg #[.int .i64 0, .int .i64 0, .slice none 0 0], .bool false])))

theorem u_ok {n : Nat} {c : Nat → T5} {m : Nat} {cs : Nat → ByteArray} {f : Nat} {fs : Nat → ByteArray} {d : Int} (h : TrP n c) (hu : UsP n c m cs d) : UOk (usR n c cs f fs d) m := fun i hi => by
  have h1 := (hu i hi).1
  rcases ixR_spec n c (cs i) d with ⟨h2, _⟩ | ⟨x, h2, h3, _, _⟩
  · rw [h2] at h1; omega
  · have h4 := (h.2 x h3).1
    unfold rOk at h4
    simp only [Bool.and_eq_true, decide_eq_true_eq] at h4
    have k1 := inB_t h4.1
    have k2 := inB_t h4.2.2.2.2.2
    unfold usR
    simp only
    rw [h2, Int.toNat_natCast]
    refine ⟨?_, k1⟩
    split <;> omega
theorem amountS_any (x : Int) (w : World) : Calls Try.prog 47 #[.int .i64 x] w fun e w' => e = .returned (.bool (amt x)) ∧ w' = w := by
  go_enter Try.func47, Try.ntmps47
  go_wp2_with (go_at_call 56; refine (l1In_any _ _ _ _).mono ?_; rintro e w' ⟨rfl, rfl⟩)
  all_goals go_ret
  all_goals exact ⟨rfl, rfl⟩
theorem specRules_eq {v : Bool} (ad : Option Addr) (len cap : Nat) (c : Nat → T5) (w : World) (h : (len : Int) ≤ 1048576) (hs : ∀ j, (c j).code.size ≤ maxLen) (hr : TR w ad len c) (hv : trB len c = v) :
    Calls Try.prog 17 #[.slice ad len cap] w fun e w' => e = .returned (.bool v) ∧ Below w.heap.size w w' := by
  subst hv; exact specRules_any ad len cap c w h hs hr
theorem trB_iff {n : Nat} {c : Nat → T5} (h : trB n c = true) : TrP n c := by
  by_cases q : TrP n c
  · exact q
  · rw [trB_f q] at h; cases h
def fl4 (u : Nat → P4) : Nat → List Value
  | 0 => []
  | n + 1 => fl4 u n ++ [.string (u n).code, .int .i64 (u n).kind, .int .i64 (u n).base, .int .i64 (u n).tax]
theorem fl4_len (u : Nat → P4) : ∀ n, (fl4 u n).length = n * 4
  | 0 => rfl
  | n + 1 => by rw [fl4, List.length_append, fl4_len u n]; simp; omega
theorem fl4_get (u : Nat → P4) : ∀ n j, j < n → (fl4 u n)[j * 4]? = some (.string (u j).code) ∧ (fl4 u n)[j * 4 + 1]? = some (.int .i64 (u j).kind) ∧ (fl4 u n)[j * 4 + 2]? = some (.int .i64 (u j).base) ∧ (fl4 u n)[j * 4 + 3]? = some (.int .i64 (u j).tax)
  | 0, j, h => by omega
  | n + 1, j, h => by
    have hl := fl4_len u n
    rw [fl4]
    by_cases e : j = n
    · subst e
      refine ⟨?_, ?_, ?_, ?_⟩ <;> (rw [List.getElem?_append_right (by omega), hl]; simp)
    · obtain ⟨a, b, c, d⟩ := fl4_get u n j (by omega)
      refine ⟨?_, ?_, ?_, ?_⟩ <;> (rw [List.getElem?_append_left (by omega)]; assumption)
theorem row_PR {w : World} {base n : Nat} {ad : Option Addr} {cp : Nat} {u : Nat → P4} (h : w.ownsRow base 34 4 (.slice ad n cp) n (fl4 u n)) : PRow w ad n u := by
  by_cases h0 : n = 0
  · exact .inl h0
  rcases h.2 with ⟨_, e⟩ | ⟨g, cap, cur, e, hb, hg, _, _, _, ht⟩
  · omega
  · simp only [Value.slice.injEq] at e
    obtain ⟨rfl, _, _⟩ := e
    have hC : CB w g cur 34 := hg
    refine PRow.of_block hC n u fun j hj => ?_
    obtain ⟨a, b, c, d⟩ := fl4_get u n j hj
    rw [← ht] at a b c d
    rw [List.getElem?_take, if_pos (by omega)] at a b c d
    exact ⟨by simpa using a, by simpa using b, by simpa using c, by simpa using d⟩
set_option maxRecDepth 100000 in
theorem info34 : ∃ i, Try.prog.info? 34 = some i ∧ i.zero = some (.agg #[.string ByteArray.empty, .int .i64 0, .int .i64 0, .int .i64 0]) ∧ i.size = 4 ∧ i.bytes = 40 := by
  obtain ⟨i0, hi⟩ : ∃ i, Try.prog.info? 34 = some i := ⟨_, rfl⟩
  have hz0 : i0.zero = some (.agg #[.string ByteArray.empty, .int .i64 0, .int .i64 0, .int .i64 0]) := by
    have : (Try.prog.info? 34).bind (·.zero) = some (.agg #[.string ByteArray.empty, .int .i64 0, .int .i64 0, .int .i64 0]) := by kernel_rfl
    rw [hi] at this; exact this
  have hz1 : i0.size = 4 := by
    have : (Try.prog.info? 34).map (·.size) = some 4 := by kernel_rfl
    rw [hi] at this; simpa using this
  have hz2 : i0.bytes = 40 := by
    have : (Try.prog.info? 34).map (·.bytes) = some 40 := by kernel_rfl
    rw [hi] at this; simpa using this
  exact ⟨i0, hi, hz0, hz1, hz2⟩

/-- What stands while a part is in the making: its block, the bill's, the parts so far. -/
structure PQ (w5 : World) (pb : Nat) (nt g : Int) (pa : Option Addr) (x pc : Nat) (pt : Nat → P4) (q0 : ByteArray) (kd ba ta : Int) (W : World) : Prop where
  cp : CB W pb #[.string q0, .int .i64 kd, .int .i64 ba, .int .i64 ta] 34
  cb : CB W w5.heap.size #[.int .i64 nt, .int .i64 g, .slice pa x pc] 30
  own : W.ownsRow (w5.heap.size + 1) 34 4 (.slice pa x pc) x (fl4 pt x)
  bel : Below w5.heap.size w5 W
  lt : w5.heap.size < pb
  ne : ∀ q, (Value.slice pa x pc).ownBlock = some q → q ≠ pb
section
variable {w5 W : World} {pb : Nat} {nt g : Int} {pa : Option Addr} {x pc : Nat} {pt : Nat → P4} {q0 : ByteArray} {kd ba ta : Int}
theorem PQ.setP2 (h : PQ w5 pb nt g pa x pc pt q0 kd ba ta W) (v : Int) : PQ w5 pb nt g pa x pc pt q0 kd v ta (W.setCell ⟨pb, 2, none⟩ (.int .i64 v)) :=
  ⟨h.cp.set 2 _, h.cb.other _ (by have := h.lt; omega), arow_block h.own (fun q hq => Below.heap_setCell _ _ _ _ (by simpa using h.ne q hq)), h.bel.setCell (by show w5.heap.size ≤ pb; have := h.lt; omega) _, h.lt, h.ne⟩
theorem PQ.setP3 (h : PQ w5 pb nt g pa x pc pt q0 kd ba ta W) (v : Int) : PQ w5 pb nt g pa x pc pt q0 kd ba v (W.setCell ⟨pb, 3, none⟩ (.int .i64 v)) :=
  ⟨h.cp.set 3 _, h.cb.other _ (by have := h.lt; omega), arow_block h.own (fun q hq => Below.heap_setCell _ _ _ _ (by simpa using h.ne q hq)), h.bel.setCell (by show w5.heap.size ≤ pb; have := h.lt; omega) _, h.lt, h.ne⟩
theorem PQ.setB1 (h : PQ w5 pb nt g pa x pc pt q0 kd ba ta W) (v : Int) : PQ w5 pb nt v pa x pc pt q0 kd ba ta (W.setCell ⟨w5.heap.size, 1, none⟩ (.int .i64 v)) :=
  ⟨h.cp.other _ (by have := h.lt; omega), h.cb.set 1 _, arow_block h.own (fun q hq => Below.heap_setCell _ _ _ _ (by have := own_ge h.own q hq; simp; omega)), h.bel.setCell (Nat.le_refl _) _, h.lt, h.ne⟩
theorem PQ.dN (h : PQ w5 pb nt g pa x pc pt q0 kd ba ta W) (q : Nat) : PQ w5 pb nt g pa x pc pt q0 kd ba ta (W.drewN q) := ⟨h.cp, h.cb, arow_keep h.own (bdN (Below.refl _ _) _), bdN h.bel _, h.lt, h.ne⟩
theorem PQ.grown {w9 : World} {o : Obj} (h : PQ w5 pb nt g pa x pc pt q0 kd ba ta W) (hg : (W.alloc o).grownBy w9 (Value.slice pa x pc).ownBlock) : CB w9 w5.heap.size #[.int .i64 nt, .int .i64 g, .slice pa x pc] 30 ∧ Below w5.heap.size w5 w9 := by
  refine ⟨?_, bel_grown (h.bel.alloc h.bel.size o) (Nat.le_refl _) hg (fun r hr => by have := own_ge h.own r hr; omega)⟩
  have h1 := h.cb.alloc o
  unfold CB at h1 ⊢
  rw [hg.block _ (lt_of_block h1) (fun e => by have := own_ge h.own _ e.symm; omega)]; exact h1
end

end Go.Proofs.Ytbhghghkgojpgaa
