/- What stands while the model steps down. -/
import Derived.Test.YtjlniinahfgakaaHx
namespace Go.Proofs.Ytjlniinahfgakaa
open Go.ChangeShapes Go.WideShapes Go.ChangeAt Go.RowKit
set_option linter.unusedVariables false
set_option linter.unusedSimpArgs false

theorem IR.take {w : World} {ad : Option Addr} {len : Nat} {z : Nat → Int} (H : IR w ad len z) {k : Nat} (h : k ≤ len) : IR w ad k z := by
  rcases H with q | ⟨b, off, e, hb, hc⟩
  · exact .inl (by omega)
  · exact .inr ⟨b, off, e, hb, fun j hj => hc j (by omega)⟩
theorem NB.keep {w w' : World} {b n x : Nat} {o : Nat → Int} (H : NB w b n x o) (h : w'.heap[b]? = w.heap[b]?) : NB w' b n x o := by
  obtain ⟨cs, h1, h2⟩ := H; exact ⟨cs, h1.keep h, h2⟩
theorem below_app2 {w w3 : World} {a o : Obj} (hgrow : ((w.alloc a).alloc o).grownBy w3 (Value.ownBlock (.slice (some ⟨w.heap.size + 1, 0, none⟩) 0 0))) : Below (w.heap.size + 1) (w.alloc a) w3 := by
  have e : w.heap.size + 1 = (w.alloc a).heap.size := by simp
  rw [e] at hgrow ⊢
  exact below_app hgrow
/-- The costs, who gave, the empty row, and the rule at hand. -/
def SJ (w : World) (C n cx : Nat) (o : Nat → Int) (ga : Option Addr) (kk gc : Nat) (gv : Nat → Int) (R : Nat) (rv : Array Value) (wr : World) : Prop :=
  (NB wr C n cx o ∧ wr.ownsRow (w.heap.size + 1) 3 1 (.slice ga kk gc) kk (intL gv kk) ∧ (∀ g, (Value.slice ga kk gc).ownBlock = some g → g ≠ C ∧ g ≠ R) ∧ CB wr w.heap.size #[] 3 ∧ Below w.heap.size w wr) ∧ CB wr R rv 36
/-- The same, with no rule at hand. -/
def SI (w : World) (C n cx : Nat) (o : Nat → Int) (ga : Option Addr) (kk gc : Nat) (gv : Nat → Int) (wr : World) : Prop :=
  NB wr C n cx o ∧ wr.ownsRow (w.heap.size + 1) 3 1 (.slice ga kk gc) kk (intL gv kk) ∧ (∀ g, (Value.slice ga kk gc).ownBlock = some g → g ≠ C) ∧ CB wr w.heap.size #[] 3 ∧ Below w.heap.size w wr
section
variable {w wr wr' : World} {C n cx kk gc R : Nat} {o gv : Nat → Int} {ga : Option Addr} {rv : Array Value}
theorem SI.new (H : SI w C n cx o ga kk gc gv wr) (rv : Array Value) : SJ w C n cx o ga kk gc gv wr.heap.size rv (wr.alloc (.cells rv 36 (0, 0))) := by
  have k : Below wr.heap.size wr (wr.alloc (.cells rv 36 (0, 0))) := (Below.refl _ _).alloc (Nat.le_refl _) _
  exact ⟨⟨H.1.on k, row_below H.2.1 k, fun g hg => ⟨H.2.2.1 g hg, by have := (H.2.1.lt g hg).2; omega⟩, H.2.2.2.1.below k H.2.2.2.1.lt, bel_on H.2.2.2.2 k⟩, CB.new _ _⟩
theorem SJ.si (H : SJ w C n cx o ga kk gc gv R rv wr) : SI w C n cx o ga kk gc gv wr := ⟨H.1.1, H.1.2.1, fun g hg => (H.1.2.2.1 g hg).1, H.1.2.2.2.1, H.1.2.2.2.2⟩
theorem SJ.on (H : SJ w C n cx o ga kk gc gv R rv wr) (k : Below wr.heap.size wr wr') : SJ w C n cx o ga kk gc gv R rv wr' :=
  ⟨⟨H.1.1.on k, row_below H.1.2.1 k, H.1.2.2.1, H.1.2.2.2.1.below k H.1.2.2.2.1.lt, bel_on H.1.2.2.2.2 k⟩, H.2.below k H.2.lt⟩
theorem SJ.set (H : SJ w C n cx o ga kk gc gv R rv wr) (hC : w.heap.size < C) (hR : R ≠ C) {i : Nat} (hi : i < n) (y : Int) : SJ w C n cx (upd o i y) ga kk gc gv R rv (wr.setCell ⟨C, i, none⟩ (.int .i64 y)) :=
  ⟨⟨H.1.1.set hi y, row_block H.1.2.1 (fun g hg => heap_set (H.1.2.2.1 g hg).1), H.1.2.2.1, H.1.2.2.2.1.other _ (by omega), H.1.2.2.2.2.setCell (by show w.heap.size ≤ C; omega) _⟩, H.2.other _ hR⟩
theorem SJ.drew (H : SJ w C n cx o ga kk gc gv R rv wr) : SJ w C n cx o ga kk gc gv R rv wr.drew := H.on (Below.refl _ _).drew
theorem SJ.drewN (H : SJ w C n cx o ga kk gc gv R rv wr) (q : Nat) : SJ w C n cx o ga kk gc gv R rv (wr.drewN q) := H.on (belowN (Below.refl _ _) q)
theorem SJ.app {o' : Obj} {ga' : Option Addr} {kk' gc' : Nat} {gv' : Nat → Int} (H : SJ w C n cx o ga kk gc gv R rv wr) (hown : wr'.ownsRow (w.heap.size + 1) 3 1 (.slice ga' kk' gc') kk' (intL gv' kk')) (hg : (wr.alloc o').grownBy wr' (Value.slice ga kk gc).ownBlock) (hl : (Value.slice ga' kk' gc').ownBlock = (Value.slice ga kk gc).ownBlock ∨ (Value.slice ga' kk' gc').ownBlock = some (wr.alloc o').heap.size) : SJ w C n cx o ga' kk' gc' gv' R rv wr' := by
  have hCl := H.1.1.lt
  have hRl := H.2.lt
  have hSl := H.1.2.2.2.1.lt
  have old : ∀ y, y < wr.heap.size → (Value.slice ga kk gc).ownBlock ≠ some y → wr'.heap[y]? = wr.heap[y]? := fun y hy hne => (hg.block y (by simp; omega) (fun q => hne q.symm)).trans (alloc_old wr o' hy)
  have bl : Below w.heap.size w wr' := Below.grown (H.1.2.2.2.2.alloc H.1.2.2.2.2.size _) hg (by simp; have := H.1.2.2.2.2.size; omega) (fun j hj => by have := (H.1.2.1.lt _ hj).1; omega)
  refine ⟨⟨H.1.1.keep (old C hCl (fun q => (H.1.2.2.1 C q).1 rfl)), hown, fun g h => ?_, H.1.2.2.2.1.keep (old _ hSl (fun q => by have := (H.1.2.1.lt _ q).1; omega)), bl⟩, H.2.keep (old R hRl (fun q => (H.1.2.2.1 R q).2 rfl))⟩
  rcases hl with q | q
  · exact H.1.2.2.1 g (q ▸ h)
  · rw [q] at h
    simp at h
    omega
theorem SJ.none {m : Nat} {c : Nat → Int} {rs : Nat → R3} (h : SJ w C n cx o ga kk gc gv R rv wr) {n' : Nat} (hF : sdB n' c m rs = false) : SdP n' c m rs w (.returned (.tuple #[.slice (some ⟨w.heap.size, 0, Option.none⟩) 0 0, .bool false])) wr := sdP_none2 hF h.1.2.2.2.1 h.1.2.2.2.2
end
end Go.Proofs.Ytjlniinahfgakaa
