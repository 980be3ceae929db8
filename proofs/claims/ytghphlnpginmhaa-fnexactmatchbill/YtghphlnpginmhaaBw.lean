/- What stands by while FnExactMatchBill is walked. -/
import Derived.Test.YtghphlnpginmhaaBi
import Derived.Test.YtghphlnpginmhaaRw
import Derived.Test.YtghphlnpginmhaaBm
import Derived.Test.YtghphlnpginmhaaMq
namespace Go.Proofs.Ytghphlnpginmhaa
open Go.ChangeShapes Go.WideShapes Go.ChangeAt Go.RowKit
set_option linter.unusedVariables false

def BNA (w : World) (b n : Nat) (c : Nat → BN3) : Prop := BNr w (some ⟨b, 0, none⟩) n c ∧ ∃ cs, CB w b cs 122 ∧ cs.size = n * 3
section
variable {w w' : World} {b n : Nat} {r : Nat → BN3}
theorem BNA.lt (H : BNA w b n r) : b < w.heap.size := by obtain ⟨_, cs, h, _⟩ := H; exact h.lt
theorem BNA.keep (H : BNA w b n r) (h : w'.heap[b]? = w.heap[b]?) (hs : w.heap.size ≤ w'.heap.size) : BNA w' b n r := by
  obtain ⟨q1, cs, q2, q3⟩ := H
  refine ⟨?_, cs, q2.keep h, q3⟩
  rcases q1 with q | ⟨kb, off, e, hk, hc⟩
  · exact .inl q
  · cases e
    exact .inr ⟨_, _, rfl, Nat.lt_of_lt_of_le hk hs, fun j hj => (hc j hj).block h⟩
theorem BNA.below (H : BNA w b n r) (k : Below w.heap.size w w') : BNA w' b n r := H.keep (k.block b H.lt) k.size
end
/-- A row of match lines in a block of its own between lo and hi. -/
def OwnM (w : World) (lo hi : Nat) (ad : Option Addr) (n : Nat) (c : Nat → ML4) : Prop := n = 0 ∨ ∃ g cs, ad = some ⟨g, 0, none⟩ ∧ lo ≤ g ∧ g < hi ∧ CB w g cs 47 ∧ n * 4 ≤ cs.size ∧ ∀ j, j < n → cs[j * 4]? = some (.int .i64 (c j).got) ∧ cs[j * 4 + 1]? = some (.int .i64 (c j).billed) ∧ cs[j * 4 + 2]? = some (.int .i64 (c j).due) ∧ cs[j * 4 + 3]? = some (.int .i64 (c j).state)
section
variable {w w' : World} {lo hi : Nat} {ad : Option Addr} {n : Nat} {c : Nat → ML4}
theorem ownM_of (h : OwnML4 w lo ad n c) : OwnM w lo w.heap.size ad n c := by
  rcases h with h | ⟨g, cs, h1, h2, h3, h4⟩
  · exact .inl h
  · exact .inr ⟨g, cs, h1, h2, h3.lt, h3, h4⟩
theorem OwnM.lower (h : OwnM w lo hi ad n c) {l : Nat} (hl : l ≤ lo) : OwnM w l hi ad n c := by
  rcases h with h | ⟨g, cs, h1, h2, h3⟩
  · exact .inl h
  · exact .inr ⟨g, cs, h1, by omega, h3⟩
theorem OwnM.keep (h : OwnM w lo hi ad n c) (hk : ∀ g, lo ≤ g → g < hi → g < w.heap.size → w'.heap[g]? = w.heap[g]?) : OwnM w' lo hi ad n c := by
  rcases h with h | ⟨g, cs, h1, h2, h3, h4, h5⟩
  · exact .inl h
  · exact .inr ⟨g, cs, h1, h2, h3, h4.keep (hk g h2 h3 h4.lt), h5⟩
theorem OwnM.below (h : OwnM w lo hi ad n c) (b : Below w.heap.size w w') : OwnM w' lo hi ad n c := h.keep (fun g _ _ hg => b.block g hg)
theorem OwnM.row (h : OwnM w lo hi ad n c) : MLr w ad n c := by
  rcases h with h | ⟨g, cs, rfl, h2, h3, h4, h5, h6⟩
  · exact .inl h
  · exact MLr.of_block h4 n c h6
end
theorem markM (lo hi : Nat) (ad : Option Addr) (n cap : Nat) (c : Nat → ML4) (w : World) (h : (n : Int) ≤ 1048576) (H : OwnM w lo hi ad n c) :
    Calls Try.prog 54 #[.slice ad n cap, .int .i64 1] w fun e w' => e = .returned (.int .i64 (1 + 4 * (n : Int))) ∧ MLr w' ad n (mkML4M 1) ∧ (∀ y, y < w.heap.size → (y < lo ∨ hi ≤ y) → w'.heap[y]? = w.heap[y]?) ∧ Below lo w w' := by
  rcases H with rfl | ⟨g, cs, rfl, h2, h3, h4, h5, h6⟩
  · refine (markML4S_no ad cap 1 w).mono ?_
    rintro e w' ⟨rfl, rfl⟩
    exact ⟨by simp, .inl rfl, fun _ _ _ => rfl, Below.refl _ _⟩
  · refine (markML4S_is g n cap 1 cs w h (by omega) (by omega) h4 h5).mono ?_
    rintro e w' ⟨rfl, hr, _, kk, b⟩
    exact ⟨rfl, hr, fun y hy hq => kk y hy (by omega), b.mono h2⟩
structure MU (w : World) (M : Nat) (F : Nat → ML4) (ao ag : Option Addr) (xb n : Nat) (c : Nat → OL3) (yb m : Nat) (r : Nat → RC2) (zb l : Nat) (b : Nat → BN3) (tol : Array Value) (hi he : Nat) (W : World) : Prop where
  bl : Below w.heap.size w W
  t : CB W w.heap.size tol 75
  o : OwnM W (w.heap.size + 1) xb ao M F
  x : OLA W xb n c
  y : RCA W yb m r
  z : BNA W zb l b
  g : OwnM W hi he ag M F
  l1 : w.heap.size < xb
  l2 : xb < yb
  l3 : yb < zb
  l4 : zb < hi
structure MV (w : World) (M : Nat) (F : Nat → ML4) (ao ag : Option Addr) (xb yb m : Nat) (r : Nat → RC2) (zb l : Nat) (b : Nat → BN3) (tol : Array Value) (hi he : Nat) (W : World) : Prop where
  bl : Below w.heap.size w W
  t : CB W w.heap.size tol 75
  o : OwnM W (w.heap.size + 1) xb ao M F
  y : RCA W yb m r
  z : BNA W zb l b
  g : OwnM W hi he ag M F
  l1 : w.heap.size < xb
  l2 : xb < yb
  l3 : yb < zb
  l4 : zb < hi
structure MX (w : World) (M : Nat) (F : Nat → ML4) (ao ag : Option Addr) (xb yb zb l : Nat) (b : Nat → BN3) (tol : Array Value) (hi he : Nat) (W : World) : Prop where
  bl : Below w.heap.size w W
  t : CB W w.heap.size tol 75
  o : OwnM W (w.heap.size + 1) xb ao M F
  z : BNA W zb l b
  g : OwnM W hi he ag M F
  l1 : w.heap.size < xb
  l2 : xb < yb
  l3 : yb < zb
  l4 : zb < hi
structure MW (w : World) (M : Nat) (F : Nat → ML4) (ao ag : Option Addr) (xb : Nat) (tol : Array Value) (hi he : Nat) (W : World) : Prop where
  bl : Below w.heap.size w W
  t : CB W w.heap.size tol 75
  o : OwnM W (w.heap.size + 1) xb ao M F
  g : OwnM W hi he ag M F
  l1 : w.heap.size < xb
  l4 : xb < hi
structure MZ (w : World) (M : Nat) (F : Nat → ML4) (ao ag : Option Addr) (xb : Nat) (tol : Array Value) (W : World) : Prop where
  bl : Below w.heap.size w W
  t : CB W w.heap.size tol 75
  o : OwnM W (w.heap.size + 1) xb ao M F
  h : MLr W ag M (mkML4M 1)
section
variable {w W W' : World} {M : Nat} {F : Nat → ML4} {ao ag : Option Addr} {xb n : Nat} {c : Nat → OL3} {yb m : Nat} {r : Nat → RC2} {zb l : Nat} {b : Nat → BN3} {tol : Array Value} {hi he : Nat}
theorem MU.below (h : MU w M F ao ag xb n c yb m r zb l b tol hi he W) (k : Below W.heap.size W W') : MU w M F ao ag xb n c yb m r zb l b tol hi he W' := ⟨bel_on h.bl k, h.t.below k h.t.lt, h.o.below k, h.x.below k, h.y.below k, h.z.below k, h.g.below k, h.l1, h.l2, h.l3, h.l4⟩
theorem MW.below (h : MW w M F ao ag xb tol hi he W) (k : Below W.heap.size W W') : MW w M F ao ag xb tol hi he W' := ⟨bel_on h.bl k, h.t.below k h.t.lt, h.o.below k, h.g.below k, h.l1, h.l4⟩
theorem MZ.below (h : MZ w M F ao ag xb tol W) (k : Below W.heap.size W W') : MZ w M F ao ag xb tol W' := ⟨bel_on h.bl k, h.t.below k h.t.lt, h.o.below k, h.h.below k⟩
theorem MU.marked (h : MU w M F ao ag xb n c yb m r zb l b tol hi he W) (kk : ∀ y, y < W.heap.size → y ≠ xb → W'.heap[y]? = W.heap[y]?) (k : Below xb W W') : MV w M F ao ag xb yb m r zb l b tol hi he W' := by
  have l1 := h.l1; have l2 := h.l2; have l3 := h.l3; have l4 := h.l4
  exact ⟨h.bl.trans (k.mono (by omega)), h.t.keep (kk _ h.t.lt (by omega)), h.o.keep (fun g h1 h2 h3 => kk g h3 (by omega)), h.y.keep (kk _ h.y.lt (by omega)) k.size, h.z.keep (kk _ h.z.lt (by omega)) k.size, h.g.keep (fun g h1 h2 h3 => kk g h3 (by omega)), h.l1, h.l2, h.l3, h.l4⟩
theorem MV.marked (h : MV w M F ao ag xb yb m r zb l b tol hi he W) (kk : ∀ y, y < W.heap.size → y ≠ yb → W'.heap[y]? = W.heap[y]?) (k : Below yb W W') : MX w M F ao ag xb yb zb l b tol hi he W' := by
  have l1 := h.l1; have l2 := h.l2; have l3 := h.l3; have l4 := h.l4
  exact ⟨h.bl.trans (k.mono (by omega)), h.t.keep (kk _ h.t.lt (by omega)), h.o.keep (fun g h1 h2 h3 => kk g h3 (by omega)), h.z.keep (kk _ h.z.lt (by omega)) k.size, h.g.keep (fun g h1 h2 h3 => kk g h3 (by omega)), h.l1, h.l2, h.l3, h.l4⟩
theorem MX.marked (h : MX w M F ao ag xb yb zb l b tol hi he W) (kk : ∀ y, y < W.heap.size → y ≠ zb → W'.heap[y]? = W.heap[y]?) (k : Below zb W W') : MW w M F ao ag xb tol hi he W' := by
  have l1 := h.l1; have l2 := h.l2; have l3 := h.l3; have l4 := h.l4
  exact ⟨h.bl.trans (k.mono (by omega)), h.t.keep (kk _ h.t.lt (by omega)), h.o.keep (fun g h1 h2 h3 => kk g h3 (by omega)), h.g.keep (fun g h1 h2 h3 => kk g h3 (by omega)), h.l1, by omega⟩
theorem MW.marked (h : MW w M F ao ag xb tol hi he W) (gb : MLr W' ag M (mkML4M 1)) (kk : ∀ y, y < W.heap.size → (y < hi ∨ he ≤ y) → W'.heap[y]? = W.heap[y]?) (k : Below hi W W') : MZ w M F ao ag xb tol W' := by
  have l1 := h.l1; have l4 := h.l4
  exact ⟨h.bl.trans (k.mono (by omega)), h.t.keep (kk _ h.t.lt (by omega)), h.o.keep (fun g h1 h2 h3 => kk g h3 (by omega)), gb⟩
end
end Go.Proofs.Ytghphlnpginmhaa
