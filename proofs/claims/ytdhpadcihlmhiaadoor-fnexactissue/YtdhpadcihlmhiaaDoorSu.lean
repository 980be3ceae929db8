/- What stands by while a law over registers is walked. -/
import Derived.Test.YtdhpadcihlmhiaaDoorSs
namespace Go.Proofs.YtdhpadcihlmhiaaDoor
open Go.ChangeShapes Go.WideShapes Go.ChangeAt Go.RowKit
set_option linter.unusedVariables false
set_option linter.unusedSimpArgs false

/-- The register that came in, in its box. -/
structure LA (w W : World) (ad : Option Addr) (len cap : Nat) (ap : Option Addr) (np pcap : Nat) : Prop where
  box : CB W w.heap.size #[.slice ad len cap, .slice ap np pcap] 50
  bel : Below w.heap.size w W
/-- An own register: its box q, its rows from block l on, below the box. -/
structure LO (W : World) (q l : Nat) (a2 a3 : Option Addr) (n1 n2 c2 c3 : Nat) (c : Nat → S2) (p : Nat → P4) : Prop where
  box : CB W q #[.slice a2 n1 c2, .slice a3 n2 c3] 27
  o2 : OwnS2 W l a2 n1 c
  o3 : OwnP4 W l a3 n2 p
  u2 : ∀ g, 0 < n1 → a2 = some ⟨g, 0, none⟩ → g < q
  u3 : ∀ g, 0 < n2 → a3 = some ⟨g, 0, none⟩ → g < q
  lq : l ≤ q
section
variable {w W W' : World} {ad ap a2 a3 : Option Addr} {len cap np pcap q l n1 n2 c2 c3 : Nat} {c : Nat → S2} {p : Nat → P4}
theorem LA.below (h : LA w W ad len cap ap np pcap) (b : Below W.heap.size W W') : LA w W' ad len cap ap np pcap := ⟨h.box.below b h.box.lt, bel_on h.bel b⟩
theorem LA.k0 (h : LA w W ad len cap ap np pcap) : W.cell? ⟨w.heap.size, 0, none⟩ = some (.slice ad len cap) := (h.box.cell 0).trans rfl
theorem LA.k1 (h : LA w W ad len cap ap np pcap) : W.cell? ⟨w.heap.size, 1, none⟩ = some (.slice ap np pcap) := (h.box.cell 1).trans rfl
theorem LO.k0 (h : LO W q l a2 a3 n1 n2 c2 c3 c p) : W.cell? ⟨q, 0, none⟩ = some (.slice a2 n1 c2) := (h.box.cell 0).trans rfl
theorem LO.k1 (h : LO W q l a2 a3 n1 n2 c2 c3 c p) : W.cell? ⟨q, 1, none⟩ = some (.slice a3 n2 c3) := (h.box.cell 1).trans rfl
theorem LO.lt (h : LO W q l a2 a3 n1 n2 c2 c3 c p) : q < W.heap.size := h.box.lt
theorem LO.below (h : LO W q l a2 a3 n1 n2 c2 c3 c p) (b : Below W.heap.size W W') : LO W' q l a2 a3 n1 n2 c2 c3 c p := ⟨h.box.below b h.box.lt, h.o2.below b, h.o3.below b, h.u2, h.u3, h.lq⟩
theorem LO.keep (h : LO W q l a2 a3 n1 n2 c2 c3 c p) (hk : ∀ y, l ≤ y → y ≤ q → W'.heap[y]? = W.heap[y]?) : LO W' q l a2 a3 n1 n2 c2 c3 c p :=
  ⟨h.box.block (hk q h.lq (Nat.le_refl _)), h.o2.keepC (fun g cs q1 e hl _ => hk g hl (Nat.le_of_lt (h.u2 g q1 e))), h.o3.keepC (fun g cs q1 e hl _ => hk g hl (Nat.le_of_lt (h.u3 g q1 e))), h.u2, h.u3, h.lq⟩
theorem LA.keep (h : LA w W ad len cap ap np pcap) (hk : W'.heap[w.heap.size]? = W.heap[w.heap.size]?) (b : Below w.heap.size W W') : LA w W' ad len cap ap np pcap := ⟨h.box.block hk, h.bel.trans b⟩
/-- A register that a call has told, put into a box. -/
theorem LO.new (h2 : OwnS2 W l a2 n1 c) (h3 : OwnP4 W l a3 n2 p) (hl : l ≤ W.heap.size) : LO (W.alloc (.cells #[.slice a2 n1 c2, .slice a3 n2 c3] 27 (0, 0))) W.heap.size l a2 a3 n1 n2 c2 c3 c p := by
  have b : Below W.heap.size W (W.alloc (.cells #[.slice a2 n1 c2, .slice a3 n2 c3] 27 (0, 0))) := (Below.refl _ _).alloc (Nat.le_refl _) _
  refine ⟨CB.new _ _, h2.below b, h3.below b, fun g q1 e => ?_, fun g q1 e => ?_, hl⟩
  · obtain ⟨g', cs, e', _, hc, _⟩ := h2.blk q1
    rw [e'] at e
    simp only [Option.some.injEq, Addr.mk.injEq, and_true] at e
    rw [← e]; exact hc.lt
  · obtain ⟨g', cs, e', _, hc, _⟩ := h3.blk q1
    rw [e'] at e
    simp only [Option.some.injEq, Addr.mk.injEq, and_true] at e
    rw [← e]; exact hc.lt
/-- What marking it leaves: all but its rows. -/
theorem LO.mark_keep (h : LO W q l a2 a3 n1 n2 c2 c3 c p) (hk : ∀ y, y < W.heap.size → (0 < n1 → a2 ≠ some ⟨y, 0, none⟩) → (0 < n2 → a3 ≠ some ⟨y, 0, none⟩) → W'.heap[y]? = W.heap[y]?) : ∀ y, y < W.heap.size → y < l ∨ q ≤ y → W'.heap[y]? = W.heap[y]? := fun y hy ho => by
  refine hk y hy (fun q1 e => ?_) (fun q1 e => ?_)
  · obtain ⟨g, cs, e', hl, _⟩ := h.o2.blk q1
    have := h.u2 y q1 e
    rw [e'] at e
    simp only [Option.some.injEq, Addr.mk.injEq, and_true] at e
    omega
  · obtain ⟨g, cs, e', hl, _⟩ := h.o3.blk q1
    have := h.u3 y q1 e
    rw [e'] at e
    simp only [Option.some.injEq, Addr.mk.injEq, and_true] at e
    omega
theorem LO.marked {c' : Nat → S2} {p' : Nat → P4} (h : LO W q l a2 a3 n1 n2 c2 c3 c p) (hk : ∀ y, y < W.heap.size → y < l ∨ q ≤ y → W'.heap[y]? = W.heap[y]?) (h2 : OwnS2 W' l a2 n1 c') (h3 : OwnP4 W' l a3 n2 p') : LO W' q l a2 a3 n1 n2 c2 c3 c' p' :=
  ⟨h.box.block (hk q h.box.lt (.inr (Nat.le_refl _))), h2, h3, h.u2, h.u3, h.lq⟩
theorem RegAt.own {bs bp : Nat} (h : RegAt W bs bp len np c p) {lo : Nat} (hl : lo ≤ bs) : OwnS2 W lo (some ⟨bs, 0, none⟩) len c ∧ OwnP4 W lo (some ⟨bp, 0, none⟩) np p := by
  obtain ⟨cs, h1, h2⟩ := h.sc
  obtain ⟨ds, g1, g2⟩ := h.pc
  refine ⟨.inr ⟨bs, cs, rfl, hl, h1, by omega, fun j hj => ?_⟩, .inr ⟨bp, ds, rfl, by have := h.lt; omega, g1, by omega, fun j hj => ?_⟩⟩
  · have hA := h.sr.cell hj
    unfold AtS2 at hA
    rw [Nat.zero_add, h1.cell, h1.cell] at hA
    exact hA
  · have hA := h.pr.cell hj
    unfold AtP4 at hA
    rw [Nat.zero_add, g1.cell, g1.cell, g1.cell, g1.cell] at hA
    exact hA
end
end Go.Proofs.YtdhpadcihlmhiaaDoor
