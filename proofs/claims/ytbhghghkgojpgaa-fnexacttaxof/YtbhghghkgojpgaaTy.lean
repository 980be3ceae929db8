/- What stands by in the law of TaxOf. -/
import Derived.Test.YtbhghghkgojpgaaTx
namespace Go.Proofs.Ytbhghghkgojpgaa
open Go Go.ChangeShapes Go.WideShapes Go.ChangeAt Go.RowKit
set_option linter.unusedVariables false
set_option linter.unusedSimpArgs false

theorem toT5S_ex (ad : Option Addr) (len cap : Nat) (c : Nat → T5) (w : World) (h : (len : Int) ≤ 1048576) (hr : TR w ad len c) :
    Calls Try.prog 18 #[.slice ad len cap] w fun e w' => ∃ b cs, e = .returned (.slice (some ⟨b, 0, none⟩) len len) ∧ w.heap.size ≤ b ∧ TR w' (some ⟨b, 0, none⟩) len c ∧ CB w' b cs 79 ∧ cs.size = len * 5 ∧ Below w.heap.size w w' := by
  refine (toT5S_any ad len cap c w h hr).mono ?_
  rintro e w' ⟨rfl, ⟨h1, cs, h2, h3⟩, b⟩
  exact ⟨_, cs, rfl, Nat.le_refl _, h1, h2, h3, b⟩
theorem toStr_ex (ad : Option Addr) (len cap : Nat) (z : Nat → ByteArray) (w : World) (h : (len : Int) ≤ 1048576) (hr : STR w ad len z) :
    Calls Try.prog 22 #[.slice ad len cap] w fun e w' => ∃ b cs, e = .returned (.slice (some ⟨b, 0, none⟩) len len) ∧ w.heap.size ≤ b ∧ STR w' (some ⟨b, 0, none⟩) len z ∧ CB w' b cs 9 ∧ cs.size = len ∧ Below w.heap.size w w' := by
  refine (toStr_any ad len cap z w h hr).mono ?_
  rintro e w' ⟨rfl, ⟨h1, cs, h2, h3⟩, b⟩
  exact ⟨_, cs, rfl, Nat.le_refl _, h1, h2, h3, b⟩

/-- What the model told, and the program: the bills' blocks and the parts. -/
structure SG (V W : World) (gb base : Nat) (NT GR : Int) (ga : Option Addr) (L : Nat) (PT : Nat → P4) : Prop where
  v : Below V.heap.size V W
  g : CB W gb #[.int .i64 NT, .int .i64 GR, .slice ga L L] 30
  gx : GA W base ga L PT
  vb : V.heap.size ≤ base
  gl : base ≤ gb
  ne : ∀ pb, ga = some ⟨pb, 0, none⟩ → gb ≠ pb
section
variable {V W W' : World} {gb base : Nat} {NT GR : Int} {ga : Option Addr} {L : Nat} {PT : Nat → P4}
theorem SG.below (h : SG V W gb base NT GR ga L PT) (b : Below W.heap.size W W') : SG V W' gb base NT GR ga L PT := ⟨bel_on h.v b, h.g.below b h.g.lt, h.gx.below b, h.vb, h.gl, h.ne⟩
theorem SG.keep {q : Nat} (h : SG V W gb base NT GR ga L PT) (hk : ∀ y, y < W.heap.size → y ≠ q → W'.heap[y]? = W.heap[y]?) (b : Below q W W') (h1 : V.heap.size ≤ q) (h2 : q < base) : SG V W' gb base NT GR ga L PT := by
  refine ⟨h.v.trans (b.mono h1), ?_, h.gx.keep (fun y hy hb => hk y hy (by omega)), h.vb, h.gl, h.ne⟩
  have hg := h.g
  have := hk gb hg.lt (by have := h.gl; omega)
  unfold CB at hg ⊢
  rw [this]; exact hg
end
/-- The same, once the parts are marked. -/
structure SM (V W : World) (gb : Nat) (NT GR : Int) (ga : Option Addr) (L : Nat) : Prop where
  v : Below V.heap.size V W
  g : CB W gb #[.int .i64 NT, .int .i64 GR, .slice ga L L] 30
  pm : PRow W ga L (mkP4M 1)
section
variable {V W W' : World} {gb base : Nat} {NT GR : Int} {ga : Option Addr} {L : Nat} {PT : Nat → P4}
theorem SM.below (h : SM V W gb NT GR ga L) (b : Below W.heap.size W W') : SM V W' gb NT GR ga L := ⟨bel_on h.v b, h.g.below b h.g.lt, h.pm.below b⟩
theorem SG.mark (h : SG V W gb base NT GR ga L PT) (hp : PRow W' ga L (mkP4M 1)) (hk : ∀ y, y < W.heap.size → (∀ pb, ga = some ⟨pb, 0, none⟩ → y ≠ pb) → W'.heap[y]? = W.heap[y]?) (b : Below base W W') : SM V W' gb NT GR ga L := by
  refine ⟨h.v.trans (b.mono h.vb), ?_, hp⟩
  have hg := h.g
  have := hk gb hg.lt h.ne
  unfold CB at hg ⊢
  rw [this]; exact hg
end
/-- The arguments' copies. -/
structure SX (W : World) (B0 B1 B2 n m f : Nat) (c : Nat → T5) (cs fs : Nat → ByteArray) : Prop where
  x0 : TR W (some ⟨B0, 0, none⟩) n c
  k0 : ∃ a, CB W B0 a 79 ∧ a.size = n * 5
  x1 : STR W (some ⟨B1, 0, none⟩) m cs
  k1 : ∃ a, CB W B1 a 9 ∧ a.size = m
  x2 : STR W (some ⟨B2, 0, none⟩) f fs
  k2 : ∃ a, CB W B2 a 9 ∧ a.size = f
theorem SX.below {W W' : World} {B0 B1 B2 n m f : Nat} {c : Nat → T5} {cs fs : Nat → ByteArray} (h : SX W B0 B1 B2 n m f c cs fs) (b : Below W.heap.size W W') : SX W' B0 B1 B2 n m f c cs fs := by
  obtain ⟨a0, h0, s0⟩ := h.k0
  obtain ⟨a1, h1, s1⟩ := h.k1
  obtain ⟨a2, h2, s2⟩ := h.k2
  exact ⟨h.x0.below b, ⟨a0, h0.below b h0.lt, s0⟩, h.x1.below b, ⟨a1, h1.below b h1.lt, s1⟩, h.x2.below b, ⟨a2, h2.below b h2.lt, s2⟩⟩
theorem CB.kept {w w' : World} {b q : Nat} {cs : Array Value} {t : TypeId} (H : CB w b cs t) (hk : ∀ y, y < w.heap.size → y ≠ q → w'.heap[y]? = w.heap[y]?) (h : b ≠ q) : CB w' b cs t := by
  have := hk b H.lt h
  unfold CB at H ⊢
  rw [this]; exact H
end Go.Proofs.Ytbhghghkgojpgaa
