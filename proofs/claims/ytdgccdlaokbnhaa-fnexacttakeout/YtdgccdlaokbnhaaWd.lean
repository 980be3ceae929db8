/- What stands by while the laws over a worth are walked. -/
import Derived.Test.YtdgccdlaokbnhaaWc
namespace Go.Proofs.Ytdgccdlaokbnhaa
open Go Go.ChangeShapes Go.WideShapes Go.ChangeAt Go.RowKit
set_option linter.unusedVariables false
set_option linter.unusedSimpArgs false


structure WB (w : World) (m p : Int) (ad : Option Addr) (n cap : Nat) (off : Int) (c : Nat → LA2) (W : World) : Prop where
  bl : Below w.heap.size w W
  bx : CB W w.heap.size #[.int .i64 m, .int .i64 p, .slice ad n cap, .int .i64 off] 48
  r : LAr W ad n c
structure WX (w : World) (m p : Int) (ad : Option Addr) (n cap : Nat) (off : Int) (c : Nat → LA2) (xb yb : Nat) (W : World) : Prop where
  u : WB w m p ad n cap off c W
  x : CB W xb #[.int .i64 m, .int .i64 p, .slice (some ⟨yb, 0, none⟩) n n, .int .i64 off] 26
  xr : LAr W (some ⟨yb, 0, none⟩) n c
section
variable {w W W' : World} {m p off : Int} {ad : Option Addr} {n cap xb yb : Nat} {c : Nat → LA2}
theorem WB.below (h : WB w m p ad n cap off c W) (b : Below W.heap.size W W') : WB w m p ad n cap off c W' := ⟨bel_on h.bl b, h.bx.below b h.bx.lt, h.r.below b⟩
theorem WB.start (hr : LAr w ad n c) : WB w m p ad n cap off c (w.alloc (.cells #[.int .i64 m, .int .i64 p, .slice ad n cap, .int .i64 off] 48)) := ⟨(Below.refl _ _).alloc (Nat.le_refl _) _, CB.new _ _, hr.alloc _⟩
theorem WB.alloc (h : WB w m p ad n cap off c W) (o : Obj) : WB w m p ad n cap off c (W.alloc o) := h.below ((Below.refl _ _).alloc (Nat.le_refl _) o)
theorem WB.cells (h : WB w m p ad n cap off c W) : W.cell? ⟨w.heap.size, 0, none⟩ = some (.int .i64 m) ∧ W.cell? ⟨w.heap.size, 1, none⟩ = some (.int .i64 p) ∧ W.cell? ⟨w.heap.size, 2, none⟩ = some (.slice ad n cap) ∧ W.cell? ⟨w.heap.size, 3, none⟩ = some (.int .i64 off) := ⟨h.bx.cell 0, h.bx.cell 1, h.bx.cell 2, h.bx.cell 3⟩
theorem WX.below (h : WX w m p ad n cap off c xb yb W) (b : Below W.heap.size W W') : WX w m p ad n cap off c xb yb W' := ⟨h.u.below b, h.x.below b h.x.lt, h.xr.below b⟩
theorem WX.cells (h : WX w m p ad n cap off c xb yb W) : W.cell? ⟨xb, 0, none⟩ = some (.int .i64 m) ∧ W.cell? ⟨xb, 1, none⟩ = some (.int .i64 p) ∧ W.cell? ⟨xb, 2, none⟩ = some (.slice (some ⟨yb, 0, none⟩) n n) ∧ W.cell? ⟨xb, 3, none⟩ = some (.int .i64 off) := ⟨h.x.cell 0, h.x.cell 1, h.x.cell 2, h.x.cell 3⟩
end
theorem slice_of {H : Type} {enc : TypeId × Value → H} {P : Program} {w : World} {sp : Nat → Bool} {held : Bool} {t e : TypeId} {fuel : Nat} {v : Value} {x : DataW H × List MemPlace}
    (ht : P.underlying t = some (.slice e)) (h : DataW.trod enc P w 0 sp held fuel t [v] = some x) : ∃ ad len cap, v = .slice ad len cap ∧ DataW.Trod enc P w 0 sp held t (.slice ad len cap) x.1 x.2 := by
  rcases Go.Deep.open_slice ht h with ⟨hcs, _⟩ | ⟨a, l, c, m, k, D, Pl, hcs, _⟩
  · have hv : v = .slice none 0 0 := by simpa using hcs
    subst hv
    exact ⟨none, 0, 0, rfl, fuel, by simpa [Value.cells] using h⟩
  · have hv : v = .slice (some a) l c := by simpa using hcs
    subst hv
    exact ⟨some a, l, c, rfl, fuel, by simpa [Value.cells] using h⟩

end Go.Proofs.Ytdgccdlaokbnhaa
