/- Small draws besides: a day that is spoilt now and then. -/
import Derived.Test.YtmbdeafpfdeigaaXe
namespace Go.Proofs.Ytmbdeafpfdeigaa
open Go Go.ChangeShapes Go.WideShapes Go.ChangeAt Go.RowKit
set_option linter.unusedVariables false
set_option linter.unusedSimpArgs false
/-- A block that was just made has its cells. -/
theorem ocells_at {w : World} {b : Nat} {l : List Value} {t : TypeId} (hb : w.heap.size = b) : ∀ j u, l[j]? = some u → (w.alloc (.cells l.toArray t (0, 0))).cell? ((⟨b, 0, none⟩ : Addr).add j) = some u := by
  intro j u hj
  have h := (CB.newAt hb l.toArray t).cell j
  have e : (⟨b, 0, none⟩ : Addr).add j = ⟨b, j, none⟩ := by
    simp only [Addr.add]; by_cases q : j = 0 <;> simp [q]
  rw [e, h]; simpa using hj
theorem nat_of {x : Int} {n : Nat} (h0 : 0 ≤ x) (h1 : x < (n : Int)) : ∃ j : Nat, x = (j : Int) ∧ j < n := ⟨x.toNat, by omega, by omega⟩
theorem own_base {w : World} {base : Nat} {e : TypeId} {size : Nat} {v : Value} {n : Nat} {xs : List Value} (h : w.ownsRow base e size v n xs) {g : Nat} (hv : v.ownBlock = some g) : base ≤ w.heap.size := by have := h.lt g hv; omega
theorem size_any (ad : Option Addr) (len cap : Nat) (q : Int) (w : World) (hl : (len : Int) ≤ 1048576) (hq : 2 ≤ q) : Calls Try.prog 68 #[.slice ad len cap, .int .i64 q] w fun e w' => ∃ x : Int, e = .returned (.int .i64 x) ∧ 2 ≤ x ∧ x ≤ q ∧ w' = w := by
  by_cases h : q < 2 + (len : Int) / 20
  · go_enter Try.func68, Try.ntmps68
    go_wp2
    go_returns
    exact ⟨q, rfl, hq, Int.le_refl _, rfl⟩
  · go_enter Try.func68, Try.ntmps68
    go_wp2
    go_returns
    exact ⟨_, rfl, by omega, by omega, rfl⟩

/-- What a draw for Shares leaves. -/
def ShP (w : World) (e : Ending) (w' : World) : Prop :=
  ∃ (T : Int) (n : Nat) (ad : Option Addr) (cap : Nat) (z : Nat → Int), e = .returned (.tuple #[.int .i64 T, .slice ad n cap]) ∧ n ≤ 201 ∧ IR w' ad n z ∧ (∀ j, j < n → -1 ≤ z j ∧ z j ≤ 10000001) ∧ Below w.heap.size w w'


theorem moved_bel {b : Nat} {w W W' : World} (hb : b = w.heap.size) (h : Below w.heap.size w W) (m : Moved b W W') : Below w.heap.size w W' := by
  subst hb
  exact h.trans ⟨m.2.os, m.2.tape, m.2.output, m.2.size, fun k hk => m.2.block k (by have := h.size; omega) (by omega)⟩

end Go.Proofs.Ytmbdeafpfdeigaa
