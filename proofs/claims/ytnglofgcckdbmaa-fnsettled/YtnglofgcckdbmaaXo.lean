/- Small draws besides: a day that is spoilt now and then. -/
import Derived.Test.YtnglofgcckdbmaaXe
import Derived.Test.YtnglofgcckdbmaaXm
namespace Go.Proofs.Ytnglofgcckdbmaa
open Go Go.ChangeShapes Go.WideShapes Go.ChangeAt Go.RowKit
set_option linter.unusedVariables false
set_option linter.unusedSimpArgs false
/-- A block that was just made has its cells. -/
theorem ocells_at {w : World} {b : Nat} {l : List Value} {t : TypeId} (hb : w.heap.size = b) : ∀ j u, l[j]? = some u → (w.alloc (.cells l.toArray t (0, 0))).cell? ((⟨b, 0, none⟩ : Addr).add j) = some u := by
  intro j u hj
  have h := (CB.newAt hb l.toArray t).cell j
  have e : (⟨b, 0, none⟩ : Addr).add j = ⟨b, j, none⟩ := by
    simp only [Addr.add]; by_cases q : j = 0 <;> simp [q]
  rw [e, h]; simpa using hj
theorem badDay_any (b : Nat) (v : Int) (w : World) (hc : Cursor w b) :
    Calls Try.prog 53 #[.pointer (some ⟨b, 0, none⟩), .int .i64 v] w fun e w' => ∃ x : Int, e = .returned (.int .i64 x) ∧ (x = v ∨ x = -1 ∨ x = 40001 ∨ x = -9223372036854775808) ∧ Moved b w w' := by
  have M : Hid (Moved b w w) := Moved.refl hc
  clear hc
  go_enter Try.func53, Try.ntmps53
  go_wp2_with (go_at_call 54; refine (spoil_any b _ _ [-1, 40001, -9223372036854775808] _ _ _ (M.out.alloc _).1 (IntRow.made M.out.1.lt _ _ _ rfl) rfl (by decide) (by decide)).mono ?_; rintro e w2 ⟨y, rfl, hy, m2⟩; replace M : Hid (Moved b w w2) := (M.out.alloc _).trans m2; have HY : Hid _ := hy; clear m2 hy)
  go_returns
  exact ⟨_, rfl, by have := HY.out; simpa using this, M.out⟩
theorem nat_of {x : Int} {n : Nat} (h0 : 0 ≤ x) (h1 : x < (n : Int)) : ∃ j : Nat, x = (j : Int) ∧ j < n := ⟨x.toNat, by omega, by omega⟩
theorem own_base {w : World} {base : Nat} {e : TypeId} {size : Nat} {v : Value} {n : Nat} {xs : List Value} (h : w.ownsRow base e size v n xs) {g : Nat} (hv : v.ownBlock = some g) : base ≤ w.heap.size := by have := h.lt g hv; omega
end Go.Proofs.Ytnglofgcckdbmaa
