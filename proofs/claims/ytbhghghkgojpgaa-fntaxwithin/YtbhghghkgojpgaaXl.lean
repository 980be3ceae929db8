/- Contracts of the small draws: a new cursor, a number below a bound, one of a list, a number spoilt now and then. Each moves the cursor on and writes nothing else. -/
import Derived.Test.YtbhghghkgojpgaaXy
namespace Go.Proofs.Ytbhghghkgojpgaa
open Go.ChangeShapes Go.WideShapes Go.ChangeAt Go.RowKit
set_option linter.unusedVariables false
set_option linter.unusedSimpArgs false

theorem mod_bd (x n : Int) (h : 1 ≤ n) : 0 ≤ x % n ∧ x % n < n := ⟨Int.emod_nonneg _ (by omega), Int.emod_lt_of_pos _ (by omega)⟩

set_option maxHeartbeats 1000000 in
theorem below_any (b : Nat) (n : Int) (w : World) (hc : Cursor w b) :
    Calls Try.prog 41 #[.pointer (some ⟨b, 0, none⟩), .int .i64 n] w fun e w' => ∃ x : Int, e = .returned (.int .i64 x) ∧ 0 ≤ x ∧ (1 ≤ n → x < n) ∧ (n ≤ 0 → x = 0) ∧ Moved b w w' := by
  have HC : Hid (Cursor w b) := hc
  clear hc
  by_cases h0 : n ≤ 0
  · go_enter Try.func41, Try.ntmps41
    go_wp2
    go_returns
    exact ⟨0, rfl, by omega, by omega, fun _ => rfl, Moved.refl HC.out⟩
  · by_cases h1 : n ≤ 256
    · go_enter Try.func41, Try.ntmps41
      go_wp2_with (go_at_call 77; refine (byte_any b _ HC.out).mono ?_; rintro e w1 ⟨x, rfl, x0, x1, m1⟩; have M1 : Hid (Moved b w w1) := m1; clear m1)
      go_returns
      exact ⟨_, rfl, (mod_bd _ _ (by omega)).1, fun _ => (mod_bd _ _ (by omega)).2, fun _ => by omega, M1.out⟩
    · go_enter Try.func41, Try.ntmps41
      go_wp2_with (first
        | (go_at_call 77; have t := HC; refine (byte_any b _ HC.out).mono ?_; rintro e w1 ⟨x, rfl, x0, x1, m1⟩; have M1 : Hid (Moved b w w1) := m1; clear m1 HC)
        | (go_at_call 77; refine (byte_any b _ M1.out.1).mono ?_; rintro e w2 ⟨y, rfl, y0, y1, m2⟩; have M2 : Hid (Moved b w w2) := M1.out.trans m2; clear m2 M1)
        | (go_at_call 77; refine (byte_any b _ M2.out.1).mono ?_; rintro e w3 ⟨z, rfl, z0, z1, m3⟩; have M3 : Hid (Moved b w w3) := M2.out.trans m3; clear m3 M2)
        | (go_at_call 77; refine (byte_any b _ M3.out.1).mono ?_; rintro e w4 ⟨v, rfl, v0, v1, m4⟩; have M4 : Hid (Moved b w w4) := M3.out.trans m4; clear m4 M3))
      go_returns
      exact ⟨_, rfl, (mod_bd _ _ (by omega)).1, fun _ => (mod_bd _ _ (by omega)).2, fun _ => by omega, M4.out⟩

theorem once_any (b : Nat) (n : Int) (w : World) (hc : Cursor w b) :
    Calls Try.prog 40 #[.pointer (some ⟨b, 0, none⟩), .int .i64 n] w fun e w' => ∃ x : Bool, e = .returned (.bool x) ∧ Moved b w w' := by
  have HC : Hid (Cursor w b) := hc
  clear hc
  go_enter Try.func40, Try.ntmps40
  go_wp2_with (go_at_call 41; refine (below_any b _ _ HC.out).mono ?_; rintro e w1 ⟨x, rfl, x0, x1, x2, m1⟩; have M1 : Hid (Moved b w w1) := m1; clear m1)
  go_returns
  exact ⟨_, rfl, M1.out⟩

/-- Numbers that can be read, in a block other than b. -/
def IntRow (w : World) (b : Nat) (ad : Option Addr) (zs : List Int) : Prop :=
  ∃ k off, ad = some ⟨k, off, none⟩ ∧ k ≠ b ∧ k < w.heap.size ∧ ∀ j (h : j < zs.length), w.cell? ⟨k, off + j, none⟩ = some (.int .i64 zs[j])

theorem IntRow.turns {w w' : World} {b : Nat} {ad : Option Addr} {zs : List Int} (H : IntRow w b ad zs) (t : Turns b w w') : IntRow w' b ad zs := by
  obtain ⟨k, off, e, hb, hk, hc⟩ := H
  exact ⟨k, off, e, hb, Nat.lt_of_lt_of_le hk t.size, fun j hj => by rw [t.cell hk hb]; exact hc j hj⟩

theorem IntRow.made {w : World} {b : Nat} (hb : b < w.heap.size) (cs : Array Value) (t : TypeId) (zs : List Int) (hz : cs.toList = zs.map (Value.int .i64)) : IntRow (w.alloc (.cells cs t)) b (some ⟨w.heap.size, 0, none⟩) zs := by
  refine ⟨w.heap.size, 0, rfl, by omega, by simp, fun j hj => ?_⟩
  have hs : cs.size = zs.length := by rw [← Array.length_toList, hz]; simp
  have : (w.alloc (.cells cs t)).heap[w.heap.size]? = some (.cells cs t (0, 0)) := by
    show (w.heap.push _)[w.heap.size]? = _
    simp
  simp only [World.cell?, this]
  have hj2 : j < cs.size := by omega
  have e2 : cs[j] = .int .i64 zs[j] := by
    have h3 : cs.toList[j]'(by simpa using hj2) = (zs.map (Value.int .i64))[j]'(by simpa using hj) := by simp only [hz]
    simpa using h3
  simp [hj2, e2]

theorem pick_cell {w w1 : World} {b k off : Nat} {zs : List Int} {j : Nat} (H : IntRow w b (some ⟨k, off, none⟩) zs) (t : Turns b w w1) (hj : j < zs.length) : w1.cell? ⟨k, off + j, none⟩ = some (.int .i64 zs[j]) := by
  obtain ⟨k', off', e, hb, hk, hc⟩ := H.turns t
  simp only [Option.some.injEq, Addr.mk.injEq] at e
  obtain ⟨rfl, rfl, _⟩ := e
  exact hc j hj

theorem pick_after {w w1 : World} {b k off L : Nat} {zs : List Int} {x : Int} (H : IntRow w b (some ⟨k, off, none⟩) zs) (hL : zs.length = L) (t : Turns b w w1) (x0 : 0 ≤ x) (hne : 1 ≤ L) (x1 : 1 ≤ (L : Int) → x < (L : Int)) :
    ∃ (j : Nat) (y : Int), x = (j : Int) ∧ j < L ∧ y ∈ zs ∧ w1.cell? ⟨k, off + j, none⟩ = some (.int .i64 y) := by
  have hx := x1 (by omega)
  have hj : x.toNat < zs.length := by omega
  exact ⟨x.toNat, zs[x.toNat], by omega, by omega, List.getElem_mem _, pick_cell H t hj⟩

set_option maxHeartbeats 1000000 in
theorem pick_any (b : Nat) (ad : Option Addr) (zs : List Int) (L cap : Nat) (w : World) (hc : Cursor w b) (hr : IntRow w b ad zs) (hL : zs.length = L) (hne : 1 ≤ L) (hmax : L ≤ 1000000) :
    Calls Try.prog 44 #[.pointer (some ⟨b, 0, none⟩), .slice ad L cap] w fun e w' => ∃ x : Int, e = .returned (.int .i64 x) ∧ x ∈ zs ∧ Moved b w w' := by
  have HC : Hid (Cursor w b) := hc
  have HR : Hid (IntRow w b ad zs) := hr
  have had : ∃ k off, ad = some ⟨k, off, none⟩ := by obtain ⟨k, off, e, _⟩ := hr; exact ⟨k, off, e⟩
  obtain ⟨k, off, rfl⟩ := had
  have HL : Hid (zs.length = L) := hL
  clear hc hr hL
  go_enter Try.func44, Try.ntmps44
  go_wp2_with (go_at_call 41; refine (below_any b _ _ HC.out).mono ?_; rintro e w1 ⟨x, rfl, x0, x1, x2, m1⟩; obtain ⟨j, y, hj, hjl, hy, hcell⟩ := pick_after HR.out HL.out m1.2 x0 hne x1; subst hj; have M1 : Hid (Moved b w w1) := m1; have HY : Hid (y ∈ zs) := hy; clear m1 x1 x2 hy)
  go_returns
  exact ⟨_, rfl, HY.out, M1.out⟩

theorem spoil_any (b : Nat) (v : Int) (ad : Option Addr) (zs : List Int) (L cap : Nat) (w : World) (hc : Cursor w b) (hr : IntRow w b ad zs) (hL : zs.length = L) (hne : 1 ≤ L) (hmax : L ≤ 1000000) :
    Calls Try.prog 78 #[.pointer (some ⟨b, 0, none⟩), .int .i64 v, .slice ad L cap] w fun e w' => ∃ x : Int, e = .returned (.int .i64 x) ∧ (x = v ∨ x ∈ zs) ∧ Moved b w w' := by
  have HC : Hid (Cursor w b) := hc
  have HR : Hid (IntRow w b ad zs) := hr
  clear hc hr
  go_enter Try.func78, Try.ntmps78
  go_wp2_with (first | (go_at_call 40; refine (once_any b _ _ HC.out).mono ?_; rintro e w1 ⟨x, rfl, m1⟩; have M1 : Hid (Moved b w w1) := m1; cases x; clear m1) | (go_at_call 44; refine (pick_any b ad zs L _ _ M1.out.1 (HR.out.turns M1.out.2) hL hne hmax).mono ?_; rintro e w2 ⟨x, rfl, hx, m2⟩; have M2 : Hid (Moved b w w2) := M1.out.trans m2; have HX : Hid (x ∈ zs) := hx; clear m2 hx))
  · go_returns
    exact ⟨_, rfl, .inl rfl, M1.out⟩
  · go_returns
    exact ⟨_, rfl, .inr HX.out, M2.out⟩

end Go.Proofs.Ytbhghghkgojpgaa
