/- A list of rules that came in, read. -/
import Derived.Test.YtjlniinahfgakaaIo
import Derived.Test.YtjlniinahfgakaaRo
import Derived.OpenShut
import Derived.ChangeSlices
import Derived.OneCell
import Derived.Deep.Slices
import Derived.Deep.SlicePairs
namespace Go.Proofs.Ytjlniinahfgakaa
open Go.ChangeShapes Go.WideShapes Go.ChangeAt Go.RowKit
set_option linter.unusedVariables false

theorem structs_of {H : Type} {enc : TypeId × Value → H} {P : Program} {w : World} {sp : Nat → Bool} {held : Bool} {t e : TypeId} {fs : Array Field} {n : Nat} {ad : Option Addr} {len cap : Nat} {d : DataW H} {p : List MemPlace}
    (ht : P.underlying t = some (.slice e)) (he : P.underlying e = some (.struct fs)) (ce : P.cellsOf e = n) (hn : 0 < n)
    (hfl : ∀ i f, fs[i]? = some f → f.offset = i ∧ P.cellsOf f.type = 1 ∧ i < n)
    (h : DataW.Trod enc P w 0 sp held t (.slice ad len cap) d p) :
    len ≤ maxLen ∧ (len = 0 ∨ ∃ b off, ad = some ⟨b, off, none⟩ ∧ b < w.heap.size ∧
      ∀ j, j < len → ∀ i f, fs[i]? = some f → ∃ v fuel y, w.cell? ⟨b, off + j * n + i, none⟩ = some v ∧ DataW.trod enc P w 0 sp held fuel f.type [v] = some y) := by
  obtain ⟨fuel, hf⟩ := h
  rcases Go.Deep.open_slice ht hf with ⟨hcs, _⟩ | ⟨a, l, c, m, k, D, Pl, hcs, _, hl, hm, hmm, _, hx⟩
  · simp [Value.cells] at hcs
    obtain ⟨rfl, rfl, rfl⟩ := hcs
    exact ⟨Nat.zero_le _, .inl rfl⟩
  · simp [Value.cells] at hcs
    obtain ⟨rfl, rfl, rfl⟩ := hcs
    have hlm : len ≤ m := by rw [hmm]; split <;> omega
    refine ⟨Nat.le_trans hl hm, ?_⟩
    rw [ce] at hx
    by_cases h0 : len = 0
    · exact .inl h0
    · obtain ⟨b, off, spot⟩ := a
      have key : ∀ j, j < len → ∀ i, i < n → ∃ v, w.cell? ((Addr.mk b off spot).add (j * n) |>.add i) = some v := fun j hj i hi => by
        obtain ⟨cs', h1, h2⟩ := hx j (by omega)
        obtain ⟨_, hlen, hcell⟩ := World.cells?_some h1
        exact ⟨cs'[i]'(by omega), by rw [hcell i hi]; exact List.getElem?_eq_getElem (by omega)⟩
      have hspot : spot = none := by
        obtain ⟨v, hv⟩ := key 0 (by omega) 0 hn
        simpa [Addr.add] using World.cell?_spot hv
      subst hspot
      have hlt : b < w.heap.size := by
        obtain ⟨v, hv⟩ := key 0 (by omega) 0 hn
        simp only [Nat.zero_mul, Addr.add, if_true, World.cell?] at hv
        cases hh : w.heap[b]? with
        | none => simp [hh] at hv
        | some o => exact lt_of_block hh
      refine .inr ⟨b, off, rfl, hlt, fun j hj i f hif => ?_⟩
      obtain ⟨ho, hc, hi⟩ := hfl i f hif
      obtain ⟨cs', h1, h2⟩ := hx j (by omega)
      obtain ⟨_, hlen, hcell⟩ := World.cells?_some h1
      obtain ⟨xs, k', hk, hxy, _, hxl, hfx⟩ := DataW.trod_struct he h2
      have g := hfx i f hif
      rw [ho, hc] at g
      have hi2 : i < cs'.length := by omega
      have e1 : (cs'.drop i).take 1 = [cs'[i]] := by
        rw [List.drop_eq_getElem_cons hi2]; rfl
      rw [e1] at g
      have hxi : i < xs.length := by
        rw [hxl]
        rcases Nat.lt_or_ge i fs.size with q | q
        · exact q
        · rw [Array.getElem?_eq_none q] at hif; cases hif
      rw [List.getElem?_eq_getElem hxi] at g
      refine ⟨cs'[i], k', _, ?_, g⟩
      have hc2 := hcell i (by omega)
      rw [List.getElem?_eq_getElem hi2] at hc2
      rw [← hc2]
      congr 1
      simp only [Addr.add]
      by_cases q1 : j * n = 0 <;> by_cases q2 : i = 0 <;> simp [q1, q2, Nat.add_assoc]

theorem ints_at {H : Type} {enc : TypeId × Value → H} {P : Program} {w : World} {sp : Nat → Bool} {held : Bool} {t e : TypeId} {fuel : Nat} {v : Value} {x : DataW H × List MemPlace}
    (ht : P.underlying t = some (.slice e)) (he : P.underlying e = some (.int .i64)) (hc : P.cellsOf e = 1) (h : DataW.trod enc P w 0 sp held fuel t [v] = some x) : ∃ ad len cap z, v = .slice ad len cap ∧ len ≤ maxLen ∧ len ≤ cap ∧ IR w ad len z := by
  have hcap : ∃ ad len cap, v = .slice ad len cap ∧ len ≤ cap := by
    rcases Go.Deep.open_slice ht h with ⟨hcs, _⟩ | ⟨a, l, c, m, k, D, Pl, hcs, _, hl, _⟩
    · exact ⟨none, 0, 0, by simpa using hcs, Nat.le_refl _⟩
    · exact ⟨some a, l, c, by simpa using hcs, hl⟩
  obtain ⟨ad, len, cap, rfl, hle⟩ := hcap
  obtain ⟨z, h1, h2⟩ := ints_of ht he hc (⟨fuel, by simpa [Value.cells] using h⟩ : DataW.Trod enc P w 0 sp held t (.slice ad len cap) x.1 x.2)
  exact ⟨ad, len, cap, z, rfl, h1, hle, h2⟩
theorem rules_of {H : Type} {enc : TypeId × Value → H} {P : Program} {w : World} {sp : Nat → Bool} {held : Bool} {t e i : TypeId} {f0 f1 f2 : Field} {ad : Option Addr} {len cap : Nat} {d : DataW H} {p : List MemPlace}
    (ht : P.underlying t = some (.slice e)) (he : P.underlying e = some (.struct #[f0, f1, f2])) (ce : P.cellsOf e = 3)
    (ho : f0.offset = 0 ∧ f1.offset = 1 ∧ f2.offset = 2) (hc : P.cellsOf f0.type = 1 ∧ P.cellsOf f1.type = 1 ∧ P.cellsOf f2.type = 1)
    (t0 : P.underlying f0.type = some (.int .i64)) (t1 : P.underlying f1.type = some (.slice i)) (t2 : P.underlying f2.type = some (.slice i)) (ti : P.underlying i = some (.int .i64)) (ci : P.cellsOf i = 1)
    (h : DataW.Trod enc P w 0 sp held t (.slice ad len cap) d p) : ∃ r : Nat → R3, len ≤ maxLen ∧ (∀ j, (r j).tn ≤ maxLen ∧ (r j).wn ≤ maxLen) ∧ RU w ad len r := by
  obtain ⟨hl, h0 | ⟨b, off, e1, hb, hx⟩⟩ := structs_of ht he ce (by omega) (fun i f hf => by
    match i, hf with
    | 0, hf => simp at hf; subst hf; exact ⟨ho.1, hc.1, by omega⟩
    | 1, hf => simp at hf; subst hf; exact ⟨ho.2.1, hc.2.1, by omega⟩
    | 2, hf => simp at hf; subst hf; exact ⟨ho.2.2, hc.2.2, by omega⟩
    | n + 3, hf => simp at hf) h
  · exact ⟨fun _ => ⟨0, 0, fun _ => 0, 0, fun _ => 0⟩, hl, fun j => ⟨Nat.zero_le _, Nat.zero_le _⟩, .inl h0⟩
  · have key : ∀ j, ∃ x : R3, x.tn ≤ maxLen ∧ x.wn ≤ maxLen ∧ (j < len → RuAt w b (off + j * 3) x) := fun j => by
      by_cases hj : j < len
      · obtain ⟨v0, fu0, y0, c0, g0⟩ := hx j hj 0 f0 rfl
        obtain ⟨v1, fu1, y1, c1, g1⟩ := hx j hj 1 f1 rfl
        obtain ⟨v2, fu2, y2, c2, g2⟩ := hx j hj 2 f2 rfl
        obtain ⟨d0, e0, _, _⟩ := DataW.trod_int t0 g0
        obtain rfl : v0 = .int .i64 d0 := by simpa using e0
        obtain ⟨a1, n1, k1, z1, rfl, l1, m1, r1⟩ := ints_at t1 ti ci g1
        obtain ⟨a2, n2, k2, z2, rfl, l2, m2, r2⟩ := ints_at t2 ti ci g2
        exact ⟨⟨d0, n1, z1, n2, z2⟩, l1, l2, fun _ => ⟨a1, k1, a2, k2, c0, c1, c2, r1, r2, m1⟩⟩
      · exact ⟨⟨0, 0, fun _ => 0, 0, fun _ => 0⟩, Nat.zero_le _, Nat.zero_le _, fun h => absurd h hj⟩
    exact ⟨fun j => Classical.choose (key j), hl, fun j => ⟨(Classical.choose_spec (key j)).1, (Classical.choose_spec (key j)).2.1⟩, .inr ⟨b, off, e1, hb, fun j hj => (Classical.choose_spec (key j)).2.2 hj⟩⟩
end Go.Proofs.Ytjlniinahfgakaa
