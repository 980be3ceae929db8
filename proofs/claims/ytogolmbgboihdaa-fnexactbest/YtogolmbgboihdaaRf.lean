/- A slice of flat structs that came in (each field one cell), read as a row; of rates; of currencies. Nothing of the program. -/
import Derived.Test.YtogolmbgboihdaaRr
import Derived.OpenShut
import Derived.ChangeSlices
import Derived.OneCell
import Derived.Deep.Slices
import Derived.Deep.SlicePairs
namespace Go.Proofs.Ytogolmbgboihdaa
open Go.ChangeShapes Go.WideShapes Go.ChangeAt Go.RowKit
set_option linter.unusedVariables false

theorem structs_of {H : Type} {enc : TypeId × Value → H} {P : Program} {w : World} {sp : Nat → Bool} {held : Bool} {t e : TypeId} {fs : Array Field} {n : Nat} {ad : Option Addr} {len cap : Nat} {d : DataW H} {p : List MemPlace}
    (ht : P.underlying t = some (.slice e)) (he : P.underlying e = some (.struct fs)) (ce : P.cellsOf e = n) (hn : 0 < n)
    (hfl : ∀ i f, fs[i]? = some f → f.offset = i ∧ P.cellsOf f.type = 1 ∧ i < n)
    (h : DataW.Trod enc P w 0 sp held t (.slice ad len cap) d p) :
    len ≤ maxLen ∧ (len = 0 ∨ ∃ b off, ad = some ⟨b, off, none⟩ ∧ b < w.heap.size ∧
      ∀ j, j < len → ∀ i f, fs[i]? = some f → ∃ v fuel y, w.cell? ⟨b, off + j * n + i, none⟩ = some v ∧ DataW.trod enc P w 0 sp held fuel f.type [v] = some y) := by
  obtain ⟨fuel, hf⟩ := h
  rcases Go.Deep.open_slice ht hf with ⟨hcs, _⟩ | ⟨a, l, c, m, k, D, Pl, hcs, _, hl, hm, hmm, _, hx⟩
  · simp [Value.cells] at hcs
    obtain ⟨rfl, rfl, rfl⟩ := hcs
    exact ⟨Nat.zero_le _, .inl rfl⟩
  · simp [Value.cells] at hcs
    obtain ⟨rfl, rfl, rfl⟩ := hcs
    have hlm : len ≤ m := by rw [hmm]; split <;> omega
    refine ⟨Nat.le_trans hl hm, ?_⟩
    rw [ce] at hx
    by_cases h0 : len = 0
    · exact .inl h0
    · obtain ⟨b, off, spot⟩ := a
      have key : ∀ j, j < len → ∀ i, i < n → ∃ v, w.cell? ((Addr.mk b off spot).add (j * n) |>.add i) = some v := fun j hj i hi => by
        obtain ⟨cs', h1, h2⟩ := hx j (by omega)
        obtain ⟨_, hlen, hcell⟩ := World.cells?_some h1
        exact ⟨cs'[i]'(by omega), by rw [hcell i hi]; exact List.getElem?_eq_getElem (by omega)⟩
      have hspot : spot = none := by
        obtain ⟨v, hv⟩ := key 0 (by omega) 0 hn
        simpa [Addr.add] using World.cell?_spot hv
      subst hspot
      have hlt : b < w.heap.size := by
        obtain ⟨v, hv⟩ := key 0 (by omega) 0 hn
        simp only [Nat.zero_mul, Addr.add, if_true, World.cell?] at hv
        cases hh : w.heap[b]? with
        | none => simp [hh] at hv
        | some o => exact lt_of_block hh
      refine .inr ⟨b, off, rfl, hlt, fun j hj i f hif => ?_⟩
      obtain ⟨ho, hc, hi⟩ := hfl i f hif
      obtain ⟨cs', h1, h2⟩ := hx j (by omega)
      obtain ⟨_, hlen, hcell⟩ := World.cells?_some h1
      obtain ⟨xs, k', hk, hxy, _, hxl, hfx⟩ := DataW.trod_struct he h2
      have g := hfx i f hif
      rw [ho, hc] at g
      have hi2 : i < cs'.length := by omega
      have e1 : (cs'.drop i).take 1 = [cs'[i]] := by
        rw [List.drop_eq_getElem_cons hi2]; rfl
      rw [e1] at g
      have hxi : i < xs.length := by
        rw [hxl]
        rcases Nat.lt_or_ge i fs.size with q | q
        · exact q
        · rw [Array.getElem?_eq_none q] at hif; cases hif
      rw [List.getElem?_eq_getElem hxi] at g
      refine ⟨cs'[i], k', _, ?_, g⟩
      have hc2 := hcell i (by omega)
      rw [List.getElem?_eq_getElem hi2] at hc2
      rw [← hc2]
      congr 1
      simp only [Addr.add]
      by_cases q1 : j * n = 0 <;> by_cases q2 : i = 0 <;> simp [q1, q2, Nat.add_assoc]

def intAt (v : Value) : Int := match v with | .int _ n => n | _ => 0
def strAt (v : Value) : ByteArray := match v with | .string s => s | _ => ByteArray.empty

theorem rates_of {H : Type} {enc : TypeId × Value → H} {P : Program} {w : World} {sp : Nat → Bool} {held : Bool} {t e : TypeId} {f0 f1 f2 f3 : Field} {ad : Option Addr} {len cap : Nat} {d : DataW H} {p : List MemPlace}
    (ht : P.underlying t = some (.slice e)) (he : P.underlying e = some (.struct #[f0, f1, f2, f3])) (ce : P.cellsOf e = 4)
    (ho : f0.offset = 0 ∧ f1.offset = 1 ∧ f2.offset = 2 ∧ f3.offset = 3) (hc : P.cellsOf f0.type = 1 ∧ P.cellsOf f1.type = 1 ∧ P.cellsOf f2.type = 1 ∧ P.cellsOf f3.type = 1)
    (t0 : P.underlying f0.type = some (.int .i64)) (t1 : P.underlying f1.type = some (.int .i64)) (t2 : P.underlying f2.type = some (.int .i64)) (t3 : P.underlying f3.type = some (.int .i64))
    (h : DataW.Trod enc P w 0 sp held t (.slice ad len cap) d p) : ∃ r : Nat → R4, len ≤ maxLen ∧ RR w ad len r := by
  obtain ⟨hl, h0 | ⟨b, off, e1, hb, hx⟩⟩ := structs_of ht he ce (by omega) (fun i f hf => by
    match i, hf with
    | 0, hf => simp at hf; subst hf; exact ⟨ho.1, hc.1, by omega⟩
    | 1, hf => simp at hf; subst hf; exact ⟨ho.2.1, hc.2.1, by omega⟩
    | 2, hf => simp at hf; subst hf; exact ⟨ho.2.2.1, hc.2.2.1, by omega⟩
    | 3, hf => simp at hf; subst hf; exact ⟨ho.2.2.2, hc.2.2.2, by omega⟩
    | n + 4, hf => simp at hf) h
  · exact ⟨fun _ => ⟨0, 0, 0, 0⟩, hl, .inl h0⟩
  · let V (o : Nat) : Int := intAt ((w.cell? ⟨b, o, none⟩).getD undef)
    have get : ∀ (f : Field) (i j : Nat), P.underlying f.type = some (.int .i64) → (∃ v fuel y, w.cell? ⟨b, off + j * 4 + i, none⟩ = some v ∧ DataW.trod enc P w 0 sp held fuel f.type [v] = some y) → w.cell? ⟨b, off + j * 4 + i, none⟩ = some (.int .i64 (V (off + j * 4 + i))) := fun f i j tf ⟨v, fuel, y, hv, hy⟩ => by
      obtain ⟨u, eu, _, _⟩ := DataW.trod_int tf hy
      have ev : v = .int .i64 u := by simpa using eu
      subst ev
      simp only [V, hv, Option.getD_some, intAt]
    refine ⟨fun j => ⟨V (off + j * 4), V (off + j * 4 + 1), V (off + j * 4 + 2), V (off + j * 4 + 3)⟩, hl, .inr ⟨b, off, e1, hb, fun j hj => ⟨?_, ?_, ?_, ?_⟩⟩⟩
    · exact get f0 0 j t0 (hx j hj 0 f0 rfl)
    · exact get f1 1 j t1 (hx j hj 1 f1 rfl)
    · exact get f2 2 j t2 (hx j hj 2 f2 rfl)
    · exact get f3 3 j t3 (hx j hj 3 f3 rfl)

theorem curs_of {H : Type} {enc : TypeId × Value → H} {P : Program} {w : World} {sp : Nat → Bool} {held : Bool} {t e : TypeId} {f0 f1 f2 : Field} {ad : Option Addr} {len cap : Nat} {d : DataW H} {p : List MemPlace}
    (ht : P.underlying t = some (.slice e)) (he : P.underlying e = some (.struct #[f0, f1, f2])) (ce : P.cellsOf e = 3)
    (ho : f0.offset = 0 ∧ f1.offset = 1 ∧ f2.offset = 2) (hc : P.cellsOf f0.type = 1 ∧ P.cellsOf f1.type = 1 ∧ P.cellsOf f2.type = 1)
    (t0 : P.underlying f0.type = some .string) (t1 : P.underlying f1.type = some (.int .i64)) (t2 : P.underlying f2.type = some (.int .i64))
    (h : DataW.Trod enc P w 0 sp held t (.slice ad len cap) d p) : ∃ c : Nat → C3, len ≤ maxLen ∧ (∀ j, (c j).code.size ≤ maxLen) ∧ CR w ad len c := by
  obtain ⟨hl, h0 | ⟨b, off, e1, hb, hx⟩⟩ := structs_of ht he ce (by omega) (fun i f hf => by
    match i, hf with
    | 0, hf => simp at hf; subst hf; exact ⟨ho.1, hc.1, by omega⟩
    | 1, hf => simp at hf; subst hf; exact ⟨ho.2.1, hc.2.1, by omega⟩
    | 2, hf => simp at hf; subst hf; exact ⟨ho.2.2, hc.2.2, by omega⟩
    | n + 3, hf => simp at hf) h
  · exact ⟨fun _ => ⟨ByteArray.empty, 0, 0⟩, hl, fun j => Nat.zero_le _, .inl h0⟩
  · let V (o : Nat) : Int := intAt ((w.cell? ⟨b, o, none⟩).getD undef)
    have get : ∀ (f : Field) (i j : Nat), P.underlying f.type = some (.int .i64) → (∃ v fuel y, w.cell? ⟨b, off + j * 3 + i, none⟩ = some v ∧ DataW.trod enc P w 0 sp held fuel f.type [v] = some y) → w.cell? ⟨b, off + j * 3 + i, none⟩ = some (.int .i64 (V (off + j * 3 + i))) := fun f i j tf ⟨v, fuel, y, hv, hy⟩ => by
      obtain ⟨u, eu, _, _⟩ := DataW.trod_int tf hy
      have ev : v = .int .i64 u := by simpa using eu
      subst ev
      simp only [V, hv, Option.getD_some, intAt]
    have key : ∀ j, ∃ s : ByteArray, s.size ≤ maxLen ∧ (j < len → w.cell? ⟨b, off + j * 3, none⟩ = some (.string s)) := fun j => by
      by_cases hj : j < len
      · obtain ⟨v, fuel, y, hv, hy⟩ := hx j hj 0 f0 rfl
        obtain ⟨u, eu, _, hu⟩ := DataW.trod_string t0 hy
        have ev : v = .string u := by simpa using eu
        subst ev
        exact ⟨u, hu, fun _ => hv⟩
      · exact ⟨ByteArray.empty, Nat.zero_le _, fun h => absurd h hj⟩
    refine ⟨fun j => ⟨Classical.choose (key j), V (off + j * 3 + 1), V (off + j * 3 + 2)⟩, hl, fun j => (Classical.choose_spec (key j)).1, .inr ⟨b, off, e1, hb, fun j hj => ⟨?_, ?_, ?_⟩⟩⟩
    · exact (Classical.choose_spec (key j)).2 hj
    · exact get f1 1 j t1 (hx j hj 1 f1 rfl)
    · exact get f2 2 j t2 (hx j hj 2 f2 rfl)

end Go.Proofs.Ytogolmbgboihdaa
