/- Rows of Machine in memory; the laws' own functions over them: sizes, copies, likeness; rows that came in. -/
import Derived.Test.YtogolmbgboihdaaRf
import Derived.Test.YtogolmbgboihdaaNm
import Derived.Deep.RegionHeld3
import Derived.Deep.RegionWith
import Derived.Outline
import Derived.Handy
import Derived.Laws.EntriesVeiled
namespace Go.Proofs.Ytogolmbgboihdaa
open Go.ChangeShapes Go.WideShapes Go.ChangeAt Go.RowKit
set_option linter.unusedVariables false
set_option linter.unusedSimpArgs false

structure MA3 where
  op : Int
  sh : Int
  st : Int
def AtMA (w : World) (k o : Nat) (c : MA3) : Prop :=
  w.cell? ⟨k, o, none⟩ = some (.int .i64 c.op) ∧ w.cell? ⟨k, o + 1, none⟩ = some (.int .i64 c.sh) ∧ w.cell? ⟨k, o + 2, none⟩ = some (.int .i64 c.st)
theorem AtMA.block {w w' : World} {k o : Nat} {c : MA3} (h : AtMA w k o c) (hb : w'.heap[k]? = w.heap[k]?) : AtMA w' k o c := by
  have e : ∀ o, w'.cell? ⟨k, o, none⟩ = w.cell? ⟨k, o, none⟩ := fun o => World.cell?_of_block (w := w) hb
  unfold AtMA; rw [e, e, e]; exact h
def MAr (w : World) (ad : Option Addr) (len : Nat) (c : Nat → MA3) : Prop :=
  len = 0 ∨ ∃ k off, ad = some ⟨k, off, none⟩ ∧ k < w.heap.size ∧ ∀ j, j < len → AtMA w k (off + j * 3) (c j)
theorem MAr.below {w w' : World} {ad : Option Addr} {len : Nat} {c : Nat → MA3} (H : MAr w ad len c) (t : Below w.heap.size w w') : MAr w' ad len c := by
  rcases H with h | ⟨k, off, e, hk, hc⟩
  · exact .inl h
  · exact .inr ⟨k, off, e, Nat.lt_of_lt_of_le hk t.size, fun j hj => (hc j hj).block (t.block k hk)⟩
theorem MAr.alloc {w : World} {ad : Option Addr} {len : Nat} {c : Nat → MA3} (H : MAr w ad len c) (o : Obj) : MAr (w.alloc o) ad len c := H.below ((Below.refl _ _).alloc (Nat.le_refl _) o)
theorem MAr.drewN {w : World} {ad : Option Addr} {len : Nat} {c : Nat → MA3} (H : MAr w ad len c) (q : Nat) : MAr (w.drewN q) ad len c := H
theorem MAr.cell {w : World} {k off len : Nat} {c : Nat → MA3} (H : MAr w (some ⟨k, off, none⟩) len c) {j : Nat} (hj : j < len) : AtMA w k (off + j * 3) (c j) := by
  rcases H with h | ⟨k', off', e, hk, hc⟩
  · omega
  · simp only [Option.some.injEq, Addr.mk.injEq] at e
    obtain ⟨rfl, rfl, _⟩ := e
    exact hc j hj
theorem MAr.addr {w : World} {ad : Option Addr} {len : Nat} {c : Nat → MA3} (H : MAr w ad len c) (h : 0 < len) : ∃ k off, ad = some ⟨k, off, none⟩ ∧ k < w.heap.size := by
  rcases H with h' | ⟨k', off', e, hk, hc⟩
  · omega
  · exact ⟨k', off', e, hk⟩
theorem MAr.mono {w : World} {ad : Option Addr} {len n : Nat} {c : Nat → MA3} (H : MAr w ad len c) (h : n ≤ len) : MAr w ad n c := by
  rcases H with h' | ⟨k', off', e, hk, hc⟩
  · exact .inl (by omega)
  · exact .inr ⟨k', off', e, hk, fun j hj => hc j (by omega)⟩
theorem MAr.other {w : World} {ad : Option Addr} {len : Nat} {c : Nat → MA3} (H : MAr w ad len c) {b o : Nat} (u : Value) (h : ∀ k off, ad = some ⟨k, off, none⟩ → k ≠ b) : MAr (w.setCell ⟨b, o, none⟩ u) ad len c := by
  rcases H with h' | ⟨k', off', e, hk, hc⟩
  · exact .inl h'
  · exact .inr ⟨k', off', e, by simpa using hk, fun j hj => (hc j hj).block (Below.heap_setCell _ _ _ _ (by simpa using h _ _ e))⟩

theorem MAr.of_block {w : World} {b : Nat} {cs : Array Value} {t : TypeId} (H : CB w b cs t) (n : Nat) (c : Nat → MA3) (h : ∀ j, j < n → cs[j * 3]? = some (.int .i64 (c j).op) ∧ cs[j * 3 + 1]? = some (.int .i64 (c j).sh) ∧ cs[j * 3 + 2]? = some (.int .i64 (c j).st)) : MAr w (some ⟨b, 0, none⟩) n c :=
  .inr ⟨b, 0, rfl, H.lt, fun j hj => by unfold AtMA; rw [Nat.zero_add, H.cell, H.cell, H.cell]; exact h j hj⟩
def zerosMA3 (n : Nat) : Array Value := madeCells #[.int .i64 0, .int .i64 0, .int .i64 0] (n * 3)
theorem zerosMA3_size (n : Nat) : (zerosMA3 n).size = n * 3 := size_madeCells _ _

set_option maxRecDepth 100000 in
theorem mkMA3 (n : Nat) (h : (n : Int) ≤ 1048576) (w : World) : (Instr.makeSlice 24 (.int .i64 (n : Int)) (.int .i64 (n : Int))).run Try.prog w = .ok (.slice (some ⟨w.heap.size, 0, none⟩) n n) (w.alloc (.cells (zerosMA3 n) 43)) := by
  obtain ⟨i, hi⟩ : ∃ i, Try.prog.info? 43 = some i := ⟨_, rfl⟩
  have hz : i.zero = some (.agg #[.int .i64 0, .int .i64 0, .int .i64 0]) := by
    have : (Try.prog.info? 43).bind (·.zero) = some (.agg #[.int .i64 0, .int .i64 0, .int .i64 0]) := by kernel_rfl
    rw [hi] at this; exact this
  have hs : i.size = 3 := by
    have : (Try.prog.info? 43).map (·.size) = some 3 := by kernel_rfl
    rw [hi] at this; simpa using this
  have hb : i.bytes = 24 := by
    have : (Try.prog.info? 43).map (·.bytes) = some 24 := by kernel_rfl
    rw [hi] at this; simpa using this
  have hr := run_make (P := Try.prog) w 24 43 i (.agg #[.int .i64 0, .int .i64 0, .int .i64 0]) Try.underlying24 hi hz .i64 .i64 n n (by omega) (by omega) (by rw [hb]; omega) (by omega)
  simp only [Int.toNat_natCast, hs] at hr
  exact hr

theorem toMA3_any (x0 : Int) (x1 : Int) (x2 : Int) (w : World) : Calls Try.prog 33 #[.agg #[.int .i64 x0, .int .i64 x1, .int .i64 x2]] w fun e w' => e = .returned (.agg #[.int .i64 x0, .int .i64 x1, .int .i64 x2]) ∧ Below w.heap.size w w' := by
  go_enter Try.func33, Try.ntmps33
  go_wp2
  go_returns
  exact ⟨rfl, by go_grown⟩
theorem eqMA3_same (x0 : Int) (x1 : Int) (x2 : Int) (w : World) : Calls Try.prog 75 #[.agg #[.int .i64 x0, .int .i64 x1, .int .i64 x2], .agg #[.int .i64 x0, .int .i64 x1, .int .i64 x2]] w fun e w' => e = .returned (.bool true) ∧ Below w.heap.size w w' := by
  go_enter Try.func75, Try.ntmps75
  go_wp2
  go_returns
  exact ⟨rfl, by go_grown⟩

set_option maxRecDepth 20000 in
set_option maxHeartbeats 4000000 in
theorem toMA3S_any (ad : Option Addr) (len cap : Nat) (c : Nat → MA3) (w : World) (h : (len : Int) ≤ 1048576) (hr : MAr w ad len c) :
    Calls Try.prog 27 #[.slice ad len cap] w fun e w' => e = .returned (.slice (some ⟨w.heap.size, 0, none⟩) len len) ∧ (MAr w' (some ⟨w.heap.size, 0, none⟩) len c ∧ ∃ cs, CB w' w.heap.size cs 43 ∧ cs.size = len * 3) ∧ Below w.heap.size w w' := by
  have HR : Hid (MAr w ad len c) := hr
  have hmk := mkMA3 len h
  clear hr
  go_enter Try.func27, Try.ntmps27
  go_wp2
  go_loopw [4] (fun i wr => ∃ (k : Nat) (cs : Array Value), k ≤ len ∧ i = .int .i64 (k : Int) ∧ CB wr w.heap.size cs 43 ∧ cs.size = len * 3 ∧ (∀ j, j < k → cs[j * 3]? = some (.int .i64 (c j).op) ∧ cs[j * 3 + 1]? = some (.int .i64 (c j).sh) ∧ cs[j * 3 + 2]? = some (.int .i64 (c j).st)) ∧ Below w.heap.size w wr) (fun i _ => len - (intOf i).toNat)
  case atStart => exact ⟨0, zerosMA3 len, Nat.zero_le _, rfl, CB.new _ _, zerosMA3_size _, fun j hj => by omega, (Below.refl _ _).alloc (Nat.le_refl _) _⟩
  case round =>
    obtain ⟨k, cs, hk, rfl, hC, hsz, hcs, hB⟩ := hrel
    by_cases hlt : k < len
    · have hlt2 : (k : Int) < (len : Int) := by omega
      obtain ⟨kb, off, rfl, hkb⟩ := HR.out.addr (by omega)
      obtain ⟨c0, c1, c2⟩ := (HR.out.below hB).cell hlt
      obtain ⟨v0, d0⟩ : ∃ v, cs[k * 3]? = some v := ⟨cs[k * 3]'(by omega), Array.getElem?_eq_getElem (by omega)⟩
      obtain ⟨v1, d1⟩ : ∃ v, cs[k * 3 + 1]? = some v := ⟨cs[k * 3 + 1]'(by omega), Array.getElem?_eq_getElem (by omega)⟩
      obtain ⟨v2, d2⟩ : ∃ v, cs[k * 3 + 2]? = some v := ⟨cs[k * 3 + 2]'(by omega), Array.getElem?_eq_getElem (by omega)⟩
      have HC : Hid (CB wr w.heap.size cs 43) := hC
      have HS : Hid (cs.size = len * 3) := hsz
      have HCS : Hid (∀ j, j < k → cs[j * 3]? = some (.int .i64 (c j).op) ∧ cs[j * 3 + 1]? = some (.int .i64 (c j).sh) ∧ cs[j * 3 + 2]? = some (.int .i64 (c j).st)) := hcs
      have HB : Hid (Below w.heap.size w wr) := hB
      clear hC hsz hcs hB
      go_wp2_with (go_at_call 33; refine (toMA3_any _ _ _ _).mono ?_; rintro e w1 ⟨rfl, b1⟩; have X1 : CB w1 w.heap.size cs 43 := HC.out.below b1 HC.out.lt; have y0 := (X1.cell (k * 3)).trans d0; have f0 := X1.fr (k * 3); have y1 := (X1.cell (k * 3 + 1)).trans d1; have f1 := X1.fr (k * 3 + 1); have y2 := (X1.cell (k * 3 + 2)).trans d2; have f2 := X1.fr (k * 3 + 2); have HX : Hid (CB w1 w.heap.size cs 43) := X1; have HB1 : Hid (Below w.heap.size w w1) := bel_on HB.out b1; clear X1 b1)
      go_roundw
      case rel =>
        refine ⟨k + 1, (((cs.setIfInBounds (k * 3) (.int .i64 (c k).op)).setIfInBounds (k * 3 + 1) (.int .i64 (c k).sh)).setIfInBounds (k * 3 + 2) (.int .i64 (c k).st)), by omega, by go_num, (((HX.out.set _ _).set _ _).set _ _), by simp [HS.out], fun j hj => ?_, (((HB1.out.setCell (by simp) _).setCell (by simp) _).setCell (by simp) _)⟩
        have hs := HS.out
        by_cases hjk : j = k
        · subst hjk
          refine ⟨?_, ?_, ?_⟩
          · rw [get_set_ne (by omega), get_set_ne (by omega), get_set_eq (by (try simp); omega)]
          · rw [get_set_ne (by omega), get_set_eq (by (try simp); omega)]
          · rw [get_set_eq (by (try simp); omega)]
        · have hj2 := HCS.out j (by omega)
          obtain ⟨y0, y1, y2⟩ := hj2
          refine ⟨?_, ?_, ?_⟩ <;> (rw [get_set_ne (by omega), get_set_ne (by omega), get_set_ne (by omega)]; assumption)
      case measure => simp [intOf]; omega
    · obtain rfl : k = len := by omega
      have lkk : ¬ (k : Int) < (k : Int) := by omega
      have HI : Hid (MAr wr (some ⟨w.heap.size, 0, none⟩) k c) := MAr.of_block hC k c hcs
      have HX : Hid (∃ cs, CB wr w.heap.size cs 43 ∧ cs.size = k * 3) := ⟨cs, hC, hsz⟩
      have HB : Hid (Below w.heap.size w wr) := hB
      clear hC hcs hB
      go_wp2
      go_returns
      exact ⟨rfl, ⟨HI.out, HX.out⟩, HB.out⟩

set_option maxRecDepth 20000 in
set_option maxHeartbeats 4000000 in
theorem eqMA3S_same (ad be : Option Addr) (len cap cap2 : Nat) (c : Nat → MA3) (w : World) (h : (len : Int) ≤ 1048576) (h1 : MAr w ad len c) (h2 : MAr w be len c) :
    Calls Try.prog 30 #[.slice ad len cap, .slice be len cap2] w fun e w' => e = .returned (.bool true) ∧ Below w.heap.size w w' := by
  have H1 : Hid (MAr w ad len c) := h1
  have H2 : Hid (MAr w be len c) := h2
  clear h1 h2
  go_enter Try.func30, Try.ntmps30
  go_wp2
  go_loopw [5] (fun i wr => ∃ (k : Nat), k ≤ len ∧ i = .int .i64 (k : Int) ∧ Below w.heap.size w wr) (fun i _ => len - (intOf i).toNat)
  case atStart => exact ⟨0, Nat.zero_le _, rfl, Below.refl _ _⟩
  case round =>
    obtain ⟨k, hk, rfl, hB⟩ := hrel
    by_cases hlt : k < len
    · have hlt2 : (k : Int) < (len : Int) := by omega
      obtain ⟨kb, off, rfl, _⟩ := H1.out.addr (by omega)
      obtain ⟨kb2, off2, rfl, _⟩ := H2.out.addr (by omega)
      have A1 := (H1.out.below hB).cell hlt
      have A2 := (H2.out.below hB).cell hlt
      generalize c k = x at A1 A2
      obtain ⟨x0, x1, x2⟩ := x
      obtain ⟨c0, c1, c2⟩ := A1
      obtain ⟨e0, e1, e2⟩ := A2
      simp only at c0 c1 c2 e0 e1 e2
      have hBd : Below w.heap.size w wr.drew := hB.drew
      clear hB
      go_wp2
      go_region_held3 (fun w' => (w'.cell? ⟨kb, off + k * 3, none⟩ = some (.int .i64 x0) ∧ w'.cell? ⟨kb, off + k * 3 + 1, none⟩ = some (.int .i64 x1) ∧ w'.cell? ⟨kb, off + k * 3 + 2, none⟩ = some (.int .i64 x2)) ∧ (w'.cell? ⟨kb2, off2 + k * 3, none⟩ = some (.int .i64 x0) ∧ w'.cell? ⟨kb2, off2 + k * 3 + 1, none⟩ = some (.int .i64 x1) ∧ w'.cell? ⟨kb2, off2 + k * 3 + 2, none⟩ = some (.int .i64 x2)) ∧ Below w.heap.size w w')
        (refine ⟨⟨?_, ?_, ?_⟩, ⟨?_, ?_, ?_⟩, ?_⟩ <;> first | assumption | (simp [*]; done))
        (first
        | (go_at_call 75; refine (eqMA3_same _ _ _ _).mono ?_; rintro e w2 ⟨rfl, b2⟩; have q0_0 : w2.cell? ⟨kb, off + k * 3, none⟩ = some (.int .i64 x0) := keep_cell b2 (by simp [*]); have q0_1 : w2.cell? ⟨kb, off + k * 3 + 1, none⟩ = some (.int .i64 x1) := keep_cell b2 (by simp [*]); have q0_2 : w2.cell? ⟨kb, off + k * 3 + 2, none⟩ = some (.int .i64 x2) := keep_cell b2 (by simp [*]); have q1_0 : w2.cell? ⟨kb2, off2 + k * 3, none⟩ = some (.int .i64 x0) := keep_cell b2 (by simp [*]); have q1_1 : w2.cell? ⟨kb2, off2 + k * 3 + 1, none⟩ = some (.int .i64 x1) := keep_cell b2 (by simp [*]); have q1_2 : w2.cell? ⟨kb2, off2 + k * 3 + 2, none⟩ = some (.int .i64 x2) := keep_cell b2 (by simp [*]); have q4 : Below w.heap.size w w2 := bel_on (by assumption) b2))
      go_wp2
      go_roundw
      case rel => exact ⟨k + 1, by omega, by go_num, q4⟩
      case measure => simp [intOf]; omega
    · obtain rfl : k = len := by omega
      have lkk : ¬ (k : Int) < (k : Int) := by omega
      have HB : Hid (Below w.heap.size w wr) := hB
      clear hB
      go_wp2
      go_returns
      exact ⟨rfl, HB.out⟩

theorem MA3_of {H : Type} {enc : TypeId × Value → H} {P : Program} {w : World} {sp : Nat → Bool} {held : Bool} {t e : TypeId} {f0 f1 f2 : Field} {ad : Option Addr} {len cap : Nat} {d : DataW H} {p : List MemPlace}
    (ht : P.underlying t = some (.slice e)) (he : P.underlying e = some (.struct #[f0, f1, f2])) (ce : P.cellsOf e = 3)
    (ho : f0.offset = 0 ∧ f1.offset = 1 ∧ f2.offset = 2) (hc : P.cellsOf f0.type = 1 ∧ P.cellsOf f1.type = 1 ∧ P.cellsOf f2.type = 1)
    (t0 : P.underlying f0.type = some (.int .i64)) (t1 : P.underlying f1.type = some (.int .i64)) (t2 : P.underlying f2.type = some (.int .i64))
    (h : DataW.Trod enc P w 0 sp held t (.slice ad len cap) d p) : ∃ c : Nat → MA3, len ≤ maxLen ∧ MAr w ad len c := by
  obtain ⟨ho0, ho1, ho2⟩ := ho
  obtain ⟨hc0, hc1, hc2⟩ := hc
  obtain ⟨hl, h0 | ⟨b, off, e1, hb, hx⟩⟩ := structs_of ht he ce (by omega) (fun i f hf => by
    match i, hf with
    | 0, hf => simp at hf; subst hf; exact ⟨ho0, hc0, by omega⟩
    | 1, hf => simp at hf; subst hf; exact ⟨ho1, hc1, by omega⟩
    | 2, hf => simp at hf; subst hf; exact ⟨ho2, hc2, by omega⟩
    | n + 3, hf => simp at hf) h
  · exact ⟨fun _ => ⟨0, 0, 0⟩, hl, .inl h0⟩
  · have gi : ∀ (f : Field) (i : Nat), P.underlying f.type = some (.int .i64) → (∀ j, j < len → ∃ v fuel y, w.cell? ⟨b, off + j * 3 + i, none⟩ = some v ∧ DataW.trod enc P w 0 sp held fuel f.type [v] = some y) → ∀ j, ∃ x : Int, (Lit.int .i64 x).wf = true ∧ (j < len → w.cell? ⟨b, off + j * 3 + i, none⟩ = some (.int .i64 x)) := fun f i tf hh j => by
      by_cases hj : j < len
      · obtain ⟨v, fuel, y, hv, hy⟩ := hh j hj
        obtain ⟨u, eu, _, hwf⟩ := DataW.trod_int tf hy
        have ev : v = .int .i64 u := by simpa using eu
        subst ev
        exact ⟨u, hwf, fun _ => hv⟩
      · exact ⟨0, by decide, fun h => absurd h hj⟩
    have gs : ∀ (f : Field) (i : Nat), P.underlying f.type = some .string → (∀ j, j < len → ∃ v fuel y, w.cell? ⟨b, off + j * 3 + i, none⟩ = some v ∧ DataW.trod enc P w 0 sp held fuel f.type [v] = some y) → ∀ j, ∃ x : ByteArray, x.size ≤ maxLen ∧ (j < len → w.cell? ⟨b, off + j * 3 + i, none⟩ = some (.string x)) := fun f i tf hh j => by
      by_cases hj : j < len
      · obtain ⟨v, fuel, y, hv, hy⟩ := hh j hj
        obtain ⟨u, eu, _, hu⟩ := DataW.trod_string tf hy
        have ev : v = .string u := by simpa using eu
        subst ev
        exact ⟨u, hu, fun _ => hv⟩
      · exact ⟨ByteArray.empty, Nat.zero_le _, fun h => absurd h hj⟩
    have k0 := gi f0 0 t0 (fun j hj => hx j hj 0 f0 rfl)
    have k1 := gi f1 1 t1 (fun j hj => hx j hj 1 f1 rfl)
    have k2 := gi f2 2 t2 (fun j hj => hx j hj 2 f2 rfl)
    refine ⟨fun j => ⟨Classical.choose (k0 j), Classical.choose (k1 j), Classical.choose (k2 j)⟩, hl, .inr ⟨b, off, e1, hb, fun j hj => ⟨?_, ?_, ?_⟩⟩⟩
    · exact (Classical.choose_spec (k0 j)).2 hj
    · exact (Classical.choose_spec (k1 j)).2 hj
    · exact (Classical.choose_spec (k2 j)).2 hj

theorem szMA3S_any (ad : Option Addr) (len cap : Nat) (L : Int) (w : World) (g0 : 0 ≤ L) (g1 : L ≤ 1048576) (hl : (len : Int) ≤ 9223372036854775807) :
    Calls Try.prog 24 #[.slice ad len cap, .int .i64 L] w fun e w' => ∃ v : Int, e = .returned (.int .i64 v) ∧ (v = -1 ∨ (0 ≤ v ∧ v ≤ 1048576 ∧ (len : Int) ≤ 1048576)) ∧ w' = w := by
  by_cases h : (len : Int) ≤ L
  · have h2 : ¬ L - (len : Int) < 0 := by omega
    go_enter Try.func24, Try.ntmps24
    go_wp2
    go_returns
    exact ⟨L - (len : Int), rfl, .inr ⟨by omega, by omega, by omega⟩, rfl⟩
  · have h2 : L - (len : Int) < 0 := by omega
    go_enter Try.func24, Try.ntmps24
    go_wp2
    go_returns
    exact ⟨-1, rfl, .inl rfl, rfl⟩
end Go.Proofs.Ytogolmbgboihdaa
