/- Rows of Slot in memory; the laws' own functions over them: sizes, copies, likeness; rows that came in. -/
import Derived.Test.YtogolmbgboihdaaRf
import Derived.Test.YtogolmbgboihdaaNm
import Derived.Deep.RegionHeld3
import Derived.Deep.RegionWith
import Derived.Outline
import Derived.Handy
import Derived.Laws.EntriesVeiled
namespace Go.Proofs.Ytogolmbgboihdaa
open Go.ChangeShapes Go.WideShapes Go.ChangeAt Go.RowKit
set_option linter.unusedVariables false
set_option linter.unusedSimpArgs false

structure SL5 where
  job : Int
  tsk : Int
  mac : Int
  beg : Int
  fin : Int
def AtSL (w : World) (k o : Nat) (c : SL5) : Prop :=
  w.cell? ⟨k, o, none⟩ = some (.int .i64 c.job) ∧ w.cell? ⟨k, o + 1, none⟩ = some (.int .i64 c.tsk) ∧ w.cell? ⟨k, o + 2, none⟩ = some (.int .i64 c.mac) ∧ w.cell? ⟨k, o + 3, none⟩ = some (.int .i64 c.beg) ∧ w.cell? ⟨k, o + 4, none⟩ = some (.int .i64 c.fin)
theorem AtSL.block {w w' : World} {k o : Nat} {c : SL5} (h : AtSL w k o c) (hb : w'.heap[k]? = w.heap[k]?) : AtSL w' k o c := by
  have e : ∀ o, w'.cell? ⟨k, o, none⟩ = w.cell? ⟨k, o, none⟩ := fun o => World.cell?_of_block (w := w) hb
  unfold AtSL; rw [e, e, e, e, e]; exact h
def SLr (w : World) (ad : Option Addr) (len : Nat) (c : Nat → SL5) : Prop :=
  len = 0 ∨ ∃ k off, ad = some ⟨k, off, none⟩ ∧ k < w.heap.size ∧ ∀ j, j < len → AtSL w k (off + j * 5) (c j)
theorem SLr.below {w w' : World} {ad : Option Addr} {len : Nat} {c : Nat → SL5} (H : SLr w ad len c) (t : Below w.heap.size w w') : SLr w' ad len c := by
  rcases H with h | ⟨k, off, e, hk, hc⟩
  · exact .inl h
  · exact .inr ⟨k, off, e, Nat.lt_of_lt_of_le hk t.size, fun j hj => (hc j hj).block (t.block k hk)⟩
theorem SLr.alloc {w : World} {ad : Option Addr} {len : Nat} {c : Nat → SL5} (H : SLr w ad len c) (o : Obj) : SLr (w.alloc o) ad len c := H.below ((Below.refl _ _).alloc (Nat.le_refl _) o)
theorem SLr.drewN {w : World} {ad : Option Addr} {len : Nat} {c : Nat → SL5} (H : SLr w ad len c) (q : Nat) : SLr (w.drewN q) ad len c := H
theorem SLr.cell {w : World} {k off len : Nat} {c : Nat → SL5} (H : SLr w (some ⟨k, off, none⟩) len c) {j : Nat} (hj : j < len) : AtSL w k (off + j * 5) (c j) := by
  rcases H with h | ⟨k', off', e, hk, hc⟩
  · omega
  · simp only [Option.some.injEq, Addr.mk.injEq] at e
    obtain ⟨rfl, rfl, _⟩ := e
    exact hc j hj
theorem SLr.addr {w : World} {ad : Option Addr} {len : Nat} {c : Nat → SL5} (H : SLr w ad len c) (h : 0 < len) : ∃ k off, ad = some ⟨k, off, none⟩ ∧ k < w.heap.size := by
  rcases H with h' | ⟨k', off', e, hk, hc⟩
  · omega
  · exact ⟨k', off', e, hk⟩
theorem SLr.mono {w : World} {ad : Option Addr} {len n : Nat} {c : Nat → SL5} (H : SLr w ad len c) (h : n ≤ len) : SLr w ad n c := by
  rcases H with h' | ⟨k', off', e, hk, hc⟩
  · exact .inl (by omega)
  · exact .inr ⟨k', off', e, hk, fun j hj => hc j (by omega)⟩
theorem SLr.other {w : World} {ad : Option Addr} {len : Nat} {c : Nat → SL5} (H : SLr w ad len c) {b o : Nat} (u : Value) (h : ∀ k off, ad = some ⟨k, off, none⟩ → k ≠ b) : SLr (w.setCell ⟨b, o, none⟩ u) ad len c := by
  rcases H with h' | ⟨k', off', e, hk, hc⟩
  · exact .inl h'
  · exact .inr ⟨k', off', e, by simpa using hk, fun j hj => (hc j hj).block (Below.heap_setCell _ _ _ _ (by simpa using h _ _ e))⟩

theorem SLr.of_block {w : World} {b : Nat} {cs : Array Value} {t : TypeId} (H : CB w b cs t) (n : Nat) (c : Nat → SL5) (h : ∀ j, j < n → cs[j * 5]? = some (.int .i64 (c j).job) ∧ cs[j * 5 + 1]? = some (.int .i64 (c j).tsk) ∧ cs[j * 5 + 2]? = some (.int .i64 (c j).mac) ∧ cs[j * 5 + 3]? = some (.int .i64 (c j).beg) ∧ cs[j * 5 + 4]? = some (.int .i64 (c j).fin)) : SLr w (some ⟨b, 0, none⟩) n c :=
  .inr ⟨b, 0, rfl, H.lt, fun j hj => by unfold AtSL; rw [Nat.zero_add, H.cell, H.cell, H.cell, H.cell, H.cell]; exact h j hj⟩
def zerosSL5 (n : Nat) : Array Value := madeCells #[.int .i64 0, .int .i64 0, .int .i64 0, .int .i64 0, .int .i64 0] (n * 5)
theorem zerosSL5_size (n : Nat) : (zerosSL5 n).size = n * 5 := size_madeCells _ _

set_option maxRecDepth 100000 in
theorem mkSL5 (n : Nat) (h : (n : Int) ≤ 1048576) (w : World) : (Instr.makeSlice 29 (.int .i64 (n : Int)) (.int .i64 (n : Int))).run Try.prog w = .ok (.slice (some ⟨w.heap.size, 0, none⟩) n n) (w.alloc (.cells (zerosSL5 n) 36)) := by
  obtain ⟨i, hi⟩ : ∃ i, Try.prog.info? 36 = some i := ⟨_, rfl⟩
  have hz : i.zero = some (.agg #[.int .i64 0, .int .i64 0, .int .i64 0, .int .i64 0, .int .i64 0]) := by
    have : (Try.prog.info? 36).bind (·.zero) = some (.agg #[.int .i64 0, .int .i64 0, .int .i64 0, .int .i64 0, .int .i64 0]) := by kernel_rfl
    rw [hi] at this; exact this
  have hs : i.size = 5 := by
    have : (Try.prog.info? 36).map (·.size) = some 5 := by kernel_rfl
    rw [hi] at this; simpa using this
  have hb : i.bytes = 40 := by
    have : (Try.prog.info? 36).map (·.bytes) = some 40 := by kernel_rfl
    rw [hi] at this; simpa using this
  have hr := run_make (P := Try.prog) w 29 36 i (.agg #[.int .i64 0, .int .i64 0, .int .i64 0, .int .i64 0, .int .i64 0]) Try.underlying29 hi hz .i64 .i64 n n (by omega) (by omega) (by rw [hb]; omega) (by omega)
  simp only [Int.toNat_natCast, hs] at hr
  exact hr

theorem toSL5_any (x0 : Int) (x1 : Int) (x2 : Int) (x3 : Int) (x4 : Int) (w : World) : Calls Try.prog 82 #[.agg #[.int .i64 x0, .int .i64 x1, .int .i64 x2, .int .i64 x3, .int .i64 x4]] w fun e w' => e = .returned (.agg #[.int .i64 x0, .int .i64 x1, .int .i64 x2, .int .i64 x3, .int .i64 x4]) ∧ Below w.heap.size w w' := by
  go_enter Try.func82, Try.ntmps82
  go_wp2
  go_returns
  exact ⟨rfl, by go_grown⟩
theorem eqSL5_same (x0 : Int) (x1 : Int) (x2 : Int) (x3 : Int) (x4 : Int) (w : World) : Calls Try.prog 78 #[.agg #[.int .i64 x0, .int .i64 x1, .int .i64 x2, .int .i64 x3, .int .i64 x4], .agg #[.int .i64 x0, .int .i64 x1, .int .i64 x2, .int .i64 x3, .int .i64 x4]] w fun e w' => e = .returned (.bool true) ∧ Below w.heap.size w w' := by
  go_enter Try.func78, Try.ntmps78
  go_wp2
  go_returns
  exact ⟨rfl, by go_grown⟩

set_option maxRecDepth 20000 in
set_option maxHeartbeats 4000000 in
theorem toSL5S_any (ad : Option Addr) (len cap : Nat) (c : Nat → SL5) (w : World) (h : (len : Int) ≤ 1048576) (hr : SLr w ad len c) :
    Calls Try.prog 46 #[.slice ad len cap] w fun e w' => e = .returned (.slice (some ⟨w.heap.size, 0, none⟩) len len) ∧ (SLr w' (some ⟨w.heap.size, 0, none⟩) len c ∧ ∃ cs, CB w' w.heap.size cs 36 ∧ cs.size = len * 5) ∧ Below w.heap.size w w' := by
  have HR : Hid (SLr w ad len c) := hr
  have hmk := mkSL5 len h
  clear hr
  go_enter Try.func46, Try.ntmps46
  go_wp2
  go_loopw [4] (fun i wr => ∃ (k : Nat) (cs : Array Value), k ≤ len ∧ i = .int .i64 (k : Int) ∧ CB wr w.heap.size cs 36 ∧ cs.size = len * 5 ∧ (∀ j, j < k → cs[j * 5]? = some (.int .i64 (c j).job) ∧ cs[j * 5 + 1]? = some (.int .i64 (c j).tsk) ∧ cs[j * 5 + 2]? = some (.int .i64 (c j).mac) ∧ cs[j * 5 + 3]? = some (.int .i64 (c j).beg) ∧ cs[j * 5 + 4]? = some (.int .i64 (c j).fin)) ∧ Below w.heap.size w wr) (fun i _ => len - (intOf i).toNat)
  case atStart => exact ⟨0, zerosSL5 len, Nat.zero_le _, rfl, CB.new _ _, zerosSL5_size _, fun j hj => by omega, (Below.refl _ _).alloc (Nat.le_refl _) _⟩
  case round =>
    obtain ⟨k, cs, hk, rfl, hC, hsz, hcs, hB⟩ := hrel
    by_cases hlt : k < len
    · have hlt2 : (k : Int) < (len : Int) := by omega
      obtain ⟨kb, off, rfl, hkb⟩ := HR.out.addr (by omega)
      obtain ⟨c0, c1, c2, c3, c4⟩ := (HR.out.below hB).cell hlt
      obtain ⟨v0, d0⟩ : ∃ v, cs[k * 5]? = some v := ⟨cs[k * 5]'(by omega), Array.getElem?_eq_getElem (by omega)⟩
      obtain ⟨v1, d1⟩ : ∃ v, cs[k * 5 + 1]? = some v := ⟨cs[k * 5 + 1]'(by omega), Array.getElem?_eq_getElem (by omega)⟩
      obtain ⟨v2, d2⟩ : ∃ v, cs[k * 5 + 2]? = some v := ⟨cs[k * 5 + 2]'(by omega), Array.getElem?_eq_getElem (by omega)⟩
      obtain ⟨v3, d3⟩ : ∃ v, cs[k * 5 + 3]? = some v := ⟨cs[k * 5 + 3]'(by omega), Array.getElem?_eq_getElem (by omega)⟩
      obtain ⟨v4, d4⟩ : ∃ v, cs[k * 5 + 4]? = some v := ⟨cs[k * 5 + 4]'(by omega), Array.getElem?_eq_getElem (by omega)⟩
      have HC : Hid (CB wr w.heap.size cs 36) := hC
      have HS : Hid (cs.size = len * 5) := hsz
      have HCS : Hid (∀ j, j < k → cs[j * 5]? = some (.int .i64 (c j).job) ∧ cs[j * 5 + 1]? = some (.int .i64 (c j).tsk) ∧ cs[j * 5 + 2]? = some (.int .i64 (c j).mac) ∧ cs[j * 5 + 3]? = some (.int .i64 (c j).beg) ∧ cs[j * 5 + 4]? = some (.int .i64 (c j).fin)) := hcs
      have HB : Hid (Below w.heap.size w wr) := hB
      clear hC hsz hcs hB
      go_wp2_with (go_at_call 82; refine (toSL5_any _ _ _ _ _ _).mono ?_; rintro e w1 ⟨rfl, b1⟩; have X1 : CB w1 w.heap.size cs 36 := HC.out.below b1 HC.out.lt; have y0 := (X1.cell (k * 5)).trans d0; have f0 := X1.fr (k * 5); have y1 := (X1.cell (k * 5 + 1)).trans d1; have f1 := X1.fr (k * 5 + 1); have y2 := (X1.cell (k * 5 + 2)).trans d2; have f2 := X1.fr (k * 5 + 2); have y3 := (X1.cell (k * 5 + 3)).trans d3; have f3 := X1.fr (k * 5 + 3); have y4 := (X1.cell (k * 5 + 4)).trans d4; have f4 := X1.fr (k * 5 + 4); have HX : Hid (CB w1 w.heap.size cs 36) := X1; have HB1 : Hid (Below w.heap.size w w1) := bel_on HB.out b1; clear X1 b1)
      go_roundw
      case rel =>
        refine ⟨k + 1, (((((cs.setIfInBounds (k * 5) (.int .i64 (c k).job)).setIfInBounds (k * 5 + 1) (.int .i64 (c k).tsk)).setIfInBounds (k * 5 + 2) (.int .i64 (c k).mac)).setIfInBounds (k * 5 + 3) (.int .i64 (c k).beg)).setIfInBounds (k * 5 + 4) (.int .i64 (c k).fin)), by omega, by go_num, (((((HX.out.set _ _).set _ _).set _ _).set _ _).set _ _), by simp [HS.out], fun j hj => ?_, (((((HB1.out.setCell (by simp) _).setCell (by simp) _).setCell (by simp) _).setCell (by simp) _).setCell (by simp) _)⟩
        have hs := HS.out
        by_cases hjk : j = k
        · subst hjk
          refine ⟨?_, ?_, ?_, ?_, ?_⟩
          · rw [get_set_ne (by omega), get_set_ne (by omega), get_set_ne (by omega), get_set_ne (by omega), get_set_eq (by (try simp); omega)]
          · rw [get_set_ne (by omega), get_set_ne (by omega), get_set_ne (by omega), get_set_eq (by (try simp); omega)]
          · rw [get_set_ne (by omega), get_set_ne (by omega), get_set_eq (by (try simp); omega)]
          · rw [get_set_ne (by omega), get_set_eq (by (try simp); omega)]
          · rw [get_set_eq (by (try simp); omega)]
        · have hj2 := HCS.out j (by omega)
          obtain ⟨y0, y1, y2, y3, y4⟩ := hj2
          refine ⟨?_, ?_, ?_, ?_, ?_⟩ <;> (rw [get_set_ne (by omega), get_set_ne (by omega), get_set_ne (by omega), get_set_ne (by omega), get_set_ne (by omega)]; assumption)
      case measure => simp [intOf]; omega
    · obtain rfl : k = len := by omega
      have lkk : ¬ (k : Int) < (k : Int) := by omega
      have HI : Hid (SLr wr (some ⟨w.heap.size, 0, none⟩) k c) := SLr.of_block hC k c hcs
      have HX : Hid (∃ cs, CB wr w.heap.size cs 36 ∧ cs.size = k * 5) := ⟨cs, hC, hsz⟩
      have HB : Hid (Below w.heap.size w wr) := hB
      clear hC hcs hB
      go_wp2
      go_returns
      exact ⟨rfl, ⟨HI.out, HX.out⟩, HB.out⟩

set_option maxRecDepth 20000 in
set_option maxHeartbeats 4000000 in
theorem eqSL5S_same (ad be : Option Addr) (len cap cap2 : Nat) (c : Nat → SL5) (w : World) (h : (len : Int) ≤ 1048576) (h1 : SLr w ad len c) (h2 : SLr w be len c) :
    Calls Try.prog 35 #[.slice ad len cap, .slice be len cap2] w fun e w' => e = .returned (.bool true) ∧ Below w.heap.size w w' := by
  have H1 : Hid (SLr w ad len c) := h1
  have H2 : Hid (SLr w be len c) := h2
  clear h1 h2
  go_enter Try.func35, Try.ntmps35
  go_wp2
  go_loopw [5] (fun i wr => ∃ (k : Nat), k ≤ len ∧ i = .int .i64 (k : Int) ∧ Below w.heap.size w wr) (fun i _ => len - (intOf i).toNat)
  case atStart => exact ⟨0, Nat.zero_le _, rfl, Below.refl _ _⟩
  case round =>
    obtain ⟨k, hk, rfl, hB⟩ := hrel
    by_cases hlt : k < len
    · have hlt2 : (k : Int) < (len : Int) := by omega
      obtain ⟨kb, off, rfl, _⟩ := H1.out.addr (by omega)
      obtain ⟨kb2, off2, rfl, _⟩ := H2.out.addr (by omega)
      have A1 := (H1.out.below hB).cell hlt
      have A2 := (H2.out.below hB).cell hlt
      generalize c k = x at A1 A2
      obtain ⟨x0, x1, x2, x3, x4⟩ := x
      obtain ⟨c0, c1, c2, c3, c4⟩ := A1
      obtain ⟨e0, e1, e2, e3, e4⟩ := A2
      simp only at c0 c1 c2 c3 c4 e0 e1 e2 e3 e4
      have hBd : Below w.heap.size w wr.drew := hB.drew
      clear hB
      go_wp2
      go_region_held3 (fun w' => (w'.cell? ⟨kb, off + k * 5, none⟩ = some (.int .i64 x0) ∧ w'.cell? ⟨kb, off + k * 5 + 1, none⟩ = some (.int .i64 x1) ∧ w'.cell? ⟨kb, off + k * 5 + 2, none⟩ = some (.int .i64 x2) ∧ w'.cell? ⟨kb, off + k * 5 + 3, none⟩ = some (.int .i64 x3) ∧ w'.cell? ⟨kb, off + k * 5 + 4, none⟩ = some (.int .i64 x4)) ∧ (w'.cell? ⟨kb2, off2 + k * 5, none⟩ = some (.int .i64 x0) ∧ w'.cell? ⟨kb2, off2 + k * 5 + 1, none⟩ = some (.int .i64 x1) ∧ w'.cell? ⟨kb2, off2 + k * 5 + 2, none⟩ = some (.int .i64 x2) ∧ w'.cell? ⟨kb2, off2 + k * 5 + 3, none⟩ = some (.int .i64 x3) ∧ w'.cell? ⟨kb2, off2 + k * 5 + 4, none⟩ = some (.int .i64 x4)) ∧ Below w.heap.size w w')
        (refine ⟨⟨?_, ?_, ?_, ?_, ?_⟩, ⟨?_, ?_, ?_, ?_, ?_⟩, ?_⟩ <;> first | assumption | (simp [*]; done))
        (first
        | (go_at_call 78; refine (eqSL5_same _ _ _ _ _ _).mono ?_; rintro e w2 ⟨rfl, b2⟩; have q0_0 : w2.cell? ⟨kb, off + k * 5, none⟩ = some (.int .i64 x0) := keep_cell b2 (by simp [*]); have q0_1 : w2.cell? ⟨kb, off + k * 5 + 1, none⟩ = some (.int .i64 x1) := keep_cell b2 (by simp [*]); have q0_2 : w2.cell? ⟨kb, off + k * 5 + 2, none⟩ = some (.int .i64 x2) := keep_cell b2 (by simp [*]); have q0_3 : w2.cell? ⟨kb, off + k * 5 + 3, none⟩ = some (.int .i64 x3) := keep_cell b2 (by simp [*]); have q0_4 : w2.cell? ⟨kb, off + k * 5 + 4, none⟩ = some (.int .i64 x4) := keep_cell b2 (by simp [*]); have q1_0 : w2.cell? ⟨kb2, off2 + k * 5, none⟩ = some (.int .i64 x0) := keep_cell b2 (by simp [*]); have q1_1 : w2.cell? ⟨kb2, off2 + k * 5 + 1, none⟩ = some (.int .i64 x1) := keep_cell b2 (by simp [*]); have q1_2 : w2.cell? ⟨kb2, off2 + k * 5 + 2, none⟩ = some (.int .i64 x2) := keep_cell b2 (by simp [*]); have q1_3 : w2.cell? ⟨kb2, off2 + k * 5 + 3, none⟩ = some (.int .i64 x3) := keep_cell b2 (by simp [*]); have q1_4 : w2.cell? ⟨kb2, off2 + k * 5 + 4, none⟩ = some (.int .i64 x4) := keep_cell b2 (by simp [*]); have q4 : Below w.heap.size w w2 := bel_on (by assumption) b2))
      go_wp2
      go_roundw
      case rel => exact ⟨k + 1, by omega, by go_num, q4⟩
      case measure => simp [intOf]; omega
    · obtain rfl : k = len := by omega
      have lkk : ¬ (k : Int) < (k : Int) := by omega
      have HB : Hid (Below w.heap.size w wr) := hB
      clear hB
      go_wp2
      go_returns
      exact ⟨rfl, HB.out⟩

theorem SL5_of {H : Type} {enc : TypeId × Value → H} {P : Program} {w : World} {sp : Nat → Bool} {held : Bool} {t e : TypeId} {f0 f1 f2 f3 f4 : Field} {ad : Option Addr} {len cap : Nat} {d : DataW H} {p : List MemPlace}
    (ht : P.underlying t = some (.slice e)) (he : P.underlying e = some (.struct #[f0, f1, f2, f3, f4])) (ce : P.cellsOf e = 5)
    (ho : f0.offset = 0 ∧ f1.offset = 1 ∧ f2.offset = 2 ∧ f3.offset = 3 ∧ f4.offset = 4) (hc : P.cellsOf f0.type = 1 ∧ P.cellsOf f1.type = 1 ∧ P.cellsOf f2.type = 1 ∧ P.cellsOf f3.type = 1 ∧ P.cellsOf f4.type = 1)
    (t0 : P.underlying f0.type = some (.int .i64)) (t1 : P.underlying f1.type = some (.int .i64)) (t2 : P.underlying f2.type = some (.int .i64)) (t3 : P.underlying f3.type = some (.int .i64)) (t4 : P.underlying f4.type = some (.int .i64))
    (h : DataW.Trod enc P w 0 sp held t (.slice ad len cap) d p) : ∃ c : Nat → SL5, len ≤ maxLen ∧ SLr w ad len c := by
  obtain ⟨ho0, ho1, ho2, ho3, ho4⟩ := ho
  obtain ⟨hc0, hc1, hc2, hc3, hc4⟩ := hc
  obtain ⟨hl, h0 | ⟨b, off, e1, hb, hx⟩⟩ := structs_of ht he ce (by omega) (fun i f hf => by
    match i, hf with
    | 0, hf => simp at hf; subst hf; exact ⟨ho0, hc0, by omega⟩
    | 1, hf => simp at hf; subst hf; exact ⟨ho1, hc1, by omega⟩
    | 2, hf => simp at hf; subst hf; exact ⟨ho2, hc2, by omega⟩
    | 3, hf => simp at hf; subst hf; exact ⟨ho3, hc3, by omega⟩
    | 4, hf => simp at hf; subst hf; exact ⟨ho4, hc4, by omega⟩
    | n + 5, hf => simp at hf) h
  · exact ⟨fun _ => ⟨0, 0, 0, 0, 0⟩, hl, .inl h0⟩
  · have gi : ∀ (f : Field) (i : Nat), P.underlying f.type = some (.int .i64) → (∀ j, j < len → ∃ v fuel y, w.cell? ⟨b, off + j * 5 + i, none⟩ = some v ∧ DataW.trod enc P w 0 sp held fuel f.type [v] = some y) → ∀ j, ∃ x : Int, (Lit.int .i64 x).wf = true ∧ (j < len → w.cell? ⟨b, off + j * 5 + i, none⟩ = some (.int .i64 x)) := fun f i tf hh j => by
      by_cases hj : j < len
      · obtain ⟨v, fuel, y, hv, hy⟩ := hh j hj
        obtain ⟨u, eu, _, hwf⟩ := DataW.trod_int tf hy
        have ev : v = .int .i64 u := by simpa using eu
        subst ev
        exact ⟨u, hwf, fun _ => hv⟩
      · exact ⟨0, by decide, fun h => absurd h hj⟩
    have gs : ∀ (f : Field) (i : Nat), P.underlying f.type = some .string → (∀ j, j < len → ∃ v fuel y, w.cell? ⟨b, off + j * 5 + i, none⟩ = some v ∧ DataW.trod enc P w 0 sp held fuel f.type [v] = some y) → ∀ j, ∃ x : ByteArray, x.size ≤ maxLen ∧ (j < len → w.cell? ⟨b, off + j * 5 + i, none⟩ = some (.string x)) := fun f i tf hh j => by
      by_cases hj : j < len
      · obtain ⟨v, fuel, y, hv, hy⟩ := hh j hj
        obtain ⟨u, eu, _, hu⟩ := DataW.trod_string tf hy
        have ev : v = .string u := by simpa using eu
        subst ev
        exact ⟨u, hu, fun _ => hv⟩
      · exact ⟨ByteArray.empty, Nat.zero_le _, fun h => absurd h hj⟩
    have k0 := gi f0 0 t0 (fun j hj => hx j hj 0 f0 rfl)
    have k1 := gi f1 1 t1 (fun j hj => hx j hj 1 f1 rfl)
    have k2 := gi f2 2 t2 (fun j hj => hx j hj 2 f2 rfl)
    have k3 := gi f3 3 t3 (fun j hj => hx j hj 3 f3 rfl)
    have k4 := gi f4 4 t4 (fun j hj => hx j hj 4 f4 rfl)
    refine ⟨fun j => ⟨Classical.choose (k0 j), Classical.choose (k1 j), Classical.choose (k2 j), Classical.choose (k3 j), Classical.choose (k4 j)⟩, hl, .inr ⟨b, off, e1, hb, fun j hj => ⟨?_, ?_, ?_, ?_, ?_⟩⟩⟩
    · exact (Classical.choose_spec (k0 j)).2 hj
    · exact (Classical.choose_spec (k1 j)).2 hj
    · exact (Classical.choose_spec (k2 j)).2 hj
    · exact (Classical.choose_spec (k3 j)).2 hj
    · exact (Classical.choose_spec (k4 j)).2 hj

theorem szSL5S_any (ad : Option Addr) (len cap : Nat) (L : Int) (w : World) (g0 : 0 ≤ L) (g1 : L ≤ 1048576) (hl : (len : Int) ≤ 9223372036854775807) :
    Calls Try.prog 44 #[.slice ad len cap, .int .i64 L] w fun e w' => ∃ v : Int, e = .returned (.int .i64 v) ∧ (v = -1 ∨ (0 ≤ v ∧ v ≤ 1048576 ∧ (len : Int) ≤ 1048576)) ∧ w' = w := by
  by_cases h : (len : Int) ≤ L
  · have h2 : ¬ L - (len : Int) < 0 := by omega
    go_enter Try.func44, Try.ntmps44
    go_wp2
    go_returns
    exact ⟨L - (len : Int), rfl, .inr ⟨by omega, by omega, by omega⟩, rfl⟩
  · have h2 : L - (len : Int) < 0 := by omega
    go_enter Try.func44, Try.ntmps44
    go_wp2
    go_returns
    exact ⟨-1, rfl, .inl rfl, rfl⟩
end Go.Proofs.Ytogolmbgboihdaa
