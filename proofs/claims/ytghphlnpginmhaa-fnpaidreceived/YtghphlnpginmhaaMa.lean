/- Rows of MatchLine in memory; the laws' own functions over them: sizes, copies, likeness; rows that came in. -/
import Derived.Test.YtghphlnpginmhaaRf
import Derived.Test.YtghphlnpginmhaaNm
import Derived.Deep.RegionHeld3
import Derived.Deep.RegionWith
import Derived.Outline
import Derived.Handy
import Derived.Laws.EntriesVeiled
namespace Go.Proofs.Ytghphlnpginmhaa
open Go.ChangeShapes Go.WideShapes Go.ChangeAt Go.RowKit
set_option linter.unusedVariables false
set_option linter.unusedSimpArgs false

structure ML4 where
  got : Int
  billed : Int
  due : Int
  state : Int
def AtML (w : World) (k o : Nat) (c : ML4) : Prop :=
  w.cell? ⟨k, o, none⟩ = some (.int .i64 c.got) ∧ w.cell? ⟨k, o + 1, none⟩ = some (.int .i64 c.billed) ∧ w.cell? ⟨k, o + 2, none⟩ = some (.int .i64 c.due) ∧ w.cell? ⟨k, o + 3, none⟩ = some (.int .i64 c.state)
theorem AtML.block {w w' : World} {k o : Nat} {c : ML4} (h : AtML w k o c) (hb : w'.heap[k]? = w.heap[k]?) : AtML w' k o c := by
  have e : ∀ o, w'.cell? ⟨k, o, none⟩ = w.cell? ⟨k, o, none⟩ := fun o => World.cell?_of_block (w := w) hb
  unfold AtML; rw [e, e, e, e]; exact h
def MLr (w : World) (ad : Option Addr) (len : Nat) (c : Nat → ML4) : Prop :=
  len = 0 ∨ ∃ k off, ad = some ⟨k, off, none⟩ ∧ k < w.heap.size ∧ ∀ j, j < len → AtML w k (off + j * 4) (c j)
theorem MLr.below {w w' : World} {ad : Option Addr} {len : Nat} {c : Nat → ML4} (H : MLr w ad len c) (t : Below w.heap.size w w') : MLr w' ad len c := by
  rcases H with h | ⟨k, off, e, hk, hc⟩
  · exact .inl h
  · exact .inr ⟨k, off, e, Nat.lt_of_lt_of_le hk t.size, fun j hj => (hc j hj).block (t.block k hk)⟩
theorem MLr.alloc {w : World} {ad : Option Addr} {len : Nat} {c : Nat → ML4} (H : MLr w ad len c) (o : Obj) : MLr (w.alloc o) ad len c := H.below ((Below.refl _ _).alloc (Nat.le_refl _) o)
theorem MLr.drewN {w : World} {ad : Option Addr} {len : Nat} {c : Nat → ML4} (H : MLr w ad len c) (q : Nat) : MLr (w.drewN q) ad len c := H
theorem MLr.cell {w : World} {k off len : Nat} {c : Nat → ML4} (H : MLr w (some ⟨k, off, none⟩) len c) {j : Nat} (hj : j < len) : AtML w k (off + j * 4) (c j) := by
  rcases H with h | ⟨k', off', e, hk, hc⟩
  · omega
  · simp only [Option.some.injEq, Addr.mk.injEq] at e
    obtain ⟨rfl, rfl, _⟩ := e
    exact hc j hj
theorem MLr.addr {w : World} {ad : Option Addr} {len : Nat} {c : Nat → ML4} (H : MLr w ad len c) (h : 0 < len) : ∃ k off, ad = some ⟨k, off, none⟩ ∧ k < w.heap.size := by
  rcases H with h' | ⟨k', off', e, hk, hc⟩
  · omega
  · exact ⟨k', off', e, hk⟩
theorem MLr.mono {w : World} {ad : Option Addr} {len n : Nat} {c : Nat → ML4} (H : MLr w ad len c) (h : n ≤ len) : MLr w ad n c := by
  rcases H with h' | ⟨k', off', e, hk, hc⟩
  · exact .inl (by omega)
  · exact .inr ⟨k', off', e, hk, fun j hj => hc j (by omega)⟩
theorem MLr.other {w : World} {ad : Option Addr} {len : Nat} {c : Nat → ML4} (H : MLr w ad len c) {b o : Nat} (u : Value) (h : ∀ k off, ad = some ⟨k, off, none⟩ → k ≠ b) : MLr (w.setCell ⟨b, o, none⟩ u) ad len c := by
  rcases H with h' | ⟨k', off', e, hk, hc⟩
  · exact .inl h'
  · exact .inr ⟨k', off', e, by simpa using hk, fun j hj => (hc j hj).block (Below.heap_setCell _ _ _ _ (by simpa using h _ _ e))⟩

theorem MLr.of_block {w : World} {b : Nat} {cs : Array Value} {t : TypeId} (H : CB w b cs t) (n : Nat) (c : Nat → ML4) (h : ∀ j, j < n → cs[j * 4]? = some (.int .i64 (c j).got) ∧ cs[j * 4 + 1]? = some (.int .i64 (c j).billed) ∧ cs[j * 4 + 2]? = some (.int .i64 (c j).due) ∧ cs[j * 4 + 3]? = some (.int .i64 (c j).state)) : MLr w (some ⟨b, 0, none⟩) n c :=
  .inr ⟨b, 0, rfl, H.lt, fun j hj => by unfold AtML; rw [Nat.zero_add, H.cell, H.cell, H.cell, H.cell]; exact h j hj⟩
def zerosML4 (n : Nat) : Array Value := madeCells #[.int .i64 0, .int .i64 0, .int .i64 0, .int .i64 0] (n * 4)
theorem zerosML4_size (n : Nat) : (zerosML4 n).size = n * 4 := size_madeCells _ _

set_option maxRecDepth 100000 in
theorem mkML4 (n : Nat) (h : (n : Int) ≤ 1048576) (w : World) : (Instr.makeSlice 43 (.int .i64 (n : Int)) (.int .i64 (n : Int))).run Try.prog w = .ok (.slice (some ⟨w.heap.size, 0, none⟩) n n) (w.alloc (.cells (zerosML4 n) 47)) := by
  obtain ⟨i, hi⟩ : ∃ i, Try.prog.info? 47 = some i := ⟨_, rfl⟩
  have hz : i.zero = some (.agg #[.int .i64 0, .int .i64 0, .int .i64 0, .int .i64 0]) := by
    have : (Try.prog.info? 47).bind (·.zero) = some (.agg #[.int .i64 0, .int .i64 0, .int .i64 0, .int .i64 0]) := by kernel_rfl
    rw [hi] at this; exact this
  have hs : i.size = 4 := by
    have : (Try.prog.info? 47).map (·.size) = some 4 := by kernel_rfl
    rw [hi] at this; simpa using this
  have hb : i.bytes = 32 := by
    have : (Try.prog.info? 47).map (·.bytes) = some 32 := by kernel_rfl
    rw [hi] at this; simpa using this
  have hr := run_make (P := Try.prog) w 43 47 i (.agg #[.int .i64 0, .int .i64 0, .int .i64 0, .int .i64 0]) Try.underlying43 hi hz .i64 .i64 n n (by omega) (by omega) (by rw [hb]; omega) (by omega)
  simp only [Int.toNat_natCast, hs] at hr
  exact hr

theorem eqML4_same (x0 : Int) (x1 : Int) (x2 : Int) (x3 : Int) (w : World) : Calls Try.prog 112 #[.agg #[.int .i64 x0, .int .i64 x1, .int .i64 x2, .int .i64 x3], .agg #[.int .i64 x0, .int .i64 x1, .int .i64 x2, .int .i64 x3]] w fun e w' => e = .returned (.bool true) ∧ Below w.heap.size w w' := by
  go_enter Try.func112, Try.ntmps112
  go_wp2
  go_returns
  exact ⟨rfl, by go_grown⟩

set_option maxRecDepth 20000 in
set_option maxHeartbeats 4000000 in
theorem eqML4S_same (ad be : Option Addr) (len cap cap2 : Nat) (c : Nat → ML4) (w : World) (h : (len : Int) ≤ 1048576) (h1 : MLr w ad len c) (h2 : MLr w be len c) :
    Calls Try.prog 51 #[.slice ad len cap, .slice be len cap2] w fun e w' => e = .returned (.bool true) ∧ Below w.heap.size w w' := by
  have H1 : Hid (MLr w ad len c) := h1
  have H2 : Hid (MLr w be len c) := h2
  clear h1 h2
  go_enter Try.func51, Try.ntmps51
  go_wp2
  go_loopw [5] (fun i wr => ∃ (k : Nat), k ≤ len ∧ i = .int .i64 (k : Int) ∧ Below w.heap.size w wr) (fun i _ => len - (intOf i).toNat)
  case atStart => exact ⟨0, Nat.zero_le _, rfl, Below.refl _ _⟩
  case round =>
    obtain ⟨k, hk, rfl, hB⟩ := hrel
    by_cases hlt : k < len
    · have hlt2 : (k : Int) < (len : Int) := by omega
      obtain ⟨kb, off, rfl, _⟩ := H1.out.addr (by omega)
      obtain ⟨kb2, off2, rfl, _⟩ := H2.out.addr (by omega)
      have A1 := (H1.out.below hB).cell hlt
      have A2 := (H2.out.below hB).cell hlt
      generalize c k = x at A1 A2
      obtain ⟨x0, x1, x2, x3⟩ := x
      obtain ⟨c0, c1, c2, c3⟩ := A1
      obtain ⟨e0, e1, e2, e3⟩ := A2
      simp only at c0 c1 c2 c3 e0 e1 e2 e3
      have hBd : Below w.heap.size w wr.drew := hB.drew
      clear hB
      go_wp2
      go_region_held3 (fun w' => (w'.cell? ⟨kb, off + k * 4, none⟩ = some (.int .i64 x0) ∧ w'.cell? ⟨kb, off + k * 4 + 1, none⟩ = some (.int .i64 x1) ∧ w'.cell? ⟨kb, off + k * 4 + 2, none⟩ = some (.int .i64 x2) ∧ w'.cell? ⟨kb, off + k * 4 + 3, none⟩ = some (.int .i64 x3)) ∧ (w'.cell? ⟨kb2, off2 + k * 4, none⟩ = some (.int .i64 x0) ∧ w'.cell? ⟨kb2, off2 + k * 4 + 1, none⟩ = some (.int .i64 x1) ∧ w'.cell? ⟨kb2, off2 + k * 4 + 2, none⟩ = some (.int .i64 x2) ∧ w'.cell? ⟨kb2, off2 + k * 4 + 3, none⟩ = some (.int .i64 x3)) ∧ Below w.heap.size w w')
        (refine ⟨⟨?_, ?_, ?_, ?_⟩, ⟨?_, ?_, ?_, ?_⟩, ?_⟩ <;> first | assumption | (simp [*]; done))
        (first
        | (go_at_call 112; refine (eqML4_same _ _ _ _ _).mono ?_; rintro e w2 ⟨rfl, b2⟩; have q0_0 : w2.cell? ⟨kb, off + k * 4, none⟩ = some (.int .i64 x0) := keep_cell b2 (by simp [*]); have q0_1 : w2.cell? ⟨kb, off + k * 4 + 1, none⟩ = some (.int .i64 x1) := keep_cell b2 (by simp [*]); have q0_2 : w2.cell? ⟨kb, off + k * 4 + 2, none⟩ = some (.int .i64 x2) := keep_cell b2 (by simp [*]); have q0_3 : w2.cell? ⟨kb, off + k * 4 + 3, none⟩ = some (.int .i64 x3) := keep_cell b2 (by simp [*]); have q1_0 : w2.cell? ⟨kb2, off2 + k * 4, none⟩ = some (.int .i64 x0) := keep_cell b2 (by simp [*]); have q1_1 : w2.cell? ⟨kb2, off2 + k * 4 + 1, none⟩ = some (.int .i64 x1) := keep_cell b2 (by simp [*]); have q1_2 : w2.cell? ⟨kb2, off2 + k * 4 + 2, none⟩ = some (.int .i64 x2) := keep_cell b2 (by simp [*]); have q1_3 : w2.cell? ⟨kb2, off2 + k * 4 + 3, none⟩ = some (.int .i64 x3) := keep_cell b2 (by simp [*]); have q4 : Below w.heap.size w w2 := bel_on (by assumption) b2))
      go_wp2
      go_roundw
      case rel => exact ⟨k + 1, by omega, by go_num, q4⟩
      case measure => simp [intOf]; omega
    · obtain rfl : k = len := by omega
      have lkk : ¬ (k : Int) < (k : Int) := by omega
      have HB : Hid (Below w.heap.size w wr) := hB
      clear hB
      go_wp2
      go_returns
      exact ⟨rfl, HB.out⟩

theorem ML4_of {H : Type} {enc : TypeId × Value → H} {P : Program} {w : World} {sp : Nat → Bool} {held : Bool} {t e : TypeId} {f0 f1 f2 f3 : Field} {ad : Option Addr} {len cap : Nat} {d : DataW H} {p : List MemPlace}
    (ht : P.underlying t = some (.slice e)) (he : P.underlying e = some (.struct #[f0, f1, f2, f3])) (ce : P.cellsOf e = 4)
    (ho : f0.offset = 0 ∧ f1.offset = 1 ∧ f2.offset = 2 ∧ f3.offset = 3) (hc : P.cellsOf f0.type = 1 ∧ P.cellsOf f1.type = 1 ∧ P.cellsOf f2.type = 1 ∧ P.cellsOf f3.type = 1)
    (t0 : P.underlying f0.type = some (.int .i64)) (t1 : P.underlying f1.type = some (.int .i64)) (t2 : P.underlying f2.type = some (.int .i64)) (t3 : P.underlying f3.type = some (.int .i64))
    (h : DataW.Trod enc P w 0 sp held t (.slice ad len cap) d p) : ∃ c : Nat → ML4, len ≤ maxLen ∧ MLr w ad len c := by
  obtain ⟨ho0, ho1, ho2, ho3⟩ := ho
  obtain ⟨hc0, hc1, hc2, hc3⟩ := hc
  obtain ⟨hl, h0 | ⟨b, off, e1, hb, hx⟩⟩ := structs_of ht he ce (by omega) (fun i f hf => by
    match i, hf with
    | 0, hf => simp at hf; subst hf; exact ⟨ho0, hc0, by omega⟩
    | 1, hf => simp at hf; subst hf; exact ⟨ho1, hc1, by omega⟩
    | 2, hf => simp at hf; subst hf; exact ⟨ho2, hc2, by omega⟩
    | 3, hf => simp at hf; subst hf; exact ⟨ho3, hc3, by omega⟩
    | n + 4, hf => simp at hf) h
  · exact ⟨fun _ => ⟨0, 0, 0, 0⟩, hl, .inl h0⟩
  · have gi : ∀ (f : Field) (i : Nat), P.underlying f.type = some (.int .i64) → (∀ j, j < len → ∃ v fuel y, w.cell? ⟨b, off + j * 4 + i, none⟩ = some v ∧ DataW.trod enc P w 0 sp held fuel f.type [v] = some y) → ∀ j, ∃ x : Int, (Lit.int .i64 x).wf = true ∧ (j < len → w.cell? ⟨b, off + j * 4 + i, none⟩ = some (.int .i64 x)) := fun f i tf hh j => by
      by_cases hj : j < len
      · obtain ⟨v, fuel, y, hv, hy⟩ := hh j hj
        obtain ⟨u, eu, _, hwf⟩ := DataW.trod_int tf hy
        have ev : v = .int .i64 u := by simpa using eu
        subst ev
        exact ⟨u, hwf, fun _ => hv⟩
      · exact ⟨0, by decide, fun h => absurd h hj⟩
    have gs : ∀ (f : Field) (i : Nat), P.underlying f.type = some .string → (∀ j, j < len → ∃ v fuel y, w.cell? ⟨b, off + j * 4 + i, none⟩ = some v ∧ DataW.trod enc P w 0 sp held fuel f.type [v] = some y) → ∀ j, ∃ x : ByteArray, x.size ≤ maxLen ∧ (j < len → w.cell? ⟨b, off + j * 4 + i, none⟩ = some (.string x)) := fun f i tf hh j => by
      by_cases hj : j < len
      · obtain ⟨v, fuel, y, hv, hy⟩ := hh j hj
        obtain ⟨u, eu, _, hu⟩ := DataW.trod_string tf hy
        have ev : v = .string u := by simpa using eu
        subst ev
        exact ⟨u, hu, fun _ => hv⟩
      · exact ⟨ByteArray.empty, Nat.zero_le _, fun h => absurd h hj⟩
    have k0 := gi f0 0 t0 (fun j hj => hx j hj 0 f0 rfl)
    have k1 := gi f1 1 t1 (fun j hj => hx j hj 1 f1 rfl)
    have k2 := gi f2 2 t2 (fun j hj => hx j hj 2 f2 rfl)
    have k3 := gi f3 3 t3 (fun j hj => hx j hj 3 f3 rfl)
    refine ⟨fun j => ⟨Classical.choose (k0 j), Classical.choose (k1 j), Classical.choose (k2 j), Classical.choose (k3 j)⟩, hl, .inr ⟨b, off, e1, hb, fun j hj => ⟨?_, ?_, ?_, ?_⟩⟩⟩
    · exact (Classical.choose_spec (k0 j)).2 hj
    · exact (Classical.choose_spec (k1 j)).2 hj
    · exact (Classical.choose_spec (k2 j)).2 hj
    · exact (Classical.choose_spec (k3 j)).2 hj

end Go.Proofs.Ytghphlnpginmhaa
