/- The laws' own functions over rows of texts: sizes, copies, likeness, marks; rows of texts that came in. -/
import Derived.Test.YtdhpadcihlmhiaaDoorUb
import Derived.Deep.QuietTactic
namespace Go.Proofs.YtdhpadcihlmhiaaDoor
open Go.ChangeShapes Go.WideShapes Go.ChangeAt Go.RowKit
set_option linter.unusedVariables false
set_option linter.unusedSimpArgs false

set_option maxRecDepth 20000 in
set_option maxHeartbeats 2000000 in
theorem szStr_any (ad : Option Addr) (len cap : Nat) (z : Nat → ByteArray) (L0 : Int) (w : World) (g0 : 0 ≤ L0) (g1 : L0 ≤ 1048576) (hl : (len : Int) ≤ 9223372036854775807) (hc : ∀ j, ((z j).size : Int) ≤ 9223372036854775807) (hr : STR w ad len z) :
    Calls Tryd.prog 119 #[.slice ad len cap, .int .i64 L0] w fun e w' => ∃ v : Int, e = .returned (.int .i64 v) ∧ (v = -1 ∨ (0 ≤ v ∧ v ≤ 1048576 ∧ (len : Int) ≤ 1048576)) ∧ w' = w := by
  have HR : Hid (STR w ad len z) := hr
  have HC : Hid (∀ j, ((z j).size : Int) ≤ 9223372036854775807) := hc
  clear hr hc
  by_cases h : (len : Int) ≤ L0
  · have h2 : (0 : Int) ≤ L0 - (len : Int) := by omega
    go_enter Tryd.func119, Tryd.ntmps119
    go_wp2
    go_loop [1, 5] (fun l i => ∃ (k : Nat) (L : Int), k ≤ len ∧ i = .int .i64 (k : Int) ∧ l = .int .i64 L ∧ 0 ≤ L ∧ L ≤ 1048576) (fun _ i => len - (intOf i).toNat)
    case atStart => exact ⟨0, _, Nat.zero_le _, rfl, rfl, by omega, by omega⟩
    case round =>
      obtain ⟨k, L, hk, rfl, rfl, hL0, hL1⟩ := hrel
      by_cases hlt : k < len
      · have hlt2 : (k : Int) < (len : Int) := by omega
        obtain ⟨kb, off, rfl, _⟩ := HR.out.addr (by omega)
        have c0 := HR.out.cell hlt
        have hs := HC.out k
        generalize z k = s at c0 hs
        by_cases hsL : (s.size : Int) ≤ L
        · have h3 : ¬ (L - (s.size : Int) < 0) := by omega
          go_wp2
          go_round
          case rel => exact ⟨k + 1, L - (s.size : Int), by omega, by go_num, rfl, by omega, by omega⟩
          case measure => simp [intOf]; omega
        · have h3 : L - (s.size : Int) < 0 := by omega
          go_wp2
          go_returns
          exact ⟨-1, rfl, .inl rfl, rfl⟩
      · obtain rfl : k = len := by omega
        have lkk : ¬ (k : Int) < (k : Int) := by omega
        go_wp2
        go_returns
        exact ⟨L, rfl, .inr ⟨hL0, hL1, by omega⟩, rfl⟩
  · have h3 : L0 - (len : Int) < 0 := by omega
    go_enter Tryd.func119, Tryd.ntmps119
    go_wp2
    go_returns
    exact ⟨-1, rfl, .inl rfl, rfl⟩

def zerosS (n : Nat) : Array Value := madeCells #[.string ByteArray.empty] n
theorem zerosS_size (n : Nat) : (zerosS n).size = n := size_madeCells _ _
set_option maxRecDepth 100000 in
theorem mkStr (n : Nat) (h : (n : Int) ≤ 1048576) (w : World) : (Instr.makeSlice 44 (.int .i64 (n : Int)) (.int .i64 (n : Int))).run Tryd.prog w = .ok (.slice (some ⟨w.heap.size, 0, none⟩) n n) (w.alloc (.cells (zerosS n) 9)) := by
  obtain ⟨i, hi⟩ : ∃ i, Tryd.prog.info? 9 = some i := ⟨_, rfl⟩
  have hz : i.zero = some (.string ByteArray.empty) := by
    have : (Tryd.prog.info? 9).bind (·.zero) = some (.string ByteArray.empty) := by kernel_rfl
    rw [hi] at this; exact this
  have hs : i.size = 1 := by
    have : (Tryd.prog.info? 9).map (·.size) = some 1 := by kernel_rfl
    rw [hi] at this; simpa using this
  have hb : i.bytes = 16 := by
    have : (Tryd.prog.info? 9).map (·.bytes) = some 16 := by kernel_rfl
    rw [hi] at this; simpa using this
  have hr := run_make (P := Tryd.prog) w 44 9 i (.string ByteArray.empty) Tryd.underlying44 hi hz .i64 .i64 n n (by omega) (by omega) (by rw [hb]; omega) (by omega)
  simp only [Int.toNat_natCast, hs, Nat.mul_one] at hr
  exact hr

set_option maxRecDepth 20000 in
set_option maxHeartbeats 2000000 in
theorem toStr_any (ad : Option Addr) (len cap : Nat) (z : Nat → ByteArray) (w : World) (h : (len : Int) ≤ 1048576) (hr : STR w ad len z) :
    Calls Tryd.prog 120 #[.slice ad len cap] w fun e w' => e = .returned (.slice (some ⟨w.heap.size, 0, none⟩) len len) ∧ (STR w' (some ⟨w.heap.size, 0, none⟩) len z ∧ ∃ cs, CB w' w.heap.size cs 9 ∧ cs.size = len) ∧ Below w.heap.size w w' := by
  have HR : Hid (STR w ad len z) := hr
  have hmk := mkStr len h
  clear hr
  go_enter Tryd.func120, Tryd.ntmps120
  go_wp2
  go_loopw [4] (fun i wr => ∃ (k : Nat) (cs : Array Value), k ≤ len ∧ i = .int .i64 (k : Int) ∧ CB wr w.heap.size cs 9 ∧ Hid (cs.size = len ∧ (∀ j, j < k → cs[j]? = some (.string (z j))) ∧ Below w.heap.size w wr)) (fun i _ => len - (intOf i).toNat)
  case atStart => exact ⟨0, zerosS len, Nat.zero_le _, rfl, CB.new _ _, zerosS_size _, fun j hj => by omega, (Below.refl _ _).alloc (Nat.le_refl _) _⟩
  case round =>
    obtain ⟨k, cs, hk, rfl, hC, HH⟩ := hrel
    by_cases hlt : k < len
    · have hlt2 : (k : Int) < (len : Int) := by omega
      obtain ⟨kb, off, rfl, hkb⟩ := HR.out.addr (by omega)
      have c0 := (HR.out.below HH.out.2.2).cell hlt
      have hsz := HH.out.1
      obtain ⟨v0, d0⟩ : ∃ v, cs[k]? = some v := ⟨cs[k]'(by omega), Array.getElem?_eq_getElem (by omega)⟩
      have y0 := (hC.cell k).trans d0
      have f0 := hC.fr k
      have HC : Hid (CB wr w.heap.size cs 9) := hC
      clear hC hsz
      go_wp2
      go_roundw
      case rel =>
        have hs := HH.out.1
        refine ⟨k + 1, _, by omega, by go_num, HC.out.set k _, by simp [hs], fun j hj => ?_, HH.out.2.2.setCell (by simp) _⟩
        by_cases e : j = k
        · subst e; rw [get_set_eq (by omega)]
        · rw [get_set_ne (by omega)]; exact HH.out.2.1 j (by omega)
      case measure => simp [intOf]; omega
    · obtain rfl : k = len := by omega
      have lkk : ¬ (k : Int) < (k : Int) := by omega
      have HI : Hid (STR wr (some ⟨w.heap.size, 0, none⟩) k z ∧ ∃ cs, CB wr w.heap.size cs 9 ∧ cs.size = k) := ⟨STR.of_block hC k z HH.out.2.1, cs, hC, HH.out.1⟩
      clear hC
      go_wp2
      go_returns
      exact ⟨rfl, HI.out, HH.out.2.2⟩

set_option maxRecDepth 20000 in
set_option maxHeartbeats 2000000 in
theorem eqStr_same (ad be : Option Addr) (len cap cap2 : Nat) (z : Nat → ByteArray) (w : World) (h : (len : Int) ≤ 1048576) (h1 : STR w ad len z) (h2 : STR w be len z) :
    Calls Tryd.prog 43 #[.slice ad len cap, .slice be len cap2] w fun e w' => e = .returned (.bool true) ∧ Below w.heap.size w w' := by
  have H1 : Hid (STR w ad len z) := h1
  have H2 : Hid (STR w be len z) := h2
  clear h1 h2
  go_enter Tryd.func43, Tryd.ntmps43
  go_wp2
  go_loopw [5] (fun i wr => ∃ (k q : Nat), k ≤ len ∧ i = .int .i64 (k : Int) ∧ wr = w.drewN q) (fun i _ => len - (intOf i).toNat)
  case atStart => exact ⟨0, 0, Nat.zero_le _, rfl, rfl⟩
  case round =>
    obtain ⟨k, q, hk, rfl, rfl⟩ := hrel
    by_cases hlt : k < len
    · have hlt2 : (k : Int) < (len : Int) := by omega
      obtain ⟨kb, off, rfl, _⟩ := H1.out.addr (by omega)
      obtain ⟨kb2, off2, rfl, _⟩ := H2.out.addr (by omega)
      have c0 := H1.out.cell hlt
      have c1 := H2.out.cell hlt
      generalize z k = s at c0 c1
      have e1 := lists_t (rfl : s = s)
      go_wp2
      go_quiet (fail)
      go_wp2
      go_roundw
      case rel => exact ⟨k + 1, q + nq, by omega, by go_num, rfl⟩
      case measure => simp [intOf]; omega
    · obtain rfl : k = len := by omega
      have lkk : ¬ (k : Int) < (k : Int) := by omega
      go_wp2
      go_returns
      exact ⟨rfl, bd_N (Below.refl _ _) _⟩

theorem strs_of {H : Type} {enc : TypeId × Value → H} {P : Program} {w : World} {sp : Nat → Bool} {held : Bool} {t e : TypeId} {ad : Option Addr} {len cap : Nat} {d : DataW H} {p : List MemPlace}
    (ht : P.underlying t = some (.slice e)) (he : P.underlying e = some .string) (ce : P.cellsOf e = 1)
    (h : DataW.Trod enc P w 0 sp held t (.slice ad len cap) d p) : ∃ z : Nat → ByteArray, len ≤ maxLen ∧ (∀ j, (z j).size ≤ maxLen) ∧ STR w ad len z := by
  obtain ⟨fuel, hf⟩ := h
  rcases Go.Deep.open_slice ht hf with ⟨hcs, _⟩ | ⟨a, l, c, m, k, D, Pl, hcs, _, hl, hm, hmm, _, hx⟩
  · simp [Value.cells] at hcs
    obtain ⟨rfl, rfl, rfl⟩ := hcs
    exact ⟨fun _ => ByteArray.empty, Nat.zero_le _, fun _ => Nat.zero_le _, .inl rfl⟩
  · simp [Value.cells] at hcs
    obtain ⟨rfl, rfl, rfl⟩ := hcs
    have hlm : len ≤ m := by rw [hmm]; split <;> omega
    rw [ce] at hx
    by_cases h0 : len = 0
    · exact ⟨fun _ => ByteArray.empty, Nat.le_trans hl hm, fun _ => Nat.zero_le _, .inl h0⟩
    · obtain ⟨b, off, spot⟩ := a
      have key : ∀ j, j < len → ∃ s : ByteArray, s.size ≤ maxLen ∧ w.cell? ((Addr.mk b off spot).add (j * 1) |>.add 0) = some (.string s) := fun j hj => by
        obtain ⟨cs', h1, h2⟩ := hx j (by omega)
        obtain ⟨_, hlen, hcell⟩ := World.cells?_some h1
        obtain ⟨u, eu, _, hu⟩ := DataW.trod_string he h2
        refine ⟨u, hu, ?_⟩
        rw [hcell 0 (by omega), eu]; rfl
      have hspot : spot = none := by
        obtain ⟨s, _, hv⟩ := key 0 (by omega)
        simpa [Addr.add] using World.cell?_spot hv
      subst hspot
      have hlt : b < w.heap.size := by
        obtain ⟨s, _, hv⟩ := key 0 (by omega)
        simp only [Nat.zero_mul, Addr.add, if_true, World.cell?] at hv
        cases hh : w.heap[b]? with
        | none => simp [hh] at hv
        | some o => exact lt_of_block hh
      have key2 : ∀ j, ∃ s : ByteArray, s.size ≤ maxLen ∧ (j < len → w.cell? ⟨b, off + j, none⟩ = some (.string s)) := fun j => by
        by_cases hj : j < len
        · obtain ⟨s, h1, h2⟩ := key j hj
          refine ⟨s, h1, fun _ => ?_⟩
          rw [← h2]
          congr 1
          simp only [Addr.add]
          by_cases q1 : j = 0 <;> simp [q1]
        · exact ⟨ByteArray.empty, Nat.zero_le _, fun h => absurd h hj⟩
      exact ⟨fun j => Classical.choose (key2 j), Nat.le_trans hl hm, fun j => (Classical.choose_spec (key2 j)).1, .inr ⟨b, off, rfl, hlt, fun j hj => (Classical.choose_spec (key2 j)).2 hj⟩⟩
end Go.Proofs.YtdhpadcihlmhiaaDoor
