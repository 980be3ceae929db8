/- The laws' own functions over rows of whole numbers. -/
import Derived.Test.YtoihiamafbokbaaDoorTh
import Derived.Test.YtoihiamafbokbaaDoorTo
import Derived.WalkSpells
namespace Go.Proofs.YtoihiamafbokbaaDoor
open Go.ChangeShapes Go.WideShapes Go.ChangeAt Go.RowKit
set_option linter.unusedVariables false
set_option linter.unusedSimpArgs false

theorem row_below {w w' : World} {base : Nat} {e : TypeId} {size : Nat} {v : Value} {n : Nat} {xs : List Value} (h : w.ownsRow base e size v n xs) (k : Below w.heap.size w w') : w'.ownsRow base e size v n xs := row_block h (fun g hg => k.block g (h.lt g hg).2)
theorem row_IR {w : World} {base m cap : Nat} {ad : Option Addr} {xs : List Value} {z : Nat → Int} (h : w.ownsRow base 3 1 (.slice ad m cap) m xs) (hz : ∀ j, j < m → xs[j]? = some (.int .i64 (z j))) : IR w ad m z := by
  by_cases h0 : m = 0
  · exact .inl h0
  · obtain ⟨g, cp, e, hlt, _, hc⟩ := row_get h (j := 0) (by omega)
    simp only [Value.slice.injEq] at e
    refine .inr ⟨g, 0, e.1, hlt, fun j hj => ?_⟩
    rw [Nat.zero_add, hc j hj, hz j hj]
/-- A row of whole numbers in a block of the call's own, and what else is left. -/
theorem row_block_of {w : World} {base m : Nat} {v : Value} {xs : List Value} (h : w.ownsRow base 3 1 v m xs) (hm : 0 < m) : ∃ g cap cur, v = .slice (some ⟨g, 0, none⟩) m cap ∧ base ≤ g ∧ CB w g cur 3 ∧ m ≤ cur.size := by
  rcases h.2 with ⟨rfl, rfl⟩ | ⟨g, cap, cur, rfl, hb', hgg, h1, h2, h3, h4⟩
  · omega
  · exact ⟨g, cap, cur, rfl, hb', hgg, by omega⟩
set_option maxRecDepth 20000 in
set_option maxHeartbeats 2000000 in
theorem eqIntS_same (ad be : Option Addr) (len cap cap2 : Nat) (z : Nat → Int) (w : World) (h : (len : Int) ≤ 1048576) (h1 : IR w ad len z) (h2 : IR w be len z) :
    Calls Tryd.prog 12 #[.slice ad len cap, .slice be len cap2] w fun e w' => e = .returned (.bool true) ∧ Below w.heap.size w w' := by
  have H1 : Hid (IR w ad len z) := h1
  have H2 : Hid (IR w be len z) := h2
  clear h1 h2
  go_enter Tryd.func12, Tryd.ntmps12
  go_wp2
  go_loopw [5] (fun i wr => ∃ (k q : Nat), k ≤ len ∧ i = .int .i64 (k : Int) ∧ wr = w.drewN q) (fun i _ => len - (intOf i).toNat)
  case atStart => exact ⟨0, 0, Nat.zero_le _, rfl, rfl⟩
  case round =>
    obtain ⟨k, q, hk, rfl, rfl⟩ := hrel
    by_cases hlt : k < len
    · obtain ⟨kb, off, rfl, _⟩ := H1.out.addr (by omega)
      obtain ⟨kb2, off2, rfl, _⟩ := H2.out.addr (by omega)
      have c1 := H1.out.cell hlt
      have c2 := H2.out.cell hlt
      generalize z k = y at c1 c2
      have hlt2 : (k : Int) < (len : Int) := by omega
      go_wp2
      go_quiet (fail)
      go_wp2
      go_roundw
      case rel => exact ⟨k + 1, q + nq, by omega, by go_num, rfl⟩
      case measure => simp [intOf]; omega
    · go_wp2
      go_returns
      exact ⟨rfl, ⟨rfl, rfl, rfl, Nat.le_refl _, fun _ _ => rfl⟩⟩
set_option maxRecDepth 20000 in
set_option maxHeartbeats 2000000 in
theorem heldIntS_any (ad : Option Addr) (len cap : Nat) (w : World) (h : (len : Int) ≤ 1048576) (h1 : IR w ad len (fun j => (j : Int) + 1)) :
    Calls Tryd.prog 15 #[.slice ad len cap, .int .i64 1] w fun e w' => e = .returned (.int .i64 ((len : Int) + 1)) ∧ w' = w := by
  have H1 : Hid (IR w ad len (fun j => (j : Int) + 1)) := h1
  clear h1
  go_enter Tryd.func15, Tryd.ntmps15
  go_wp2
  go_loop [1, 5] (fun u i => ∃ (k : Nat), k ≤ len ∧ i = .int .i64 (k : Int) ∧ u = .int .i64 ((k : Int) + 1)) (fun u i => len - (intOf i).toNat)
  case atStart => exact ⟨0, Nat.zero_le _, rfl, rfl⟩
  case round =>
    obtain ⟨k, hk, rfl, rfl⟩ := hrel
    by_cases hlt : k < len
    · obtain ⟨kb, off, rfl, _⟩ := H1.out.addr (by omega)
      have c1 := H1.out.cell hlt
      have hlt2 : (k : Int) < (len : Int) := by omega
      go_wp2
      go_round
      case rel => exact ⟨k + 1, by omega, by go_num, by go_num⟩
      case measure => simp [intOf]; omega
    · obtain rfl : k = len := by omega
      go_wp2
      go_returns
      exact ⟨rfl, rfl⟩
set_option maxRecDepth 20000 in
set_option maxHeartbeats 2000000 in
theorem markIntS_any (ad : Option Addr) (len cap base : Nat) (xs : List Value) (w : World) (h : (len : Int) ≤ 1048576) (h1 : w.ownsRow base 3 1 (.slice ad len cap) len xs) :
    Calls Tryd.prog 14 #[.slice ad len cap, .int .i64 1] w fun e w' => e = .returned (.int .i64 ((len : Int) + 1)) ∧ IR w' ad len (fun j => (j : Int) + 1) ∧ (∀ y, y < w.heap.size → some y ≠ Value.ownBlock (.slice ad len cap) → w'.heap[y]? = w.heap[y]?) ∧ Below base w w' := by
  by_cases h0 : len = 0
  · subst h0
    go_enter Tryd.func14, Tryd.ntmps14
    go_wp2
    refine wp_loop_rounds 1 ?_
    rw [rounds_succ]
    go_wp2
    go_returns
    exact ⟨rfl, .inl rfl, fun _ _ _ => rfl, Below.refl _ _⟩
  obtain ⟨g, cp, cur, e, hbg, hC, hsz⟩ := row_block_of h1 (by omega)
  obtain ⟨rfl, rfl⟩ : ad = some ⟨g, 0, none⟩ ∧ cap = cp := by simp only [Value.slice.injEq] at e; exact ⟨e.1, e.2.2⟩
  have HC : Hid (CB w g cur 3) := hC
  clear hC e h1
  go_enter Tryd.func14, Tryd.ntmps14
  go_wp2
  go_loopw [1, 5] (fun u i wr => ∃ (k : Nat) (cs : Array Value), k ≤ len ∧ i = .int .i64 (k : Int) ∧ u = .int .i64 ((k : Int) + 1) ∧ CB wr g cs 3 ∧ len ≤ cs.size ∧ (∀ j, j < k → cs[j]? = some (.int .i64 ((j : Int) + 1))) ∧ (∀ y, y ≠ g → wr.heap[y]? = w.heap[y]?) ∧ Below base w wr) (fun u i _ => len - (intOf i).toNat)
  case atStart => exact ⟨0, cur, Nat.zero_le _, rfl, rfl, HC.out, hsz, fun j hj => by omega, fun y hy => rfl, Below.refl _ _⟩
  case round =>
    obtain ⟨k, cs, hk, rfl, rfl, hC, hs, hcs, hkeep, hB⟩ := hrel
    by_cases hlt : k < len
    · have hlt2 : (k : Int) < (len : Int) := by omega
      obtain ⟨v1, d1⟩ : ∃ v, cs[k]? = some v := ⟨cs[k]'(by omega), Array.getElem?_eq_getElem (by omega)⟩
      have x1 := (hC.cell k).trans d1
      have f1 := hC.fr k
      have HN : Hid (CB (wr.setCell ⟨g, k, none⟩ (.int .i64 ((k : Int) + 1))) g (cs.setIfInBounds k (.int .i64 ((k : Int) + 1))) 3 ∧ len ≤ (cs.setIfInBounds k (.int .i64 ((k : Int) + 1))).size ∧ (∀ j, j < k + 1 → (cs.setIfInBounds k (.int .i64 ((k : Int) + 1)))[j]? = some (.int .i64 ((j : Int) + 1))) ∧ (∀ y, y ≠ g → (wr.setCell ⟨g, k, none⟩ (.int .i64 ((k : Int) + 1))).heap[y]? = w.heap[y]?) ∧ Below base w (wr.setCell ⟨g, k, none⟩ (.int .i64 ((k : Int) + 1)))) := by
        refine ⟨hC.set _ _, by simpa using hs, fun j hj => ?_, fun y hy => (heap_set hy).trans (hkeep y hy), hB.setCell hbg _⟩
        by_cases e : j = k
        · subst e; rw [get_set_eq (by omega)]
        · rw [get_set_ne (by omega)]; exact hcs j (by omega)
      clear hC hs hcs hkeep hB d1
      go_wp2
      go_roundw
      case rel =>
        obtain ⟨z1, z2, z3, z4, z5⟩ := HN.out
        exact ⟨k + 1, _, by omega, by go_num, by go_num, z1, z2, z3, z4, z5⟩
      case measure => simp [intOf]; omega
    · obtain rfl : k = len := by omega
      have HN : Hid (IR wr (some ⟨g, 0, none⟩) k (fun j => (j : Int) + 1) ∧ (∀ y, y < w.heap.size → some y ≠ Value.ownBlock (.slice (some ⟨g, 0, none⟩) k cap) → wr.heap[y]? = w.heap[y]?) ∧ Below base w wr) :=
        ⟨IR.of_block hC k _ hcs, fun y _ hy => hkeep y (fun q => hy (by rw [q]; rfl)), hB⟩
      clear hC hs hcs hkeep hB
      go_wp2
      go_returns
      exact ⟨rfl, HN.out.1, HN.out.2.1, HN.out.2.2⟩
def zeros (n : Nat) : Array Value := madeCells #[.int .i64 0] n
theorem zeros_size (n : Nat) : (zeros n).size = n := size_madeCells _ _
set_option maxRecDepth 100000 in
theorem mkI (n : Nat) (h : (n : Int) ≤ 1048576) (w : World) : (Instr.makeSlice 35 (.int .i64 (n : Int)) (.int .i64 (n : Int))).run Tryd.prog w = .ok (.slice (some ⟨w.heap.size, 0, none⟩) n n) (w.alloc (.cells (zeros n) 3)) := by
  obtain ⟨i, hi⟩ : ∃ i, Tryd.prog.info? 3 = some i := ⟨_, rfl⟩
  have hz : i.zero = some (.int .i64 0) := by
    have : (Tryd.prog.info? 3).bind (·.zero) = some (.int .i64 0) := by kernel_rfl
    rw [hi] at this; exact this
  have hs : i.size = 1 := by
    have : (Tryd.prog.info? 3).map (·.size) = some 1 := by kernel_rfl
    rw [hi] at this; simpa using this
  have hb : i.bytes = 8 := by
    have : (Tryd.prog.info? 3).map (·.bytes) = some 8 := by kernel_rfl
    rw [hi] at this; simpa using this
  have hr := run_make (P := Tryd.prog) w 35 3 i (.int .i64 0) Tryd.underlying35 hi hz .i64 .i64 n n (by omega) (by omega) (by rw [hb]; omega) (by omega)
  simp only [Int.toNat_natCast, hs, Nat.mul_one] at hr
  exact hr
set_option maxHeartbeats 1000000 in
theorem toIntS_any (ad : Option Addr) (len cap : Nat) (z : Nat → Int) (w : World) (h : (len : Int) ≤ 1048576) (hr : IR w ad len z) :
    Calls Tryd.prog 48 #[.slice ad len cap] w fun e w' => e = .returned (.slice (some ⟨w.heap.size, 0, none⟩) len len) ∧ (IR w' (some ⟨w.heap.size, 0, none⟩) len z ∧ ∃ cs, CB w' w.heap.size cs 3 ∧ cs.size = len) ∧ Below w.heap.size w w' := by
  have HR : Hid (IR w ad len z) := hr
  have hmk := mkI len h
  clear hr
  go_enter Tryd.func48, Tryd.ntmps48
  go_wp2
  go_loopw [4] (fun i wr => ∃ (k : Nat) (cs : Array Value), k ≤ len ∧ i = .int .i64 (k : Int) ∧ CB wr w.heap.size cs 3 ∧ cs.size = len ∧ (∀ j, j < k → cs[j]? = some (.int .i64 (z j))) ∧ Below w.heap.size w wr) (fun i _ => len - (intOf i).toNat)
  case atStart => exact ⟨0, zeros len, Nat.zero_le _, rfl, CB.new _ _, zeros_size _, fun j hj => by omega, (Below.refl _ _).alloc (Nat.le_refl _) _⟩
  case round =>
    obtain ⟨k, cs, hk, rfl, hC, hsz, hcs, hB⟩ := hrel
    by_cases hlt : k < len
    · obtain ⟨kb, off, rfl, hkb⟩ := HR.out.addr (by omega)
      have c1 : wr.cell? ⟨kb, off + k, none⟩ = some (.int .i64 (z k)) := (HR.out.below hB).cell hlt
      have c2 : ∃ v, wr.cell? ⟨w.heap.size, k, none⟩ = some v := ⟨cs[k]'(by omega), by rw [hC.cell]; simp [hsz, hlt]⟩
      obtain ⟨v2, c2⟩ := c2
      have f2 := hC.fr k
      have HC : Hid (CB wr w.heap.size cs 3) := hC
      have HS : Hid (cs.size = len) := hsz
      have HCS : Hid (∀ j, j < k → cs[j]? = some (.int .i64 (z j))) := hcs
      have HB : Hid (Below w.heap.size w wr) := hB
      clear hC hsz hcs hB
      go_wp2
      go_roundw
      case rel =>
        refine ⟨k + 1, cs.setIfInBounds k (.int .i64 (z k)), by omega, by go_num, HC.out.set k _, by simp [HS.out], fun j hj => ?_, HB.out.setCell (by simp) _⟩
        rw [Array.getElem?_setIfInBounds]
        have := HS.out
        by_cases hjk : k = j
        · subst hjk; simp [this, hlt]
        · rw [if_neg hjk]; exact HCS.out j (by omega)
      case measure => simp [intOf]; omega
    · obtain rfl : k = len := by omega
      have HI : Hid (IR wr (some ⟨w.heap.size, 0, none⟩) k z) := IR.of_block hC k z hcs
      have HX : Hid (∃ cs, CB wr w.heap.size cs 3 ∧ cs.size = k) := ⟨cs, hC, hsz⟩
      have HB : Hid (Below w.heap.size w wr) := hB
      clear hC hcs hB
      go_wp2
      go_returns
      exact ⟨rfl, ⟨HI.out, HX.out⟩, HB.out⟩
end Go.Proofs.YtoihiamafbokbaaDoor
