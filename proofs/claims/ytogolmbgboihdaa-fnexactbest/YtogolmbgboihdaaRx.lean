/- Rows of whole numbers: owned, compared, copied, marked, looked at again. -/
import Derived.Test.YtogolmbgboihdaaProg
import Derived.Test.YtogolmbgboihdaaTm
import Derived.Test.YtogolmbgboihdaaIr
import Derived.Test.YtogolmbgboihdaaRr
import Derived.WalkLawsBesides
import Derived.Outline
import Derived.Laws.MakeOwn
import Derived.Laws.OwnMore
import Derived.WalkSpells
import Derived.Deep.QuietTactic
import Derived.Deep.RegionWith
import Derived.Deep.DeepFit
import Derived.Lib.SmallJoins
namespace Go.Proofs.Ytogolmbgboihdaa
open Go.ChangeShapes Go.WideShapes Go.ChangeAt Go.RowKit
set_option linter.unusedVariables false
set_option linter.unusedSimpArgs false

theorem row_block {w w' : World} {base : Nat} {e : TypeId} {size : Nat} {v : Value} {n : Nat} {xs : List Value} (h : w.ownsRow base e size v n xs) (hb : ∀ g, v.ownBlock = some g → w'.heap[g]? = w.heap[g]?) : w'.ownsRow base e size v n xs := by
  refine ⟨h.1, ?_⟩
  rcases h.2 with hn | ⟨g, cap, cur, rfl, hb', hgg, rest⟩
  · exact .inl hn
  · refine .inr ⟨g, cap, cur, rfl, hb', ?_, rest⟩
    rw [hb g rfl]
    exact hgg
theorem row_cells {w : World} {base : Nat} {e : TypeId} {size : Nat} {v : Value} {n : Nat} {xs : List Value} (h : w.ownsRow base e size v n xs) {g : Nat} (hg : v.ownBlock = some g) : ∃ cur, w.heap[g]? = some (.cells cur e (0, 0)) := by
  rcases h.2 with ⟨rfl, _⟩ | ⟨g', cap, cur, rfl, hb', hgg, rest⟩
  · simp [Value.ownBlock] at hg
  · simp [Value.ownBlock] at hg
    subst hg
    exact ⟨cur, hgg⟩
theorem row_form {w : World} {base : Nat} {e : TypeId} {size : Nat} {v : Value} {n : Nat} {xs : List Value} (h : w.ownsRow base e size v n xs) : ∃ ad cap, v = .slice ad n cap := by
  rcases h.2 with ⟨rfl, rfl⟩ | ⟨g', cap, cur, rfl, hb', hgg, rest⟩
  · exact ⟨none, 0, rfl⟩
  · exact ⟨_, cap, rfl⟩
theorem row_get {w : World} {base : Nat} {e : TypeId} {v : Value} {n : Nat} {xs : List Value} (h : w.ownsRow base e 1 v n xs) {j : Nat} (hj : j < n) : ∃ g cap, v = .slice (some ⟨g, 0, none⟩) n cap ∧ g < w.heap.size ∧ base ≤ g ∧ ∀ j, j < n → w.cell? ⟨g, j, none⟩ = xs[j]? := by
  rcases h.2 with ⟨rfl, rfl⟩ | ⟨g, cap, cur, rfl, hb', hgg, h1, h2, h3, h4⟩
  · omega
  · refine ⟨g, cap, rfl, lt_of_block hgg, hb', fun j hj => ?_⟩
    simp only [World.cell?, hgg]
    rw [← h4, Nat.mul_one, List.getElem?_take, if_pos hj]
    simp
theorem row_below {w w' : World} {base : Nat} {e : TypeId} {size : Nat} {v : Value} {n : Nat} {xs : List Value} (h : w.ownsRow base e size v n xs) (k : Below w.heap.size w w') : w'.ownsRow base e size v n xs := row_block h (fun g hg => k.block g (h.lt g hg).2)
theorem row_IR {w : World} {base m cap : Nat} {ad : Option Addr} {xs : List Value} {z : Nat → Int} (h : w.ownsRow base 3 1 (.slice ad m cap) m xs) (hz : ∀ j, j < m → xs[j]? = some (.int .i64 (z j))) : IR w ad m z := by
  by_cases h0 : m = 0
  · exact .inl h0
  · obtain ⟨g, cp, e, hlt, _, hc⟩ := row_get h (j := 0) (by omega)
    simp only [Value.slice.injEq] at e
    refine .inr ⟨g, 0, e.1, hlt, fun j hj => ?_⟩
    rw [Nat.zero_add, hc j hj, hz j hj]
/-- A row of whole numbers in a block of the call's own, and what else is left. -/
theorem row_block_of {w : World} {base m : Nat} {v : Value} {xs : List Value} (h : w.ownsRow base 3 1 v m xs) (hm : 0 < m) : ∃ g cap cur, v = .slice (some ⟨g, 0, none⟩) m cap ∧ base ≤ g ∧ CB w g cur 3 ∧ m ≤ cur.size := by
  rcases h.2 with ⟨rfl, rfl⟩ | ⟨g, cap, cur, rfl, hb', hgg, h1, h2, h3, h4⟩
  · omega
  · exact ⟨g, cap, cur, rfl, hb', hgg, by omega⟩
theorem row_lower {w : World} {base base' : Nat} {e : TypeId} {size : Nat} {v : Value} {n : Nat} {xs : List Value} (h : w.ownsRow base e size v n xs) (hb : base' ≤ base) : w.ownsRow base' e size v n xs := by
  refine ⟨h.1, ?_⟩
  rcases h.2 with hn | ⟨g, cap, cur, rfl, hb', rest⟩
  · exact .inl hn
  · exact .inr ⟨g, cap, cur, rfl, by omega, rest⟩
theorem heap_set {w : World} {b o x : Nat} {u : Value} (hne : x ≠ b) : (w.setCell ⟨b, o, none⟩ u).heap[x]? = w.heap[x]? := Below.heap_setCell _ _ _ _ (by show x ≠ b; exact hne)
theorem CB.ne {w : World} {b : Nat} {cs : Array Value} {t : TypeId} {base : Nat} {e : TypeId} {size : Nat} {v : Value} {n : Nat} {xs : List Value} (H : CB w b cs t) (h : w.ownsRow base e size v n xs) (ht : t ≠ e) : some b ≠ v.ownBlock := by
  intro hg
  obtain ⟨cur, hc⟩ := row_cells h hg.symm
  unfold CB at H
  rw [H] at hc
  simp at hc
  exact ht hc.2
/-- A new row of whole numbers is handed back. -/
def NewI (m : Nat) (zs : List Value) (w : World) (e : Ending) (w' : World) : Prop :=
  ∃ ad cap, e = .returned (.slice ad m cap) ∧ w'.ownsRow w.heap.size 3 1 (.slice ad m cap) m zs ∧ Below w.heap.size w w'
set_option maxRecDepth 100000 in
theorem info3 : ∃ i, Try.prog.info? 3 = some i ∧ i.zero = some (.int .i64 0) ∧ i.size = 1 ∧ i.bytes = 8 := by
  obtain ⟨i0, hi⟩ : ∃ i, Try.prog.info? 3 = some i := ⟨_, rfl⟩
  have hz0 : i0.zero = some (.int .i64 0) := by
    have : (Try.prog.info? 3).bind (·.zero) = some (.int .i64 0) := by kernel_rfl
    rw [hi] at this; exact this
  have hz1 : i0.size = 1 := by
    have : (Try.prog.info? 3).map (·.size) = some 1 := by kernel_rfl
    rw [hi] at this; simpa using this
  have hz2 : i0.bytes = 8 := by
    have : (Try.prog.info? 3).map (·.bytes) = some 8 := by kernel_rfl
    rw [hi] at this; simpa using this
  exact ⟨i0, hi, hz0, hz1, hz2⟩
set_option maxRecDepth 20000 in
set_option maxHeartbeats 2000000 in
theorem eqIntS_same (ad be : Option Addr) (len cap cap2 : Nat) (z : Nat → Int) (w : World) (h : (len : Int) ≤ 1048576) (h1 : IR w ad len z) (h2 : IR w be len z) :
    Calls Try.prog 36 #[.slice ad len cap, .slice be len cap2] w fun e w' => e = .returned (.bool true) ∧ Below w.heap.size w w' := by
  have H1 : Hid (IR w ad len z) := h1
  have H2 : Hid (IR w be len z) := h2
  clear h1 h2
  go_enter Try.func36, Try.ntmps36
  go_wp2
  go_loopw [5] (fun i wr => ∃ (k q : Nat), k ≤ len ∧ i = .int .i64 (k : Int) ∧ wr = w.drewN q) (fun i _ => len - (intOf i).toNat)
  case atStart => exact ⟨0, 0, Nat.zero_le _, rfl, rfl⟩
  case round =>
    obtain ⟨k, q, hk, rfl, rfl⟩ := hrel
    by_cases hlt : k < len
    · obtain ⟨kb, off, rfl, _⟩ := H1.out.addr (by omega)
      obtain ⟨kb2, off2, rfl, _⟩ := H2.out.addr (by omega)
      have c1 := H1.out.cell hlt
      have c2 := H2.out.cell hlt
      generalize z k = y at c1 c2
      have hlt2 : (k : Int) < (len : Int) := by omega
      go_wp2
      go_quiet (fail)
      go_wp2
      go_roundw
      case rel => exact ⟨k + 1, q + nq, by omega, by go_num, rfl⟩
      case measure => simp [intOf]; omega
    · go_wp2
      go_returns
      exact ⟨rfl, ⟨rfl, rfl, rfl, Nat.le_refl _, fun _ _ => rfl⟩⟩
set_option maxRecDepth 20000 in
set_option maxHeartbeats 2000000 in
theorem heldIntS_any (ad : Option Addr) (len cap : Nat) (w : World) (h : (len : Int) ≤ 1048576) (h1 : IR w ad len (fun j => (j : Int) + 1)) :
    Calls Try.prog 43 #[.slice ad len cap, .int .i64 1] w fun e w' => e = .returned (.int .i64 ((len : Int) + 1)) ∧ w' = w := by
  have H1 : Hid (IR w ad len (fun j => (j : Int) + 1)) := h1
  clear h1
  go_enter Try.func43, Try.ntmps43
  go_wp2
  go_loop [1, 5] (fun u i => ∃ (k : Nat), k ≤ len ∧ i = .int .i64 (k : Int) ∧ u = .int .i64 ((k : Int) + 1)) (fun u i => len - (intOf i).toNat)
  case atStart => exact ⟨0, Nat.zero_le _, rfl, rfl⟩
  case round =>
    obtain ⟨k, hk, rfl, rfl⟩ := hrel
    by_cases hlt : k < len
    · obtain ⟨kb, off, rfl, _⟩ := H1.out.addr (by omega)
      have c1 := H1.out.cell hlt
      have hlt2 : (k : Int) < (len : Int) := by omega
      go_wp2
      go_round
      case rel => exact ⟨k + 1, by omega, by go_num, by go_num⟩
      case measure => simp [intOf]; omega
    · obtain rfl : k = len := by omega
      go_wp2
      go_returns
      exact ⟨rfl, rfl⟩
set_option maxRecDepth 20000 in
set_option maxHeartbeats 2000000 in
theorem markIntS_any (ad : Option Addr) (len cap base : Nat) (xs : List Value) (w : World) (h : (len : Int) ≤ 1048576) (h1 : w.ownsRow base 3 1 (.slice ad len cap) len xs) :
    Calls Try.prog 39 #[.slice ad len cap, .int .i64 1] w fun e w' => e = .returned (.int .i64 ((len : Int) + 1)) ∧ IR w' ad len (fun j => (j : Int) + 1) ∧ (∀ y, y < w.heap.size → some y ≠ Value.ownBlock (.slice ad len cap) → w'.heap[y]? = w.heap[y]?) ∧ Below base w w' := by
  by_cases h0 : len = 0
  · subst h0
    go_enter Try.func39, Try.ntmps39
    go_wp2
    refine wp_loop_rounds 1 ?_
    rw [rounds_succ]
    go_wp2
    go_returns
    exact ⟨rfl, .inl rfl, fun _ _ _ => rfl, Below.refl _ _⟩
  obtain ⟨g, cp, cur, e, hbg, hC, hsz⟩ := row_block_of h1 (by omega)
  obtain ⟨rfl, rfl⟩ : ad = some ⟨g, 0, none⟩ ∧ cap = cp := by simp only [Value.slice.injEq] at e; exact ⟨e.1, e.2.2⟩
  have HC : Hid (CB w g cur 3) := hC
  clear hC e h1
  go_enter Try.func39, Try.ntmps39
  go_wp2
  go_loopw [1, 5] (fun u i wr => ∃ (k : Nat) (cs : Array Value), k ≤ len ∧ i = .int .i64 (k : Int) ∧ u = .int .i64 ((k : Int) + 1) ∧ CB wr g cs 3 ∧ len ≤ cs.size ∧ (∀ j, j < k → cs[j]? = some (.int .i64 ((j : Int) + 1))) ∧ (∀ y, y ≠ g → wr.heap[y]? = w.heap[y]?) ∧ Below base w wr) (fun u i _ => len - (intOf i).toNat)
  case atStart => exact ⟨0, cur, Nat.zero_le _, rfl, rfl, HC.out, hsz, fun j hj => by omega, fun y hy => rfl, Below.refl _ _⟩
  case round =>
    obtain ⟨k, cs, hk, rfl, rfl, hC, hs, hcs, hkeep, hB⟩ := hrel
    by_cases hlt : k < len
    · have hlt2 : (k : Int) < (len : Int) := by omega
      obtain ⟨v1, d1⟩ : ∃ v, cs[k]? = some v := ⟨cs[k]'(by omega), Array.getElem?_eq_getElem (by omega)⟩
      have x1 := (hC.cell k).trans d1
      have f1 := hC.fr k
      have HN : Hid (CB (wr.setCell ⟨g, k, none⟩ (.int .i64 ((k : Int) + 1))) g (cs.setIfInBounds k (.int .i64 ((k : Int) + 1))) 3 ∧ len ≤ (cs.setIfInBounds k (.int .i64 ((k : Int) + 1))).size ∧ (∀ j, j < k + 1 → (cs.setIfInBounds k (.int .i64 ((k : Int) + 1)))[j]? = some (.int .i64 ((j : Int) + 1))) ∧ (∀ y, y ≠ g → (wr.setCell ⟨g, k, none⟩ (.int .i64 ((k : Int) + 1))).heap[y]? = w.heap[y]?) ∧ Below base w (wr.setCell ⟨g, k, none⟩ (.int .i64 ((k : Int) + 1)))) := by
        refine ⟨hC.set _ _, by simpa using hs, fun j hj => ?_, fun y hy => (heap_set hy).trans (hkeep y hy), hB.setCell hbg _⟩
        by_cases e : j = k
        · subst e; rw [get_set_eq (by omega)]
        · rw [get_set_ne (by omega)]; exact hcs j (by omega)
      clear hC hs hcs hkeep hB d1
      go_wp2
      go_roundw
      case rel =>
        obtain ⟨z1, z2, z3, z4, z5⟩ := HN.out
        exact ⟨k + 1, _, by omega, by go_num, by go_num, z1, z2, z3, z4, z5⟩
      case measure => simp [intOf]; omega
    · obtain rfl : k = len := by omega
      have HN : Hid (IR wr (some ⟨g, 0, none⟩) k (fun j => (j : Int) + 1) ∧ (∀ y, y < w.heap.size → some y ≠ Value.ownBlock (.slice (some ⟨g, 0, none⟩) k cap) → wr.heap[y]? = w.heap[y]?) ∧ Below base w wr) :=
        ⟨IR.of_block hC k _ hcs, fun y _ hy => hkeep y (fun q => hy (by rw [q]; rfl)), hB⟩
      clear hC hs hcs hkeep hB
      go_wp2
      go_returns
      exact ⟨rfl, HN.out.1, HN.out.2.1, HN.out.2.2⟩
def zeros (n : Nat) : Array Value := madeCells #[.int .i64 0] n
theorem zeros_size (n : Nat) : (zeros n).size = n := size_madeCells _ _
set_option maxRecDepth 100000 in
theorem mkI (n : Nat) (h : (n : Int) ≤ 1048576) (w : World) : (Instr.makeSlice 26 (.int .i64 (n : Int)) (.int .i64 (n : Int))).run Try.prog w = .ok (.slice (some ⟨w.heap.size, 0, none⟩) n n) (w.alloc (.cells (zeros n) 3)) := by
  obtain ⟨i, hi⟩ : ∃ i, Try.prog.info? 3 = some i := ⟨_, rfl⟩
  have hz : i.zero = some (.int .i64 0) := by
    have : (Try.prog.info? 3).bind (·.zero) = some (.int .i64 0) := by kernel_rfl
    rw [hi] at this; exact this
  have hs : i.size = 1 := by
    have : (Try.prog.info? 3).map (·.size) = some 1 := by kernel_rfl
    rw [hi] at this; simpa using this
  have hb : i.bytes = 8 := by
    have : (Try.prog.info? 3).map (·.bytes) = some 8 := by kernel_rfl
    rw [hi] at this; simpa using this
  have hr := run_make (P := Try.prog) w 26 3 i (.int .i64 0) Try.underlying26 hi hz .i64 .i64 n n (by omega) (by omega) (by rw [hb]; omega) (by omega)
  simp only [Int.toNat_natCast, hs, Nat.mul_one] at hr
  exact hr
set_option maxHeartbeats 1000000 in
theorem toIntS_any (ad : Option Addr) (len cap : Nat) (z : Nat → Int) (w : World) (h : (len : Int) ≤ 1048576) (hr : IR w ad len z) :
    Calls Try.prog 34 #[.slice ad len cap] w fun e w' => e = .returned (.slice (some ⟨w.heap.size, 0, none⟩) len len) ∧ (IR w' (some ⟨w.heap.size, 0, none⟩) len z ∧ ∃ cs, CB w' w.heap.size cs 3 ∧ cs.size = len) ∧ Below w.heap.size w w' := by
  have HR : Hid (IR w ad len z) := hr
  have hmk := mkI len h
  clear hr
  go_enter Try.func34, Try.ntmps34
  go_wp2
  go_loopw [4] (fun i wr => ∃ (k : Nat) (cs : Array Value), k ≤ len ∧ i = .int .i64 (k : Int) ∧ CB wr w.heap.size cs 3 ∧ cs.size = len ∧ (∀ j, j < k → cs[j]? = some (.int .i64 (z j))) ∧ Below w.heap.size w wr) (fun i _ => len - (intOf i).toNat)
  case atStart => exact ⟨0, zeros len, Nat.zero_le _, rfl, CB.new _ _, zeros_size _, fun j hj => by omega, (Below.refl _ _).alloc (Nat.le_refl _) _⟩
  case round =>
    obtain ⟨k, cs, hk, rfl, hC, hsz, hcs, hB⟩ := hrel
    by_cases hlt : k < len
    · obtain ⟨kb, off, rfl, hkb⟩ := HR.out.addr (by omega)
      have c1 : wr.cell? ⟨kb, off + k, none⟩ = some (.int .i64 (z k)) := (HR.out.below hB).cell hlt
      have c2 : ∃ v, wr.cell? ⟨w.heap.size, k, none⟩ = some v := ⟨cs[k]'(by omega), by rw [hC.cell]; simp [hsz, hlt]⟩
      obtain ⟨v2, c2⟩ := c2
      have f2 := hC.fr k
      have HC : Hid (CB wr w.heap.size cs 3) := hC
      have HS : Hid (cs.size = len) := hsz
      have HCS : Hid (∀ j, j < k → cs[j]? = some (.int .i64 (z j))) := hcs
      have HB : Hid (Below w.heap.size w wr) := hB
      clear hC hsz hcs hB
      go_wp2
      go_roundw
      case rel =>
        refine ⟨k + 1, cs.setIfInBounds k (.int .i64 (z k)), by omega, by go_num, HC.out.set k _, by simp [HS.out], fun j hj => ?_, HB.out.setCell (by simp) _⟩
        rw [Array.getElem?_setIfInBounds]
        have := HS.out
        by_cases hjk : k = j
        · subst hjk; simp [this, hlt]
        · rw [if_neg hjk]; exact HCS.out j (by omega)
      case measure => simp [intOf]; omega
    · obtain rfl : k = len := by omega
      have HI : Hid (IR wr (some ⟨w.heap.size, 0, none⟩) k z) := IR.of_block hC k z hcs
      have HX : Hid (∃ cs, CB wr w.heap.size cs 3 ∧ cs.size = k) := ⟨cs, hC, hsz⟩
      have HB : Hid (Below w.heap.size w wr) := hB
      clear hC hcs hB
      go_wp2
      go_returns
      exact ⟨rfl, ⟨HI.out, HX.out⟩, HB.out⟩
theorem row_of_block {w : World} {b base n : Nat} {cs : Array Value} (hC : CB w b cs 3) (hs : cs.size = n) (hb : base ≤ b) (hn : n ≤ 1048576) : w.ownsRow base 3 1 (.slice (some ⟨b, 0, none⟩) n n) n cs.toList :=
  ⟨by simp [hs], .inr ⟨b, n, cs, rfl, hb, hC, Nat.le_refl _, by unfold maxLen; omega, by omega, by rw [Nat.mul_one]; exact List.take_of_length_le (by simp [hs])⟩⟩
set_option maxRecDepth 20000 in
set_option maxHeartbeats 2000000 in
theorem markIntS_from (s0 : Int) (hs0 : 0 ≤ s0 ∧ s0 ≤ 8000000) (ad : Option Addr) (len cap base : Nat) (xs : List Value) (w : World) (h : (len : Int) ≤ 1048576) (h1 : w.ownsRow base 3 1 (.slice ad len cap) len xs) :
    Calls Try.prog 39 #[.slice ad len cap, .int .i64 s0] w fun e w' => e = .returned (.int .i64 ((len : Int) + s0)) ∧ IR w' ad len (fun j => (j : Int) + s0) ∧ (∀ y, y < w.heap.size → some y ≠ Value.ownBlock (.slice ad len cap) → w'.heap[y]? = w.heap[y]?) ∧ Below base w w' := by
  by_cases h0 : len = 0
  · subst h0
    go_enter Try.func39, Try.ntmps39
    go_wp2
    refine wp_loop_rounds 1 ?_
    rw [rounds_succ]
    go_wp2
    go_returns
    exact ⟨by simp, .inl rfl, fun _ _ _ => rfl, Below.refl _ _⟩
  obtain ⟨g, cp, cur, e, hbg, hC, hsz⟩ := row_block_of h1 (by omega)
  obtain ⟨rfl, rfl⟩ : ad = some ⟨g, 0, none⟩ ∧ cap = cp := by simp only [Value.slice.injEq] at e; exact ⟨e.1, e.2.2⟩
  have HC : Hid (CB w g cur 3) := hC
  clear hC e h1
  go_enter Try.func39, Try.ntmps39
  go_wp2
  go_loopw [1, 5] (fun u i wr => ∃ (k : Nat) (cs : Array Value), k ≤ len ∧ i = .int .i64 (k : Int) ∧ u = .int .i64 ((k : Int) + s0) ∧ CB wr g cs 3 ∧ len ≤ cs.size ∧ (∀ j, j < k → cs[j]? = some (.int .i64 ((j : Int) + s0))) ∧ (∀ y, y ≠ g → wr.heap[y]? = w.heap[y]?) ∧ Below base w wr) (fun u i _ => len - (intOf i).toNat)
  case atStart => exact ⟨0, cur, Nat.zero_le _, rfl, by simp, HC.out, hsz, fun j hj => by omega, fun y hy => rfl, Below.refl _ _⟩
  case round =>
    obtain ⟨k, cs, hk, rfl, rfl, hC, hs, hcs, hkeep, hB⟩ := hrel
    by_cases hlt : k < len
    · have hlt2 : (k : Int) < (len : Int) := by omega
      obtain ⟨v1, d1⟩ : ∃ v, cs[k]? = some v := ⟨cs[k]'(by omega), Array.getElem?_eq_getElem (by omega)⟩
      have x1 := (hC.cell k).trans d1
      have f1 := hC.fr k
      have HN : Hid (CB (wr.setCell ⟨g, k, none⟩ (.int .i64 ((k : Int) + s0))) g (cs.setIfInBounds k (.int .i64 ((k : Int) + s0))) 3 ∧ len ≤ (cs.setIfInBounds k (.int .i64 ((k : Int) + s0))).size ∧ (∀ j, j < k + 1 → (cs.setIfInBounds k (.int .i64 ((k : Int) + s0)))[j]? = some (.int .i64 ((j : Int) + s0))) ∧ (∀ y, y ≠ g → (wr.setCell ⟨g, k, none⟩ (.int .i64 ((k : Int) + s0))).heap[y]? = w.heap[y]?) ∧ Below base w (wr.setCell ⟨g, k, none⟩ (.int .i64 ((k : Int) + s0)))) := by
        refine ⟨hC.set _ _, by simpa using hs, fun j hj => ?_, fun y hy => (heap_set hy).trans (hkeep y hy), hB.setCell hbg _⟩
        by_cases e : j = k
        · subst e; rw [get_set_eq (by omega)]
        · rw [get_set_ne (by omega)]; exact hcs j (by omega)
      clear hC hs hcs hkeep hB d1
      go_wp2
      go_roundw
      case rel =>
        obtain ⟨z1, z2, z3, z4, z5⟩ := HN.out
        exact ⟨k + 1, _, by omega, by go_num, by go_num, z1, z2, z3, z4, z5⟩
      case measure => simp [intOf]; omega
    · obtain rfl : k = len := by omega
      have HN : Hid (IR wr (some ⟨g, 0, none⟩) k (fun j => (j : Int) + s0) ∧ (∀ y, y < w.heap.size → some y ≠ Value.ownBlock (.slice (some ⟨g, 0, none⟩) k cap) → wr.heap[y]? = w.heap[y]?) ∧ Below base w wr) :=
        ⟨IR.of_block hC k _ hcs, fun y _ hy => hkeep y (fun q => hy (by rw [q]; rfl)), hB⟩
      clear hC hs hcs hkeep hB
      go_wp2
      go_returns
      exact ⟨rfl, HN.out.1, HN.out.2.1, HN.out.2.2⟩
def sm (z : Nat → Int) : Nat → Int
  | 0 => 0
  | n + 1 => sm z n + z n
theorem sm_succ (z : Nat → Int) (n : Nat) : sm z (n + 1) = sm z n + z n := rfl
theorem sm_bound {z : Nat → Int} {n : Nat} {M : Int} (hM : 0 ≤ M) (h : ∀ j, j < n → -M ≤ z j ∧ z j ≤ M) : ∀ a e, a ≤ e → e ≤ n → -(M * (e - a : Int)) ≤ sm z e - sm z a ∧ sm z e - sm z a ≤ M * (e - a : Int) := by
  intro a e
  induction e with
  | zero => intro h1 h2; have : a = 0 := by omega
            subst this; simp
  | succ k ih =>
    intro h1 h2
    by_cases g : a = k + 1
    · subst g; simp
    · obtain ⟨b1, b2⟩ := ih (by omega) (by omega)
      obtain ⟨c1, c2⟩ := h k (by omega)
      rw [sm_succ]
      have e1 : M * (((k + 1 : Nat) : Int) - (a : Int)) = M * ((k : Int) - (a : Int)) + M := by
        rw [show (((k + 1 : Nat) : Int) - (a : Int)) = ((k : Int) - (a : Int)) + 1 by omega, Int.mul_add, Int.mul_one]
      rw [e1]
      omega
theorem sm_congr {y z : Nat → Int} : ∀ {n : Nat}, (∀ j, j < n → y j = z j) → sm y n = sm z n
  | 0, _ => rfl
  | n + 1, h => by rw [sm_succ, sm_succ, sm_congr (fun j hj => h j (by omega)), h n (by omega)]
end Go.Proofs.Ytogolmbgboihdaa
