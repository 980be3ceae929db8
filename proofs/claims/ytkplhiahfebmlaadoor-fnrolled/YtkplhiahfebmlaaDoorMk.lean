/- The laws' own functions over rows of whole numbers and of accounts: compared, marked, looked at again. -/
import Derived.Test.YtkplhiahfebmlaaDoorUn
import Derived.Test.YtkplhiahfebmlaaDoorCq
import Derived.WalkSpells
import Derived.Laws.IdiomStrings
namespace Go.Proofs.YtkplhiahfebmlaaDoor
open Go.ChangeShapes Go.WideShapes Go.ChangeAt Go.RowKit
set_option linter.unusedVariables false
set_option linter.unusedSimpArgs false

theorem row_IR {w : World} {base m cap : Nat} {ad : Option Addr} {xs : List Value} {z : Nat → Int} (h : w.ownsRow base 3 1 (.slice ad m cap) m xs) (hz : ∀ j, j < m → xs[j]? = some (.int .i64 (z j))) : IR w ad m z := by
  by_cases h0 : m = 0
  · exact .inl h0
  · obtain ⟨g, cp, e, hlt, _, hc⟩ := row_get h (j := 0) (by omega)
    simp only [Value.slice.injEq] at e
    refine .inr ⟨g, 0, e.1, hlt, fun j hj => ?_⟩
    rw [Nat.zero_add, hc j hj, hz j hj]

set_option maxRecDepth 20000 in
set_option maxHeartbeats 2000000 in
theorem eqIntS_same (ad be : Option Addr) (len cap cap2 : Nat) (z : Nat → Int) (w : World) (h : (len : Int) ≤ 1048576) (h1 : IR w ad len z) (h2 : IR w be len z) :
    Calls Tryd.prog 27 #[.slice ad len cap, .slice be len cap2] w fun e w' => e = .returned (.bool true) ∧ Below w.heap.size w w' := by
  have H1 : Hid (IR w ad len z) := h1
  have H2 : Hid (IR w be len z) := h2
  clear h1 h2
  go_enter Tryd.func27, Tryd.ntmps27
  go_wp2
  go_loopw [5] (fun i wr => ∃ (k q : Nat), k ≤ len ∧ i = .int .i64 (k : Int) ∧ wr = w.drewN q) (fun i _ => len - (intOf i).toNat)
  case atStart => exact ⟨0, 0, Nat.zero_le _, rfl, rfl⟩
  case round =>
    obtain ⟨k, q, hk, rfl, rfl⟩ := hrel
    by_cases hlt : k < len
    · obtain ⟨kb, off, rfl, _⟩ := H1.out.addr (by omega)
      obtain ⟨kb2, off2, rfl, _⟩ := H2.out.addr (by omega)
      have c1 := H1.out.cell hlt
      have c2 := H2.out.cell hlt
      generalize z k = y at c1 c2
      have hlt2 : (k : Int) < (len : Int) := by omega
      go_wp2
      go_quiet (fail)
      go_wp2
      go_roundw
      case rel => exact ⟨k + 1, q + nq, by omega, by go_num, rfl⟩
      case measure => simp [intOf]; omega
    · go_wp2
      go_returns
      exact ⟨rfl, ⟨rfl, rfl, rfl, Nat.le_refl _, fun _ _ => rfl⟩⟩

set_option maxRecDepth 20000 in
set_option maxHeartbeats 2000000 in
theorem heldIntS_any (ad : Option Addr) (len cap : Nat) (w : World) (h : (len : Int) ≤ 1048576) (h1 : IR w ad len (fun j => (j : Int) + 1)) :
    Calls Tryd.prog 30 #[.slice ad len cap, .int .i64 1] w fun e w' => e = .returned (.int .i64 ((len : Int) + 1)) ∧ w' = w := by
  have H1 : Hid (IR w ad len (fun j => (j : Int) + 1)) := h1
  clear h1
  go_enter Tryd.func30, Tryd.ntmps30
  go_wp2
  go_loop [1, 5] (fun u i => ∃ (k : Nat), k ≤ len ∧ i = .int .i64 (k : Int) ∧ u = .int .i64 ((k : Int) + 1)) (fun u i => len - (intOf i).toNat)
  case atStart => exact ⟨0, Nat.zero_le _, rfl, rfl⟩
  case round =>
    obtain ⟨k, hk, rfl, rfl⟩ := hrel
    by_cases hlt : k < len
    · obtain ⟨kb, off, rfl, _⟩ := H1.out.addr (by omega)
      have c1 := H1.out.cell hlt
      have hlt2 : (k : Int) < (len : Int) := by omega
      go_wp2
      go_round
      case rel => exact ⟨k + 1, by omega, by go_num, by go_num⟩
      case measure => simp [intOf]; omega
    · obtain rfl : k = len := by omega
      go_wp2
      go_returns
      exact ⟨rfl, rfl⟩

/-- A row of whole numbers in a block of the call's own, and what else is left. -/
theorem row_block_of {w : World} {base m : Nat} {v : Value} {xs : List Value} (h : w.ownsRow base 3 1 v m xs) (hm : 0 < m) : ∃ g cap cur, v = .slice (some ⟨g, 0, none⟩) m cap ∧ base ≤ g ∧ CB w g cur 3 ∧ m ≤ cur.size := by
  rcases h.2 with ⟨rfl, rfl⟩ | ⟨g, cap, cur, rfl, hb', hgg, h1, h2, h3, h4⟩
  · omega
  · exact ⟨g, cap, cur, rfl, hb', hgg, by omega⟩

set_option maxRecDepth 20000 in
set_option maxHeartbeats 2000000 in
theorem markIntS_any (ad : Option Addr) (len cap base : Nat) (xs : List Value) (w : World) (h : (len : Int) ≤ 1048576) (h1 : w.ownsRow base 3 1 (.slice ad len cap) len xs) :
    Calls Tryd.prog 29 #[.slice ad len cap, .int .i64 1] w fun e w' => e = .returned (.int .i64 ((len : Int) + 1)) ∧ IR w' ad len (fun j => (j : Int) + 1) ∧ (∀ y, y < w.heap.size → some y ≠ Value.ownBlock (.slice ad len cap) → w'.heap[y]? = w.heap[y]?) ∧ Below base w w' := by
  by_cases h0 : len = 0
  · subst h0
    go_enter Tryd.func29, Tryd.ntmps29
    go_wp2
    refine wp_loop_rounds 1 ?_
    rw [rounds_succ]
    go_wp2
    go_returns
    exact ⟨rfl, .inl rfl, fun _ _ _ => rfl, Below.refl _ _⟩
  obtain ⟨g, cp, cur, e, hbg, hC, hsz⟩ := row_block_of h1 (by omega)
  obtain ⟨rfl, rfl⟩ : ad = some ⟨g, 0, none⟩ ∧ cap = cp := by simp only [Value.slice.injEq] at e; exact ⟨e.1, e.2.2⟩
  have HC : Hid (CB w g cur 3) := hC
  clear hC e h1
  go_enter Tryd.func29, Tryd.ntmps29
  go_wp2
  go_loopw [1, 5] (fun u i wr => ∃ (k : Nat) (cs : Array Value), k ≤ len ∧ i = .int .i64 (k : Int) ∧ u = .int .i64 ((k : Int) + 1) ∧ CB wr g cs 3 ∧ len ≤ cs.size ∧ (∀ j, j < k → cs[j]? = some (.int .i64 ((j : Int) + 1))) ∧ (∀ y, y ≠ g → wr.heap[y]? = w.heap[y]?) ∧ Below base w wr) (fun u i _ => len - (intOf i).toNat)
  case atStart => exact ⟨0, cur, Nat.zero_le _, rfl, rfl, HC.out, hsz, fun j hj => by omega, fun y hy => rfl, Below.refl _ _⟩
  case round =>
    obtain ⟨k, cs, hk, rfl, rfl, hC, hs, hcs, hkeep, hB⟩ := hrel
    by_cases hlt : k < len
    · have hlt2 : (k : Int) < (len : Int) := by omega
      obtain ⟨v1, d1⟩ : ∃ v, cs[k]? = some v := ⟨cs[k]'(by omega), Array.getElem?_eq_getElem (by omega)⟩
      have x1 := (hC.cell k).trans d1
      have f1 := hC.fr k
      have HN : Hid (CB (wr.setCell ⟨g, k, none⟩ (.int .i64 ((k : Int) + 1))) g (cs.setIfInBounds k (.int .i64 ((k : Int) + 1))) 3 ∧ len ≤ (cs.setIfInBounds k (.int .i64 ((k : Int) + 1))).size ∧ (∀ j, j < k + 1 → (cs.setIfInBounds k (.int .i64 ((k : Int) + 1)))[j]? = some (.int .i64 ((j : Int) + 1))) ∧ (∀ y, y ≠ g → (wr.setCell ⟨g, k, none⟩ (.int .i64 ((k : Int) + 1))).heap[y]? = w.heap[y]?) ∧ Below base w (wr.setCell ⟨g, k, none⟩ (.int .i64 ((k : Int) + 1)))) := by
        refine ⟨hC.set _ _, by simpa using hs, fun j hj => ?_, fun y hy => (heap_set hy).trans (hkeep y hy), hB.setCell hbg _⟩
        by_cases e : j = k
        · subst e; rw [get_set_eq (by omega)]
        · rw [get_set_ne (by omega)]; exact hcs j (by omega)
      clear hC hs hcs hkeep hB d1
      go_wp2
      go_roundw
      case rel =>
        obtain ⟨z1, z2, z3, z4, z5⟩ := HN.out
        exact ⟨k + 1, _, by omega, by go_num, by go_num, z1, z2, z3, z4, z5⟩
      case measure => simp [intOf]; omega
    · obtain rfl : k = len := by omega
      have HN : Hid (IR wr (some ⟨g, 0, none⟩) k (fun j => (j : Int) + 1) ∧ (∀ y, y < w.heap.size → some y ≠ Value.ownBlock (.slice (some ⟨g, 0, none⟩) k cap) → wr.heap[y]? = w.heap[y]?) ∧ Below base w wr) :=
        ⟨IR.of_block hC k _ hcs, fun y _ hy => hkeep y (fun q => hy (by rw [q]; rfl)), hB⟩
      clear hC hs hcs hkeep hB
      go_wp2
      go_returns
      exact ⟨rfl, HN.out.1, HN.out.2.1, HN.out.2.2⟩

set_option maxRecDepth 20000 in
set_option maxHeartbeats 2000000 in
theorem markText_any (x : Int) (w : World) (h0 : 0 < x) (h1 : x ≤ 4000000) :
    Calls Tryd.prog 57 #[.int .i64 x] w fun e w' => (∃ s, e = .returned (.string s)) ∧ Below w.heap.size w w' := by
  go_enter Tryd.func57, Tryd.ntmps57
  go_wp2
  go_loopw [0, 3] (fun u v wr => ∃ (k : Int) (s : ByteArray), 0 ≤ k ∧ k ≤ x ∧ u = .int .i64 k ∧ v = .string s ∧ (s.size : Int) + k ≤ x ∧ Below w.heap.size w wr) (fun u v _ => (intOf u).toNat)
  case atStart => exact ⟨x, _, by omega, by omega, rfl, rfl, by show ((0 : Nat) : Int) + x ≤ x; omega, Below.refl _ _⟩
  case round =>
    obtain ⟨k, s, hk0, hkx, rfl, rfl, hsz, hB⟩ := hrel
    by_cases hk : 0 < k
    · have hw : w.heap.size ≤ wr.heap.size := hB.size
      have HB : Hid (Below w.heap.size w (wr.alloc (.cells #[.int .u8 (48 + k % 10)] 5 (0, 0)))) := hB.alloc hw _
      have hm1 : 0 ≤ k % 10 := by omega
      have hm2 : k % 10 < 10 := by omega
      have hd : k / 10 < k := by omega
      obtain ⟨d, hd'⟩ : ∃ d : UInt8, (d.toNat : Int) = 48 + k % 10 := by
        refine ⟨UInt8.ofNat (48 + k % 10).toNat, ?_⟩
        simp
        omega
      have hconv : (convert 22 9 (.slice (some ⟨wr.heap.size, 0, none⟩) 1 1)).run Tryd.prog (wr.alloc (.cells #[.int .u8 (48 + k % 10)] 5 (0, 0))) = .ok (.string ⟨#[d]⟩) (wr.alloc (.cells #[.int .u8 (48 + k % 10)] 5 (0, 0))) := by
        have := run_convert_bytes_back (P := Tryd.prog) (wr.alloc (.cells #[.int .u8 (48 + k % 10)] 5 (0, 0))) 22 9 5 ⟨wr.heap.size, 0, none⟩ 1 [d] Tryd.underlying22 Tryd.underlying5 Tryd.underlying9 (fun j hj => by
          obtain rfl : j = 0 := by simp at hj; omega
          rw [← hd']
          exact ((CB.new (w := wr) #[.int .u8 (d.toNat : Int)] 5).cell 0).trans rfl)
        exact this
      have hsz2 : ((⟨#[d]⟩ : ByteArray) ++ s).size = s.size + 1 := by rw [ByteArray.size_append]; show 1 + s.size = _; omega
      have HSZ : Hid (((⟨#[d]⟩ : ByteArray) ++ s).size = s.size + 1) := hsz2
      have hs1 : (⟨#[d]⟩ : ByteArray).size = 1 := rfl
      have hs4 : (s.size : Int) ≤ 4000000 := by omega
      clear hB hd' hsz2
      go_wp2
      go_roundw
      case rel => exact ⟨k / 10, (⟨#[d]⟩ : ByteArray) ++ s, by omega, by omega, by go_num, rfl, by have := HSZ.out; rw [this]; omega, HB.out⟩
      case measure => simp [intOf]; omega
    · have hk1 : k = 0 := by omega
      subst hk1
      have HB : Hid (Below w.heap.size w wr) := hB
      clear hB
      go_wp2
      go_returns
      exact ⟨⟨_, rfl⟩, HB.out⟩

set_option maxRecDepth 20000 in
set_option maxHeartbeats 2000000 in
theorem markAccS_any (b len cap base : Nat) (cs0 : Array Value) (w : World) (h : (len : Int) ≤ 1048576) (hC0 : CB w b cs0 30) (hs0 : cs0.size = len * 3) (hb : base ≤ b) :
    Calls Tryd.prog 28 #[.slice (some ⟨b, 0, none⟩) len cap, .int .i64 1] w fun e w' => e = .returned (.int .i64 (3 * (len : Int) + 1)) ∧ (∀ y, y < w.heap.size → y ≠ b → w'.heap[y]? = w.heap[y]?) ∧ Below base w w' := by
  have HC : Hid (CB w b cs0 30) := hC0
  have hblt := hC0.lt
  clear hC0
  go_enter Tryd.func28, Tryd.ntmps28
  go_wp2
  go_loopw [1, 5] (fun u i wr => ∃ (k : Nat) (cs : Array Value), k ≤ len ∧ i = .int .i64 (k : Int) ∧ u = .int .i64 (3 * (k : Int) + 1) ∧ CB wr b cs 30 ∧ cs.size = len * 3 ∧ (∀ y, y < w.heap.size → y ≠ b → wr.heap[y]? = w.heap[y]?) ∧ Below base w wr) (fun u i _ => len - (intOf i).toNat)
  case atStart => exact ⟨0, cs0, Nat.zero_le _, rfl, by simp, HC.out, hs0, fun y _ hy => rfl, Below.refl _ _⟩
  case round =>
    obtain ⟨k, cs, hk, rfl, rfl, hC, hs, hkeep, hB⟩ := hrel
    by_cases hlt : k < len
    · have hlt2 : (k : Int) < (len : Int) := by omega
      obtain ⟨v1, d1⟩ : ∃ v, cs[k * 3]? = some v := ⟨cs[k * 3]'(by omega), Array.getElem?_eq_getElem (by omega)⟩
      obtain ⟨v2, d2⟩ : ∃ v, cs[k * 3 + 1]? = some v := ⟨cs[k * 3 + 1]'(by omega), Array.getElem?_eq_getElem (by omega)⟩
      obtain ⟨v3, d3⟩ : ∃ v, cs[k * 3 + 2]? = some v := ⟨cs[k * 3 + 2]'(by omega), Array.getElem?_eq_getElem (by omega)⟩
      have hsz := hB.size
      have HCC : Hid (CB wr b cs 30) := hC
      have HS : Hid (cs.size = len * 3) := hs
      have HK : Hid (∀ y, y < w.heap.size → y ≠ b → wr.heap[y]? = w.heap[y]?) := hkeep
      have HB : Hid (Below base w wr) := hB
      clear hC hs hkeep hB
      go_wp2_with (go_at_call 57; refine (markText_any _ _ (by omega) (by omega)).mono ?_; rintro e w1 ⟨⟨s, rfl⟩, b1⟩; have X1 : CB w1 b cs 30 := HCC.out.below b1 HCC.out.lt; have x1 := (X1.cell (k * 3)).trans d1; have x2 := (X1.cell (k * 3 + 1)).trans d2; have x3 := (X1.cell (k * 3 + 2)).trans d3; have f1 := X1.fr (k * 3); have f2 := X1.fr (k * 3 + 1); have f3 := X1.fr (k * 3 + 2); have HX : Hid (CB w1 b cs 30) := X1; have HK1 : Hid (∀ y, y < w.heap.size → y ≠ b → w1.heap[y]? = w.heap[y]?) := (fun y h1 h2 => (b1.block y (by omega)).trans (HK.out y h1 h2)); have HB1 : Hid (Below base w w1) := HB.out.trans (b1.mono (by omega)); clear X1 b1)
      go_roundw
      case rel => exact ⟨k + 1, _, by omega, by go_num, by go_num, ((HX.out.set _ _).set _ _).set _ _, by simp [HS.out], fun y h1 h2 => (heap_set h2).trans ((heap_set h2).trans ((heap_set h2).trans (HK1.out y h1 h2))), ((HB1.out.setCell hb _).setCell hb _).setCell hb _⟩
      case measure => simp [intOf]; omega
    · obtain rfl : k = len := by omega
      have HN : Hid ((∀ y, y < w.heap.size → y ≠ b → wr.heap[y]? = w.heap[y]?) ∧ Below base w wr) := ⟨hkeep, hB⟩
      clear hC hs hkeep hB
      go_wp2
      go_returns
      exact ⟨rfl, HN.out.1, HN.out.2⟩

set_option maxHeartbeats 4000000 in
theorem toCurS_cells (ad : Option Addr) (len cap : Nat) (c : Nat → C3) (w : World) (h : (len : Int) ≤ 1048576) (hr : CR w ad len c) :
    Calls Tryd.prog 19 #[.slice ad len cap] w fun e w' => e = .returned (.slice (some ⟨w.heap.size, 0, none⟩) len len) ∧ (CR w' (some ⟨w.heap.size, 0, none⟩) len c ∧ ∃ cs, CB w' w.heap.size cs 30 ∧ cs.size = len * 3) ∧ Below w.heap.size w w' := by
  have HR : Hid (CR w ad len c) := hr
  have hmk := mkCurs len h
  clear hr
  go_enter Tryd.func19, Tryd.ntmps19
  go_wp2
  go_loopw [4] (fun i wr => ∃ (k : Nat) (cs : Array Value), k ≤ len ∧ i = .int .i64 (k : Int) ∧ CB wr w.heap.size cs 30 ∧ cs.size = len * 3 ∧ (∀ j, j < k → cs[j * 3]? = some (.string (c j).code) ∧ cs[j * 3 + 1]? = some (.int .i64 (c j).places) ∧ cs[j * 3 + 2]? = some (.int .i64 (c j).step)) ∧ Below w.heap.size w wr) (fun i _ => len - (intOf i).toNat)
  case atStart => exact ⟨0, zeros3 len, Nat.zero_le _, rfl, CB.new _ _, zeros3_size _, fun j hj => by omega, (Below.refl _ _).alloc (Nat.le_refl _) _⟩
  case round =>
    obtain ⟨k, cs, hk, rfl, hC, hsz, hcs, hB⟩ := hrel
    by_cases hlt : k < len
    · obtain ⟨kb, off, rfl, hkb⟩ := HR.out.addr (by omega)
      obtain ⟨c1, c2, c3⟩ := (HR.out.below hB).cell hlt
      obtain ⟨v1, d1⟩ : ∃ v, cs[k * 3]? = some v := ⟨cs[k * 3]'(by omega), Array.getElem?_eq_getElem (by omega)⟩
      obtain ⟨v2, d2⟩ : ∃ v, cs[k * 3 + 1]? = some v := ⟨cs[k * 3 + 1]'(by omega), Array.getElem?_eq_getElem (by omega)⟩
      obtain ⟨v3, d3⟩ : ∃ v, cs[k * 3 + 2]? = some v := ⟨cs[k * 3 + 2]'(by omega), Array.getElem?_eq_getElem (by omega)⟩
      have HC : Hid (CB wr w.heap.size cs 30) := hC
      have HS : Hid (cs.size = len * 3) := hsz
      have HCS : Hid (∀ j, j < k → cs[j * 3]? = some (.string (c j).code) ∧ cs[j * 3 + 1]? = some (.int .i64 (c j).places) ∧ cs[j * 3 + 2]? = some (.int .i64 (c j).step)) := hcs
      have HB : Hid (Below w.heap.size w wr) := hB
      clear hC hsz hcs hB
      go_wp2_with (go_at_call 52; refine (toCur_any _ _ _ _).mono ?_; rintro e w1 ⟨rfl, b1⟩; have X1 : CB w1 w.heap.size cs 30 := HC.out.below b1 HC.out.lt; have x1 := (X1.cell (k * 3)).trans d1; have x2 := (X1.cell (k * 3 + 1)).trans d2; have x3 := (X1.cell (k * 3 + 2)).trans d3; have f1 := X1.fr (k * 3); have f2 := X1.fr (k * 3 + 1); have f3 := X1.fr (k * 3 + 2); have HX : Hid (CB w1 w.heap.size cs 30) := X1; have HB1 : Hid (Below w.heap.size w w1) := bel_on HB.out b1; clear X1 b1)
      go_roundw
      case rel =>
        refine ⟨k + 1, ((cs.setIfInBounds (k * 3) (.string (c k).code)).setIfInBounds (k * 3 + 1) (.int .i64 (c k).places)).setIfInBounds (k * 3 + 2) (.int .i64 (c k).step), by omega, by go_num, ((HX.out.set _ _).set _ _).set _ _, by simp [HS.out], fun j hj => ?_, ((HB1.out.setCell (by simp) _).setCell (by simp) _).setCell (by simp) _⟩
        have hs := HS.out
        by_cases hjk : j = k
        · subst hjk
          refine ⟨?_, ?_, ?_⟩
          · rw [get_set_ne (by omega), get_set_ne (by omega), get_set_eq (by omega)]
          · rw [get_set_ne (by omega), get_set_eq (by simp; omega)]
          · rw [get_set_eq (by simp; omega)]
        · have hj2 := HCS.out j (by omega)
          refine ⟨?_, ?_, ?_⟩ <;> rw [get_set_ne (by omega), get_set_ne (by omega), get_set_ne (by omega)]
          · exact hj2.1
          · exact hj2.2.1
          · exact hj2.2.2
      case measure => simp [intOf]; omega
    · obtain rfl : k = len := by omega
      have HI : Hid (CR wr (some ⟨w.heap.size, 0, none⟩) k c) := CR.of_block hC k c hcs
      have HX : Hid (∃ cs, CB wr w.heap.size cs 30 ∧ cs.size = k * 3) := ⟨cs, hC, hsz⟩
      have HB : Hid (Below w.heap.size w wr) := hB
      clear hC hcs hB
      go_wp2
      go_returns
      exact ⟨rfl, ⟨HI.out, HX.out⟩, HB.out⟩

theorem row_below {w w' : World} {base : Nat} {e : TypeId} {size : Nat} {v : Value} {n : Nat} {xs : List Value} (h : w.ownsRow base e size v n xs) (k : Below w.heap.size w w') : w'.ownsRow base e size v n xs := row_block h (fun g hg => k.block g (h.lt g hg).2)

end Go.Proofs.YtkplhiahfebmlaaDoor
