/- Frames that the laws make: their cells, and the laws' marks over them. Bounds of what Post leaves. -/
import Derived.Test.YtgnhpjlfdkpaiaaDoorFm
import Derived.Test.YtgnhpjlfdkpaiaaDoorGb2
import Derived.Test.YtgnhpjlfdkpaiaaDoorGe
namespace Go.Proofs.YtgnhpjlfdkpaiaaDoor
open Go.ChangeShapes Go.WideShapes Go.ChangeAt Go.RowKit
set_option linter.unusedVariables false
set_option linter.unusedSimpArgs false

set_option maxHeartbeats 2000000 in
theorem toCurS_cells (ad : Option Addr) (len cap : Nat) (c : Nat → C3) (w : World) (h : (len : Int) ≤ 1048576) (hr : CR w ad len c) :
    Calls Tryd.prog 96 #[.slice ad len cap] w fun e w' => e = .returned (.slice (some ⟨w.heap.size, 0, none⟩) len len) ∧ (CR w' (some ⟨w.heap.size, 0, none⟩) len c ∧ ∃ cs, CB w' w.heap.size cs 182 ∧ cs.size = len * 3) ∧ Below w.heap.size w w' := by
  have HR : Hid (CR w ad len c) := hr
  have hmk := mkCurs len h
  clear hr
  go_enter Tryd.func96, Tryd.ntmps96
  go_wp2
  go_loopw [4] (fun i wr => ∃ (k : Nat) (cs : Array Value), k ≤ len ∧ i = .int .i64 (k : Int) ∧ CB wr w.heap.size cs 182 ∧ cs.size = len * 3 ∧ (∀ j, j < k → cs[j * 3]? = some (.string (c j).code) ∧ cs[j * 3 + 1]? = some (.int .i64 (c j).places) ∧ cs[j * 3 + 2]? = some (.int .i64 (c j).step)) ∧ Below w.heap.size w wr) (fun i _ => len - (intOf i).toNat)
  case atStart => exact ⟨0, zeros3 len, Nat.zero_le _, rfl, CB.new _ _, zeros3_size _, fun j hj => by omega, (Below.refl _ _).alloc (Nat.le_refl _) _⟩
  case round =>
    obtain ⟨k, cs, hk, rfl, hC, hsz, hcs, hB⟩ := hrel
    by_cases hlt : k < len
    · obtain ⟨kb, off, rfl, hkb⟩ := HR.out.addr (by omega)
      obtain ⟨c1, c2, c3⟩ := (HR.out.below hB).cell hlt
      obtain ⟨v1, d1⟩ : ∃ v, cs[k * 3]? = some v := ⟨cs[k * 3]'(by omega), Array.getElem?_eq_getElem (by omega)⟩
      obtain ⟨v2, d2⟩ : ∃ v, cs[k * 3 + 1]? = some v := ⟨cs[k * 3 + 1]'(by omega), Array.getElem?_eq_getElem (by omega)⟩
      obtain ⟨v3, d3⟩ : ∃ v, cs[k * 3 + 2]? = some v := ⟨cs[k * 3 + 2]'(by omega), Array.getElem?_eq_getElem (by omega)⟩
      have HC : Hid (CB wr w.heap.size cs 182) := hC
      have HS : Hid (cs.size = len * 3) := hsz
      have HCS : Hid (∀ j, j < k → cs[j * 3]? = some (.string (c j).code) ∧ cs[j * 3 + 1]? = some (.int .i64 (c j).places) ∧ cs[j * 3 + 2]? = some (.int .i64 (c j).step)) := hcs
      have HB : Hid (Below w.heap.size w wr) := hB
      clear hC hsz hcs hB
      go_wp2_with (go_at_call 145; refine (toCur_any _ _ _ _).mono ?_; rintro e w1 ⟨rfl, b1⟩; have X1 : CB w1 w.heap.size cs 182 := HC.out.below b1 HC.out.lt; have x1 := (X1.cell (k * 3)).trans d1; have x2 := (X1.cell (k * 3 + 1)).trans d2; have x3 := (X1.cell (k * 3 + 2)).trans d3; have f1 := X1.fr (k * 3); have f2 := X1.fr (k * 3 + 1); have f3 := X1.fr (k * 3 + 2); have HX : Hid (CB w1 w.heap.size cs 182) := X1; have HB1 : Hid (Below w.heap.size w w1) := bel_on HB.out b1; clear X1 b1)
      go_roundw
      case rel =>
        refine ⟨k + 1, ((cs.setIfInBounds (k * 3) (.string (c k).code)).setIfInBounds (k * 3 + 1) (.int .i64 (c k).places)).setIfInBounds (k * 3 + 2) (.int .i64 (c k).step), by omega, by go_num, ((HX.out.set _ _).set _ _).set _ _, by simp [HS.out], fun j hj => ?_, ((HB1.out.setCell (by simp) _).setCell (by simp) _).setCell (by simp) _⟩
        have hs := HS.out
        by_cases hjk : j = k
        · subst hjk
          refine ⟨?_, ?_, ?_⟩
          · rw [get_set_ne (by omega), get_set_ne (by omega), get_set_eq (by omega)]
          · rw [get_set_ne (by omega), get_set_eq (by simp; omega)]
          · rw [get_set_eq (by simp; omega)]
        · have hj2 := HCS.out j (by omega)
          refine ⟨?_, ?_, ?_⟩ <;> rw [get_set_ne (by omega), get_set_ne (by omega), get_set_ne (by omega)]
          · exact hj2.1
          · exact hj2.2.1
          · exact hj2.2.2
      case measure => simp [intOf]; omega
    · obtain rfl : k = len := by omega
      have HI : Hid (CR wr (some ⟨w.heap.size, 0, none⟩) k c) := CR.of_block hC k c hcs
      have HX : Hid (∃ cs, CB wr w.heap.size cs 182 ∧ cs.size = k * 3) := ⟨cs, hC, hsz⟩
      have HB : Hid (Below w.heap.size w wr) := hB
      clear hC hcs hB
      go_wp2
      go_returns
      exact ⟨rfl, ⟨HI.out, HX.out⟩, HB.out⟩

set_option maxRecDepth 20000 in
set_option maxHeartbeats 2000000 in
theorem markAccS_any (b len cap base : Nat) (cs0 : Array Value) (w : World) (h : (len : Int) ≤ 1048576) (hC0 : CB w b cs0 182) (hs0 : cs0.size = len * 3) (hb : base ≤ b) :
    Calls Tryd.prog 106 #[.slice (some ⟨b, 0, none⟩) len cap, .int .i64 1] w fun e w' => e = .returned (.int .i64 (3 * (len : Int) + 1)) ∧ (∀ y, y < w.heap.size → y ≠ b → w'.heap[y]? = w.heap[y]?) ∧ Below base w w' := by
  have HC : Hid (CB w b cs0 182) := hC0
  have hblt := hC0.lt
  clear hC0
  go_enter Tryd.func106, Tryd.ntmps106
  go_wp2
  go_loopw [1, 5] (fun u i wr => ∃ (k : Nat) (cs : Array Value), k ≤ len ∧ i = .int .i64 (k : Int) ∧ u = .int .i64 (3 * (k : Int) + 1) ∧ CB wr b cs 182 ∧ cs.size = len * 3 ∧ (∀ y, y < w.heap.size → y ≠ b → wr.heap[y]? = w.heap[y]?) ∧ Below base w wr) (fun u i _ => len - (intOf i).toNat)
  case atStart => exact ⟨0, cs0, Nat.zero_le _, rfl, by simp, HC.out, hs0, fun y _ hy => rfl, Below.refl _ _⟩
  case round =>
    obtain ⟨k, cs, hk, rfl, rfl, hC, hs, hkeep, hB⟩ := hrel
    by_cases hlt : k < len
    · have hlt2 : (k : Int) < (len : Int) := by omega
      obtain ⟨v1, d1⟩ : ∃ v, cs[k * 3]? = some v := ⟨cs[k * 3]'(by omega), Array.getElem?_eq_getElem (by omega)⟩
      obtain ⟨v2, d2⟩ : ∃ v, cs[k * 3 + 1]? = some v := ⟨cs[k * 3 + 1]'(by omega), Array.getElem?_eq_getElem (by omega)⟩
      obtain ⟨v3, d3⟩ : ∃ v, cs[k * 3 + 2]? = some v := ⟨cs[k * 3 + 2]'(by omega), Array.getElem?_eq_getElem (by omega)⟩
      have hsz := hB.size
      have HCC : Hid (CB wr b cs 182) := hC
      have HS : Hid (cs.size = len * 3) := hs
      have HK : Hid (∀ y, y < w.heap.size → y ≠ b → wr.heap[y]? = w.heap[y]?) := hkeep
      have HB : Hid (Below base w wr) := hB
      clear hC hs hkeep hB
      go_wp2_with (go_at_call 112; refine (markText_is _ _ (by omega) (by omega)).mono ?_; rintro e w1 ⟨rfl, b1⟩; obtain ⟨TX, htx⟩ : ∃ TX, TX = mt (3 * (k : Int) + 1) := ⟨_, rfl⟩; rw [← htx]; clear htx; have X1 : CB w1 b cs 182 := HCC.out.below b1 HCC.out.lt; have x1 := (X1.cell (k * 3)).trans d1; have x2 := (X1.cell (k * 3 + 1)).trans d2; have x3 := (X1.cell (k * 3 + 2)).trans d3; have f1 := X1.fr (k * 3); have f2 := X1.fr (k * 3 + 1); have f3 := X1.fr (k * 3 + 2); have HX : Hid (CB w1 b cs 182) := X1; have HK1 : Hid (∀ y, y < w.heap.size → y ≠ b → w1.heap[y]? = w.heap[y]?) := (fun y h1 h2 => (b1.block y (by omega)).trans (HK.out y h1 h2)); have HB1 : Hid (Below base w w1) := HB.out.trans (b1.mono (by omega)); clear X1 b1)
      go_roundw
      case rel => exact ⟨k + 1, _, by omega, by go_num, by go_num, ((HX.out.set _ _).set _ _).set _ _, by simp [HS.out], fun y h1 h2 => (heap_set h2).trans ((heap_set h2).trans ((heap_set h2).trans (HK1.out y h1 h2))), ((HB1.out.setCell hb _).setCell hb _).setCell hb _⟩
      case measure => simp [intOf]; omega
    · obtain rfl : k = len := by omega
      have HN : Hid ((∀ y, y < w.heap.size → y ≠ b → wr.heap[y]? = w.heap[y]?) ∧ Below base w wr) := ⟨hkeep, hB⟩
      clear hC hs hkeep hB
      go_wp2
      go_returns
      exact ⟨rfl, HN.out.1, HN.out.2⟩

set_option maxRecDepth 20000 in
set_option maxHeartbeats 2000000 in
theorem toFrame_cells (fa : Option Addr) (len cap : Nat) (c : Nat → C3) (d u : Int) (w : World) (h : (len : Int) ≤ 1048576) (hr : CR w fa len c) :
    Calls Tryd.prog 31 #[.agg #[.slice fa len cap, .int .i64 d, .int .i64 u]] w fun e w' => ∃ b, e = .returned (.agg #[.slice (some ⟨b, 0, none⟩) len len, .int .i64 d, .int .i64 u]) ∧ w.heap.size ≤ b ∧ CR w' (some ⟨b, 0, none⟩) len c ∧ (∃ cs, CB w' b cs 182 ∧ cs.size = len * 3) ∧ Below w.heap.size w w' := by
  have HR : Hid (CR w fa len c) := hr
  clear hr
  go_enter Tryd.func31, Tryd.ntmps31
  go_wp2_with (go_at_call 96; refine (toCurS_cells _ _ _ c _ h (HR.out.below (by go_grown))).mono ?_; rintro e w1 ⟨rfl, ⟨o1, cs, c1, s1⟩, b1⟩; have c2 : CB w1 (w.heap.size + 1 + 1 + 1) cs 182 := (by simpa using c1); have HCC : Hid (CB w1 (w.heap.size + 1 + 1 + 1) cs 182) := c2; have HSS : Hid (cs.size = len * 3) := s1; clear c1 c2 s1; have X0 : CB w1 w.heap.size #[.slice fa len cap, .int .i64 d, .int .i64 u] 59 := (((CB.new _ _).alloc _).alloc _).below b1 (by simp; omega); obtain ⟨C1, C2, b2⟩ := three_blocks b1; have j1 := X0.cell 1; have j2 := X0.cell 2; have k0 := C2.cell 0; have k1 := C2.cell 1; have k2 := C2.cell 2; have m0 := C1.cell 0; have m1 := C1.cell 1; have m2 := C1.cell 2; simp at j1 j2 k0 k1 k2 m0 m1 m2; have f0 := C2.fr 0; have f1 := C2.fr 1; have f2 := C2.fr 2; have g0 := C1.fr 0; have g1 := C1.fr 1; have g2 := C1.fr 2; have HB : Hid (Below w.heap.size w w1) := b2; have HC1 : Hid (CB w1 (w.heap.size + 1) #[.slice none 0 0, .int .i64 0, .int .i64 0] 26) := C1; have o2 : CR w1 (some ⟨w.heap.size + 1 + 1 + 1, 0, none⟩) len c := (by simpa using o1); have HO : Hid (CR w1 (some ⟨w.heap.size + 1 + 1 + 1, 0, none⟩) len c) := o2; clear o1 b1 o2 b2 C1 C2 X0)
  have hX := (((HC1.out.other (c := w.heap.size + 1 + 1) (o := 0) (.slice (some ⟨w.heap.size + 1 + 1 + 1, 0, none⟩) len len) (by omega)).other (c := w.heap.size + 1 + 1) (o := 1) (.int .i64 d) (by omega)).other (c := w.heap.size + 1 + 1) (o := 2) (.int .i64 u) (by omega))
  have hX := ((hX.set 0 (.slice (some ⟨w.heap.size + 1 + 1 + 1, 0, none⟩) len len)).set 1 (.int .i64 d)).set 2 (.int .i64 u)
  have hY : CR _ (some ⟨w.heap.size + 1 + 1 + 1, 0, none⟩) len c := ((((((HO.out.other' (c' := w.heap.size + 1 + 1) (o := 0) (.slice (some ⟨w.heap.size + 1 + 1 + 1, 0, none⟩) len len) (by omega)).other' (c' := w.heap.size + 1 + 1) (o := 1) (.int .i64 d) (by omega)).other' (c' := w.heap.size + 1 + 1) (o := 2) (.int .i64 u) (by omega)).other' (c' := w.heap.size + 1) (o := 0) (.slice (some ⟨w.heap.size + 1 + 1 + 1, 0, none⟩) len len) (by omega)).other' (c' := w.heap.size + 1) (o := 1) (.int .i64 d) (by omega)).other' (c' := w.heap.size + 1) (o := 2) (.int .i64 u) (by omega))
  have hZ := (((((HB.out.setCell (p := ⟨w.heap.size + 1 + 1, 0, none⟩) (by simp; omega) (.slice (some ⟨w.heap.size + 1 + 1 + 1, 0, none⟩) len len)).setCell (p := ⟨w.heap.size + 1 + 1, 1, none⟩) (by simp; omega) (.int .i64 d)).setCell (p := ⟨w.heap.size + 1 + 1, 2, none⟩) (by simp; omega) (.int .i64 u)).setCell (p := ⟨w.heap.size + 1, 0, none⟩) (by simp) (.slice (some ⟨w.heap.size + 1 + 1 + 1, 0, none⟩) len len)).setCell (p := ⟨w.heap.size + 1, 1, none⟩) (by simp) (.int .i64 d)).setCell (p := ⟨w.heap.size + 1, 2, none⟩) (by simp) (.int .i64 u)
  have hW := ((((((HCC.out.other (c := w.heap.size + 1 + 1) (o := 0) (.slice (some ⟨w.heap.size + 1 + 1 + 1, 0, none⟩) len len) (by omega)).other (c := w.heap.size + 1 + 1) (o := 1) (.int .i64 d) (by omega)).other (c := w.heap.size + 1 + 1) (o := 2) (.int .i64 u) (by omega)).other (c := w.heap.size + 1) (o := 0) (.slice (some ⟨w.heap.size + 1 + 1 + 1, 0, none⟩) len len) (by omega)).other (c := w.heap.size + 1) (o := 1) (.int .i64 d) (by omega)).other (c := w.heap.size + 1) (o := 2) (.int .i64 u) (by omega))
  have e0 := hX.cell 0
  have e1 := hX.cell 1
  have e2 := hX.cell 2
  simp at e0 e1 e2
  clear hX j1 j2 k0 k1 k2 m0 m1 m2 f0 f1 f2 g0 g1 g2 HC1 HO HB
  generalize (World.setCell _ _ _) = W5 at e0 e1 e2 hY hZ hW ⊢
  refine bodyPost_ret (by simp [results, Tryd.results31, go_sem, e0, e1, e2]; try rfl) rfl ?_
  exact ⟨_, rfl, by omega, hY, ⟨_, hW, HSS.out⟩, hZ⟩

set_option maxHeartbeats 1000000 in
theorem markFrame_is (b len cap : Nat) (d u : Int) (cs : Array Value) (w : World) (h : (len : Int) ≤ 1048576) (hC : CB w b cs 182) (hs : cs.size = len * 3) :
    Calls Tryd.prog 42 #[.agg #[.slice (some ⟨b, 0, none⟩) len cap, .int .i64 d, .int .i64 u], .int .i64 1] w fun e w' => e = .returned (.int .i64 (3 * (len : Int) + 1)) ∧ KR b (b + 1) w w' := by
  have HC : Hid (CB w b cs 182) := hC
  have hb := hC.lt
  clear hC
  go_enter Tryd.func42, Tryd.ntmps42
  go_wp2_with (go_at_call 106; refine (markAccS_any _ _ _ b cs _ h (HC.out.alloc _) hs (Nat.le_refl _)).mono ?_; rintro e w1 ⟨rfl, hk, b1⟩; have HK : Hid (KR b (b + 1) w w1) := ⟨b1.os, b1.tape, b1.output, Nat.le_trans (by simp) b1.size, fun k hk1 hl => (hk k (by simp; omega) (by omega)).trans (((Below.refl _ w).alloc (Nat.le_refl _) _).block k hk1)⟩; clear hk b1)
  go_returns
  exact ⟨rfl, HK.out⟩

end Go.Proofs.YtgnhpjlfdkpaiaaDoor


namespace Go.Proofs.YtgnhpjlfdkpaiaaDoor
open Go Go.RowKit
set_option linter.unusedVariables false
theorem po_bound {len : Nat} {c : Nat → C3} {d u : Int} {n : Nat} {es : Nat → E4} {hd : Int} {e : E4} (hn : ∀ j, j < n → ((es j).n : Int) ≤ 1048576) (he : (e.n : Int) ≤ 1048576) :
    poN len c d u n es hd e ≤ 1001 ∧ ∀ j, j < poN len c d u n es hd e → (((poE len c d u n es hd e) j).n : Int) ≤ 1048576 := by
  cases h1 : leB len c d u n es hd with
  | false => simp [poN, h1]
  | true =>
    have h0 := (leB_out h1).2.1
    by_cases h2 : enB len c d u e = true ∧ n < 1000
    · refine ⟨by simp [poN, h1, h2]; omega, fun j hj => ?_⟩
      have hn2 : poN len c d u n es hd e = n + 1 := by simp [poN, h1, h2]
      rw [hn2] at hj
      have he2 : poE len c d u n es hd e = snE es n e := by simp [poE, h1, h2]
      rw [he2]
      by_cases hjn : j = n
      · rw [hjn, snE_new]; exact he
      · rw [snE_old (by omega)]; exact hn j (by omega)
    · refine ⟨by simp only [poN, h1, if_true]; rw [if_neg h2]; omega, fun j hj => ?_⟩
      simp only [poN, h1, if_true] at hj
      rw [if_neg h2] at hj
      simp only [poE, h1, if_true]
      rw [if_neg h2]; exact hn j hj
end Go.Proofs.YtgnhpjlfdkpaiaaDoor

