/- Contracts of the laws' own functions that copy and compare lines, entries and rows of them. -/
import Derived.Test.YtapailihjlfkgaaDoorLq
import Derived.BigRegion
namespace Go.Proofs.YtapailihjlfkgaaDoor
open Go.ChangeShapes Go.WideShapes Go.ChangeAt Go.RowKit
set_option linter.unusedVariables false
set_option linter.unusedSimpArgs false

set_option maxRecDepth 100000 in
theorem mkLines (n : Nat) (h : (n : Int) ≤ 1048576) (w : World) : (Instr.makeSlice 35 (.int .i64 (n : Int)) (.int .i64 (n : Int))).run Tryd.prog w = .ok (.slice (some ⟨w.heap.size, 0, none⟩) n n) (w.alloc (.cells (zeros5 n) 78)) := by
  obtain ⟨i, hi⟩ : ∃ i, Tryd.prog.info? 78 = some i := ⟨_, rfl⟩
  have hz : i.zero = some (.agg #[.int .i64 0, .int .i64 0, .int .i64 0, .int .i64 0, .int .i64 0]) := by
    have : (Tryd.prog.info? 78).bind (·.zero) = some (.agg #[.int .i64 0, .int .i64 0, .int .i64 0, .int .i64 0, .int .i64 0]) := by kernel_rfl
    rw [hi] at this; exact this
  have hs : i.size = 5 := by
    have : (Tryd.prog.info? 78).map (·.size) = some 5 := by kernel_rfl
    rw [hi] at this; simpa using this
  have hb : i.bytes = 40 := by
    have : (Tryd.prog.info? 78).map (·.bytes) = some 40 := by kernel_rfl
    rw [hi] at this; simpa using this
  have hr := run_make (P := Tryd.prog) w 35 78 i (.agg #[.int .i64 0, .int .i64 0, .int .i64 0, .int .i64 0, .int .i64 0]) Tryd.underlying35 hi hz .i64 .i64 n n (by omega) (by omega) (by rw [hb]; omega) (by omega)
  simp only [Int.toNat_natCast, hs] at hr
  exact hr

set_option maxRecDepth 100000 in
theorem mkEntries (n : Nat) (h : (n : Int) ≤ 1048576) (w : World) : (Instr.makeSlice 27 (.int .i64 (n : Int)) (.int .i64 (n : Int))).run Tryd.prog w = .ok (.slice (some ⟨w.heap.size, 0, none⟩) n n) (w.alloc (.cells (zeros4e n) 37)) := by
  obtain ⟨i, hi⟩ : ∃ i, Tryd.prog.info? 37 = some i := ⟨_, rfl⟩
  have hz : i.zero = some (.agg #[.int .i64 0, .int .i64 0, .string ByteArray.empty, .slice none 0 0]) := by
    have : (Tryd.prog.info? 37).bind (·.zero) = some (.agg #[.int .i64 0, .int .i64 0, .string ByteArray.empty, .slice none 0 0]) := by kernel_rfl
    rw [hi] at this; exact this
  have hs : i.size = 4 := by
    have : (Tryd.prog.info? 37).map (·.size) = some 4 := by kernel_rfl
    rw [hi] at this; simpa using this
  have hb : i.bytes = 56 := by
    have : (Tryd.prog.info? 37).map (·.bytes) = some 56 := by kernel_rfl
    rw [hi] at this; simpa using this
  have hr := run_make (P := Tryd.prog) w 27 37 i (.agg #[.int .i64 0, .int .i64 0, .string ByteArray.empty, .slice none 0 0]) Tryd.underlying27 hi hz .i64 .i64 n n (by omega) (by omega) (by rw [hb]; omega) (by omega)
  simp only [Int.toNat_natCast, hs] at hr
  exact hr

set_option maxHeartbeats 1000000 in
theorem toLineS_any (ad : Option Addr) (len cap : Nat) (c : Nat → L5) (w : World) (h : (len : Int) ≤ 1048576) (hr : LR w ad len c) :
    Calls Tryd.prog 131 #[.slice ad len cap] w fun e w' => e = .returned (.slice (some ⟨w.heap.size, 0, none⟩) len len) ∧ OwnL w' w.heap.size len c 78 ∧ Below w.heap.size w w' := by
  have HR : Hid (LR w ad len c) := hr
  have hmk := mkLines len h
  clear hr
  go_enter Tryd.func131, Tryd.ntmps131
  go_wp2
  go_loopw [4] (fun i wr => ∃ (k : Nat) (cs : Array Value), k ≤ len ∧ i = .int .i64 (k : Int) ∧ CB wr w.heap.size cs 78 ∧ cs.size = len * 5 ∧ (∀ j, j < k → Cells5 cs (j * 5) (c j)) ∧ Below w.heap.size w wr) (fun i _ => len - (intOf i).toNat)
  case atStart => exact ⟨0, zeros5 len, Nat.zero_le _, rfl, CB.new _ _, zeros5_size _, fun j hj => by omega, (Below.refl _ _).alloc (Nat.le_refl _) _⟩
  case round =>
    obtain ⟨k, cs, hk, rfl, hC, hsz, hcs, hB⟩ := hrel
    by_cases hlt : k < len
    · obtain ⟨kb, off, rfl, hkb⟩ := HR.out.addr (by omega)
      obtain ⟨c1, c2, c3, c4, c5⟩ := (HR.out.below hB).cell hlt
      obtain ⟨v1, d1⟩ : ∃ v, cs[k * 5]? = some v := ⟨cs[k * 5]'(by omega), Array.getElem?_eq_getElem (by omega)⟩
      obtain ⟨v2, d2⟩ : ∃ v, cs[k * 5 + 1]? = some v := ⟨cs[k * 5 + 1]'(by omega), Array.getElem?_eq_getElem (by omega)⟩
      obtain ⟨v3, d3⟩ : ∃ v, cs[k * 5 + 2]? = some v := ⟨cs[k * 5 + 2]'(by omega), Array.getElem?_eq_getElem (by omega)⟩
      obtain ⟨v4, d4⟩ : ∃ v, cs[k * 5 + 3]? = some v := ⟨cs[k * 5 + 3]'(by omega), Array.getElem?_eq_getElem (by omega)⟩
      obtain ⟨v5, d5⟩ : ∃ v, cs[k * 5 + 4]? = some v := ⟨cs[k * 5 + 4]'(by omega), Array.getElem?_eq_getElem (by omega)⟩
      have HC : Hid (CB wr w.heap.size cs 78) := hC
      have HS : Hid (cs.size = len * 5) := hsz
      have HCS : Hid (∀ j, j < k → Cells5 cs (j * 5) (c j)) := hcs
      have HB : Hid (Below w.heap.size w wr) := hB
      clear hC hsz hcs hB
      go_wp2_with (go_at_call 136; refine (toLine_any (c k) _).mono ?_; rintro e w1 ⟨rfl, b1⟩; unfold L5.agg; have X1 : CB w1 w.heap.size cs 78 := HC.out.below b1 HC.out.lt; have x1 := (X1.cell (k * 5)).trans d1; have x2 := (X1.cell (k * 5 + 1)).trans d2; have x3 := (X1.cell (k * 5 + 2)).trans d3; have x4 := (X1.cell (k * 5 + 3)).trans d4; have x5 := (X1.cell (k * 5 + 4)).trans d5; have f1 := X1.fr (k * 5); have f2 := X1.fr (k * 5 + 1); have f3 := X1.fr (k * 5 + 2); have f4 := X1.fr (k * 5 + 3); have f5 := X1.fr (k * 5 + 4); have HX : Hid (CB w1 w.heap.size cs 78) := X1; have HB1 : Hid (Below w.heap.size w w1) := bel_on HB.out b1; clear X1 b1)
      go_roundw
      case rel =>
        refine ⟨k + 1, put5 cs (k * 5) (c k), by omega, by go_num, ((((HX.out.set _ _).set _ _).set _ _).set _ _).set _ _, by rw [put5_size]; exact HS.out, fun j hj => ?_, ((((HB1.out.setCell (by simp) _).setCell (by simp) _).setCell (by simp) _).setCell (by simp) _).setCell (by simp) _⟩
        have hs := HS.out
        by_cases hjk : j = k
        · subst hjk; exact put5_get (by omega)
        · exact put5_other (HCS.out j (by omega)) (by omega)
      case measure => simp [intOf]; omega
    · obtain rfl : k = len := by omega
      have HI : Hid (OwnL wr w.heap.size k c 78) := ⟨cs, hC, hsz, hcs⟩
      have HB : Hid (Below w.heap.size w wr) := hB
      clear hC hcs hB
      go_wp2
      go_returns
      exact ⟨rfl, HI.out, HB.out⟩

set_option maxHeartbeats 4000000 in
theorem eqLineS_same (ad be : Option Addr) (len cap cap2 : Nat) (c : Nat → L5) (w : World) (h : (len : Int) ≤ 1048576) (h1 : LR w ad len c) (h2 : LR w be len c) :
    Calls Tryd.prog 132 #[.slice ad len cap, .slice be len cap2] w fun e w' => e = .returned (.bool true) ∧ Below w.heap.size w w' := by
  have H1 : Hid (LR w ad len c) := h1
  have H2 : Hid (LR w be len c) := h2
  clear h1 h2
  go_enter Tryd.func132, Tryd.ntmps132
  go_wp2
  go_loopw [5] (fun i wr => ∃ (k : Nat), k ≤ len ∧ i = .int .i64 (k : Int) ∧ Below w.heap.size w wr) (fun i _ => len - (intOf i).toNat)
  case atStart => exact ⟨0, Nat.zero_le _, rfl, Below.refl _ _⟩
  case round =>
    obtain ⟨k, hk, rfl, hB⟩ := hrel
    by_cases hlt : k < len
    · obtain ⟨kb, off, rfl, _⟩ := H1.out.addr (by omega)
      obtain ⟨kb2, off2, rfl, _⟩ := H2.out.addr (by omega)
      have A1 := (H1.out.below hB).cell hlt
      have A2 := (H2.out.below hB).cell hlt
      generalize hx : c k = x at A1 A2
      obtain ⟨xa, xd, xc, xm, xb⟩ := x
      clear hx
      obtain ⟨c1, c2, c3, c4, c5⟩ := A1
      obtain ⟨e1, e2, e3, e4, e5⟩ := A2
      simp only at c1 c2 c3 c4 c5 e1 e2 e3 e4 e5
      have hBd : Below w.heap.size w wr.drew := hB.drew
      clear hB
      go_wp2
      go_region_held3 (fun w' => (w'.cell? ⟨kb, off + k * 5, none⟩ = some (.int .i64 xa) ∧ w'.cell? ⟨kb, off + k * 5 + 1, none⟩ = some (.int .i64 xd) ∧ w'.cell? ⟨kb, off + k * 5 + 2, none⟩ = some (.int .i64 xc) ∧ w'.cell? ⟨kb, off + k * 5 + 3, none⟩ = some (.int .i64 xm) ∧ w'.cell? ⟨kb, off + k * 5 + 4, none⟩ = some (.int .i64 xb)) ∧ (w'.cell? ⟨kb2, off2 + k * 5, none⟩ = some (.int .i64 xa) ∧ w'.cell? ⟨kb2, off2 + k * 5 + 1, none⟩ = some (.int .i64 xd) ∧ w'.cell? ⟨kb2, off2 + k * 5 + 2, none⟩ = some (.int .i64 xc) ∧ w'.cell? ⟨kb2, off2 + k * 5 + 3, none⟩ = some (.int .i64 xm) ∧ w'.cell? ⟨kb2, off2 + k * 5 + 4, none⟩ = some (.int .i64 xb)) ∧ Below w.heap.size w w')
        (refine ⟨⟨?_, ?_, ?_, ?_, ?_⟩, ⟨?_, ?_, ?_, ?_, ?_⟩, ?_⟩ <;> first | assumption | (simp [*]; done))
        (first
        | (go_at_call 137; refine (eqLine_same ⟨xa, xd, xc, xm, xb⟩ _).mono ?_; rintro e w2 ⟨rfl, b2⟩; have q0 : w2.cell? ⟨kb, off + k * 5, none⟩ = some (.int .i64 xa) := keep_cell b2 (by simp [*]); have q1 : w2.cell? ⟨kb, off + k * 5 + 1, none⟩ = some (.int .i64 xd) := keep_cell b2 (by simp [*]); have q2 : w2.cell? ⟨kb, off + k * 5 + 2, none⟩ = some (.int .i64 xc) := keep_cell b2 (by simp [*]); have q3 : w2.cell? ⟨kb, off + k * 5 + 3, none⟩ = some (.int .i64 xm) := keep_cell b2 (by simp [*]); have q8 : w2.cell? ⟨kb, off + k * 5 + 4, none⟩ = some (.int .i64 xb) := keep_cell b2 (by simp [*]); have r0 : w2.cell? ⟨kb2, off2 + k * 5, none⟩ = some (.int .i64 xa) := keep_cell b2 (by simp [*]); have r1 : w2.cell? ⟨kb2, off2 + k * 5 + 1, none⟩ = some (.int .i64 xd) := keep_cell b2 (by simp [*]); have r2 : w2.cell? ⟨kb2, off2 + k * 5 + 2, none⟩ = some (.int .i64 xc) := keep_cell b2 (by simp [*]); have r3 : w2.cell? ⟨kb2, off2 + k * 5 + 3, none⟩ = some (.int .i64 xm) := keep_cell b2 (by simp [*]); have r8 : w2.cell? ⟨kb2, off2 + k * 5 + 4, none⟩ = some (.int .i64 xb) := keep_cell b2 (by simp [*]); have q4 : Below w.heap.size w w2 := bel_on (by assumption) b2))
      go_wp2
      go_roundw
      case rel => exact ⟨k + 1, by omega, by go_num, q4⟩
      case measure => simp [intOf]; omega
    · have HB : Hid (Below w.heap.size w wr) := hB
      clear hB
      go_wp2
      go_returns
      exact ⟨rfl, HB.out⟩

theorem keep_fr {W W' : World} {b o : Nat} (h : Below W.heap.size W W') (hb : b < W.heap.size) (hc : W.frozen? ⟨b, o, none⟩ = false) : W'.frozen? ⟨b, o, none⟩ = false := by
  have e := h.block b hb
  unfold World.frozen? at hc ⊢
  simp only [e]; exact hc

theorem three_blocks {w w1 : World} {X : Obj} {cs ds : Array Value} {t u : TypeId} (b : Below (((w.alloc X).alloc (.cells cs t (0, 0))).alloc (.cells ds u (0, 0))).heap.size (((w.alloc X).alloc (.cells cs t (0, 0))).alloc (.cells ds u (0, 0))) w1) :
    CB w1 (w.heap.size + 1) cs t ∧ CB w1 (w.heap.size + 1 + 1) ds u ∧ Below w.heap.size w w1 := by
  refine ⟨?_, ?_, ?_⟩
  · exact ((CB.newAt (by simp) cs t).alloc _).below b (by simp)
  · exact (CB.newAt (by simp) ds u).below b (by simp)
  · exact bel_on (by go_grown) b

set_option maxRecDepth 20000 in
set_option maxHeartbeats 1000000 in
theorem toEntry_any (d r : Int) (s : ByteArray) (ad : Option Addr) (n cap : Nat) (ls : Nat → L5) (w : World) (h : (n : Int) ≤ 1048576) (hr : LR w ad n ls) :
    Calls Tryd.prog 113 #[.agg #[.int .i64 d, .int .i64 r, .string s, .slice ad n cap]] w fun e w' => ∃ b, e = .returned (.agg #[.int .i64 d, .int .i64 r, .string s, .slice (some ⟨b, 0, none⟩) n n]) ∧ w.heap.size ≤ b ∧ OwnL w' b n ls 78 ∧ Below w.heap.size w w' := by
  have HR : Hid (LR w ad n ls) := hr
  clear hr
  go_enter Tryd.func113, Tryd.ntmps113
  go_wp2_with (go_at_call 131; refine (toLineS_any _ _ _ ls _ h (HR.out.below (by go_grown))).mono ?_; rintro e w1 ⟨rfl, o1, b1⟩; obtain ⟨C1, C2, b2⟩ := three_blocks b1; have k0 := C2.cell 0; have k1 := C2.cell 1; have k2 := C2.cell 2; have k3 := C2.cell 3; have m0 := C1.cell 0; have m1 := C1.cell 1; have m2 := C1.cell 2; have m3 := C1.cell 3; simp at k0 k1 k2 k3 m0 m1 m2 m3; have f0 := C2.fr 3; have g0 := C1.fr 0; have g1 := C1.fr 1; have g2 := C1.fr 2; have g3 := C1.fr 3; have HB : Hid (Below w.heap.size w w1) := b2; have HC1 : Hid (CB w1 (w.heap.size + 1) #[.int .i64 0, .int .i64 0, .string ⟨#[]⟩, .slice none 0 0] 37) := C1; have o2 : OwnL w1 (w.heap.size + 1 + 1 + 1) n ls 78 := (by simpa using o1); have HO : Hid (OwnL w1 (w.heap.size + 1 + 1 + 1) n ls 78) := o2; clear o1 b1 o2 b2 C1 C2)
  have hX := ((((HC1.out.other (c := w.heap.size + 1 + 1) (o := 3) (.slice (some ⟨w.heap.size + 1 + 1 + 1, 0, none⟩) n n) (by omega)).set 0 (.int .i64 d)).set 1 (.int .i64 r)).set 2 (.string s)).set 3 (.slice (some ⟨w.heap.size + 1 + 1 + 1, 0, none⟩) n n)
  have hY := ((((HO.out.other (c := w.heap.size + 1 + 1) (o := 3) (v := .slice (some ⟨w.heap.size + 1 + 1 + 1, 0, none⟩) n n) (by omega)).other (c := w.heap.size + 1) (o := 0) (v := .int .i64 d) (by omega)).other (c := w.heap.size + 1) (o := 1) (v := .int .i64 r) (by omega)).other (c := w.heap.size + 1) (o := 2) (v := .string s) (by omega)).other (c := w.heap.size + 1) (o := 3) (v := .slice (some ⟨w.heap.size + 1 + 1 + 1, 0, none⟩) n n) (by omega)
  have hZ := ((((HB.out.setCell (p := ⟨w.heap.size + 1 + 1, 3, none⟩) (by simp; omega) (.slice (some ⟨w.heap.size + 1 + 1 + 1, 0, none⟩) n n)).setCell (p := ⟨w.heap.size + 1, 0, none⟩) (by simp) (.int .i64 d)).setCell (p := ⟨w.heap.size + 1, 1, none⟩) (by simp) (.int .i64 r)).setCell (p := ⟨w.heap.size + 1, 2, none⟩) (by simp) (.string s)).setCell (p := ⟨w.heap.size + 1, 3, none⟩) (by simp) (.slice (some ⟨w.heap.size + 1 + 1 + 1, 0, none⟩) n n)
  have e0 := hX.cell 0
  have e1 := hX.cell 1
  have e2 := hX.cell 2
  have e3 := hX.cell 3
  simp at e0 e1 e2 e3
  clear hX k0 k1 k2 k3 m0 m1 m2 m3 f0 g0 g1 g2 g3 HC1 HO HB
  generalize (World.setCell _ _ _) = W5 at e0 e1 e2 e3 hY hZ ⊢
  refine bodyPost_ret (by simp [results, Tryd.results113, go_sem, e0, e1, e2, e3]; try rfl) rfl ?_
  exact ⟨_, rfl, by omega, hY, hZ⟩

set_option maxHeartbeats 1000000 in
theorem eqEntry_same (d r : Int) (s : ByteArray) (ad be : Option Addr) (n cap cap2 : Nat) (ls : Nat → L5) (w : World) (h : (n : Int) ≤ 1048576) (h1 : LR w ad n ls) (h2 : LR w be n ls) :
    Calls Tryd.prog 115 #[.agg #[.int .i64 d, .int .i64 r, .string s, .slice ad n cap], .agg #[.int .i64 d, .int .i64 r, .string s, .slice be n cap2]] w fun e w' => e = .returned (.bool true) ∧ Below w.heap.size w w' := by
  have H1 : Hid (LR w ad n ls) := h1
  have H2 : Hid (LR w be n ls) := h2
  clear h1 h2
  go_enter Tryd.func115, Tryd.ntmps115
  go_wp2_with (go_at_call 132; refine (eqLineS_same _ _ _ _ _ ls _ h (H1.out.below (by go_grown)) (H2.out.below (by go_grown))).mono ?_; rintro e w1 ⟨rfl, b1⟩; have b2 : Below w.heap.size w w1 := bel_on (by go_grown) b1; have HB : Hid (Below w.heap.size w w1) := b2; clear b1 b2)
  go_returns
  exact ⟨rfl, HB.out⟩

set_option maxHeartbeats 2000000 in
theorem toEntryS_any (ad : Option Addr) (len cap : Nat) (c : Nat → E4) (w : World) (h : (len : Int) ≤ 1048576) (hn : ∀ j, j < len → ((c j).n : Int) ≤ 1048576) (hr : ER w ad len c) :
    Calls Tryd.prog 86 #[.slice ad len cap] w fun e w' => e = .returned (.slice (some ⟨w.heap.size, 0, none⟩) len len) ∧ (∃ bl, OwnE w' w.heap.size len len c bl 37 78 ∧ ∀ j, j < len → w.heap.size < bl j) ∧ Below w.heap.size w w' := by
  have HR : Hid (ER w ad len c) := hr
  have HN : Hid (∀ j, j < len → ((c j).n : Int) ≤ 1048576) := hn
  have hmk := mkEntries len h
  clear hr hn
  go_enter Tryd.func86, Tryd.ntmps86
  go_wp2
  go_loopw [4] (fun i wr => ∃ (k : Nat) (bl : Nat → Nat), k ≤ len ∧ i = .int .i64 (k : Int) ∧ OwnE wr w.heap.size len k c bl 37 78 ∧ (∀ j, j < k → w.heap.size < bl j) ∧ Below w.heap.size w wr) (fun i _ => len - (intOf i).toNat)
  case atStart => exact ⟨0, fun _ => 0, Nat.zero_le _, rfl, ⟨⟨zeros4e len, CB.new _ _, zeros4e_size _, fun j hj => by omega⟩, fun j hj => by omega, fun j hj => by omega, fun i j hi => by omega⟩, fun j hj => by omega, (Below.refl _ _).alloc (Nat.le_refl _) _⟩
  case round =>
    obtain ⟨k, bl, hk, rfl, hO, hbl, hB⟩ := hrel
    have HO : Hid (OwnE wr w.heap.size len k c bl 37 78) := hO
    have HL : Hid (∀ j, j < k → w.heap.size < bl j) := hbl
    have HB : Hid (Below w.heap.size w wr) := hB
    by_cases hlt : k < len
    · obtain ⟨kb, off, rfl, hkb⟩ := HR.out.addr (by omega)
      obtain ⟨c1, c2, c3, la, lcap, c4, hl⟩ := (HR.out.below hB).cell hlt
      obtain ⟨cs, hC, hsz, _⟩ := hO.main
      obtain ⟨v1, d1⟩ : ∃ v, cs[k * 4]? = some v := ⟨cs[k * 4]'(by omega), Array.getElem?_eq_getElem (by omega)⟩
      obtain ⟨v2, d2⟩ : ∃ v, cs[k * 4 + 1]? = some v := ⟨cs[k * 4 + 1]'(by omega), Array.getElem?_eq_getElem (by omega)⟩
      obtain ⟨v3, d3⟩ : ∃ v, cs[k * 4 + 2]? = some v := ⟨cs[k * 4 + 2]'(by omega), Array.getElem?_eq_getElem (by omega)⟩
      obtain ⟨v4, d4⟩ : ∃ v, cs[k * 4 + 3]? = some v := ⟨cs[k * 4 + 3]'(by omega), Array.getElem?_eq_getElem (by omega)⟩
      have HC : Hid (CB wr w.heap.size cs 37) := hC
      have HLR : Hid (LR wr la (c k).n (c k).ls) := hl
      have hnk := HN.out k hlt
      have HD : Hid ((∃ v, cs[k * 4]? = some v)) := ⟨_, d1⟩
      clear hC hsz hB hO hbl hl
      go_wp2_with (go_at_call 113; refine (toEntry_any _ _ _ _ _ _ (c k).ls _ hnk HLR.out).mono ?_; rintro e w1 ⟨b, rfl, hb, o1, b1⟩; have X1 : CB w1 w.heap.size cs 37 := HC.out.below b1 HC.out.lt; have x1 := (X1.cell (k * 4)).trans d1; have x2 := (X1.cell (k * 4 + 1)).trans d2; have x3 := (X1.cell (k * 4 + 2)).trans d3; have x4 := (X1.cell (k * 4 + 3)).trans d4; have f1 := X1.fr (k * 4); have f2 := X1.fr (k * 4 + 1); have f3 := X1.fr (k * 4 + 2); have f4 := X1.fr (k * 4 + 3); have HP : Hid (wr.heap.size ≤ b) := hb; have HO1 : Hid (OwnL w1 b (c k).n (c k).ls 78) := o1; have HX : Hid (OwnE w1 w.heap.size len k c bl 37 78) := HO.out.keep b1; have HB1 : Hid (Below w.heap.size w w1) := bel_on HB.out b1; clear X1 b1 hb o1)
      go_roundw
      case rel =>
        have hlt2 := HC.out.lt
        have hp := HP.out
        exact ⟨k + 1, _, by omega, by go_num, HX.out.step hlt HO1.out (by omega) (fun j hj => by have := (HO.out.own j hj).lt; omega), fun j hj => by
          by_cases hjk : j = k
          · simp only [if_pos hjk]; omega
          · simp only [if_neg hjk]; exact HL.out j (by omega), (((HB1.out.setCell (by simp) _).setCell (by simp) _).setCell (by simp) _).setCell (by simp) _⟩
      case measure => simp [intOf]; omega
    · obtain rfl : k = len := by omega
      clear hO hB hbl
      go_wp2
      go_returns
      exact ⟨rfl, ⟨bl, HO.out, HL.out⟩, HB.out⟩

set_option maxHeartbeats 4000000 in
theorem eqEntryS_same (ad be : Option Addr) (len cap cap2 : Nat) (c : Nat → E4) (w : World) (h : (len : Int) ≤ 1048576) (hn : ∀ j, j < len → ((c j).n : Int) ≤ 1048576) (h1 : ER w ad len c) (h2 : ER w be len c) :
    Calls Tryd.prog 89 #[.slice ad len cap, .slice be len cap2] w fun e w' => e = .returned (.bool true) ∧ Below w.heap.size w w' := by
  have H1 : Hid (ER w ad len c) := h1
  have H2 : Hid (ER w be len c) := h2
  have HN : Hid (∀ j, j < len → ((c j).n : Int) ≤ 1048576) := hn
  clear h1 h2 hn
  go_enter Tryd.func89, Tryd.ntmps89
  go_wp2
  go_loopw [5] (fun i wr => ∃ (k : Nat), k ≤ len ∧ i = .int .i64 (k : Int) ∧ Below w.heap.size w wr) (fun i _ => len - (intOf i).toNat)
  case atStart => exact ⟨0, Nat.zero_le _, rfl, Below.refl _ _⟩
  case round =>
    obtain ⟨k, hk, rfl, hB⟩ := hrel
    by_cases hlt : k < len
    · obtain ⟨kb, off, rfl, _⟩ := H1.out.addr (by omega)
      obtain ⟨kb2, off2, rfl, _⟩ := H2.out.addr (by omega)
      have A1 := (H1.out.below hB).cell hlt
      have A2 := (H2.out.below hB).cell hlt
      have hnk := HN.out k hlt
      generalize hx : c k = x at A1 A2 hnk
      obtain ⟨xa, xd, xc, xn, xl⟩ := x
      clear hx
      obtain ⟨c1, c2, c3, la, ca, c4, l1⟩ := A1
      obtain ⟨e1, e2, e3, lb, cb, e4, l2⟩ := A2
      simp only at c1 c2 c3 c4 l1 e1 e2 e3 e4 l2 hnk
      have hBd : Below w.heap.size w wr.drew := hB.drew
      have l1d : LR wr.drew la xn xl := l1
      have l2d : LR wr.drew lb xn xl := l2
      clear hB l1 l2
      go_wp2
      go_region_held3 (fun w' => (w'.cell? ⟨kb, off + k * 4, none⟩ = some (.int .i64 xa) ∧ w'.cell? ⟨kb, off + k * 4 + 1, none⟩ = some (.int .i64 xd) ∧ w'.cell? ⟨kb, off + k * 4 + 2, none⟩ = some (.string xc) ∧ w'.cell? ⟨kb, off + k * 4 + 3, none⟩ = some (.slice la xn ca)) ∧ (w'.cell? ⟨kb2, off2 + k * 4, none⟩ = some (.int .i64 xa) ∧ w'.cell? ⟨kb2, off2 + k * 4 + 1, none⟩ = some (.int .i64 xd) ∧ w'.cell? ⟨kb2, off2 + k * 4 + 2, none⟩ = some (.string xc) ∧ w'.cell? ⟨kb2, off2 + k * 4 + 3, none⟩ = some (.slice lb xn cb)) ∧ LR w' la xn xl ∧ LR w' lb xn xl ∧ Below w.heap.size w w')
        (refine ⟨⟨?_, ?_, ?_, ?_⟩, ⟨?_, ?_, ?_, ?_⟩, ?_, ?_, ?_⟩ <;> first | assumption | (simp [*]; done))
        (first
        | (go_at_call 115; refine (eqEntry_same _ _ _ _ _ _ _ _ xl _ hnk (by assumption) (by assumption)).mono ?_; rintro e w2 ⟨rfl, b2⟩; have q0 : w2.cell? ⟨kb, off + k * 4, none⟩ = some (.int .i64 xa) := keep_cell b2 (by simp [*]); have q1 : w2.cell? ⟨kb, off + k * 4 + 1, none⟩ = some (.int .i64 xd) := keep_cell b2 (by simp [*]); have q2 : w2.cell? ⟨kb, off + k * 4 + 2, none⟩ = some (.string xc) := keep_cell b2 (by simp [*]); have q3 : w2.cell? ⟨kb, off + k * 4 + 3, none⟩ = some (.slice la xn ca) := keep_cell b2 (by simp [*]); have r0 : w2.cell? ⟨kb2, off2 + k * 4, none⟩ = some (.int .i64 xa) := keep_cell b2 (by simp [*]); have r1 : w2.cell? ⟨kb2, off2 + k * 4 + 1, none⟩ = some (.int .i64 xd) := keep_cell b2 (by simp [*]); have r2 : w2.cell? ⟨kb2, off2 + k * 4 + 2, none⟩ = some (.string xc) := keep_cell b2 (by simp [*]); have r3 : w2.cell? ⟨kb2, off2 + k * 4 + 3, none⟩ = some (.slice lb xn cb) := keep_cell b2 (by simp [*]); have s1 : LR w2 la xn xl := LR.below (by assumption) b2; have s2 : LR w2 lb xn xl := LR.below (by assumption) b2; have q4 : Below w.heap.size w w2 := bel_on (by assumption) b2))
      go_wp2
      go_roundw
      case rel => exact ⟨k + 1, by omega, by go_num, q4⟩
      case measure => simp [intOf]; omega
    · have HB : Hid (Below w.heap.size w wr) := hB
      clear hB
      go_wp2
      go_returns
      exact ⟨rfl, HB.out⟩

end Go.Proofs.YtapailihjlfkgaaDoor
