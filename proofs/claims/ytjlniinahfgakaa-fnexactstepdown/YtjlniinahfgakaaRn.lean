/- The laws over rules: lists of rules. -/
import Derived.Test.YtjlniinahfgakaaRm
namespace Go.Proofs.Ytjlniinahfgakaa
open Go.ChangeShapes Go.WideShapes Go.ChangeAt Go.RowKit
set_option linter.unusedVariables false
set_option linter.unusedSimpArgs false

def zerosR (n : Nat) : Array Value := madeCells #[.int .i64 0, .slice none 0 0, .slice none 0 0] (n * 3)
theorem zerosR_size (n : Nat) : (zerosR n).size = n * 3 := size_madeCells _ _
set_option maxRecDepth 100000 in
theorem mkRules (n : Nat) (h : (n : Int) ≤ 1048576) (w : World) : (Instr.makeSlice 30 (.int .i64 (n : Int)) (.int .i64 (n : Int))).run Try.prog w = .ok (.slice (some ⟨w.heap.size, 0, none⟩) n n) (w.alloc (.cells (zerosR n) 36)) := by
  obtain ⟨i, hi⟩ : ∃ i, Try.prog.info? 36 = some i := ⟨_, rfl⟩
  have hz : i.zero = some (.agg #[.int .i64 0, .slice none 0 0, .slice none 0 0]) := by
    have : (Try.prog.info? 36).bind (·.zero) = some (.agg #[.int .i64 0, .slice none 0 0, .slice none 0 0]) := by kernel_rfl
    rw [hi] at this; exact this
  have hs : i.size = 3 := by
    have : (Try.prog.info? 36).map (·.size) = some 3 := by kernel_rfl
    rw [hi] at this; simpa using this
  have hb : i.bytes = 56 := by
    have : (Try.prog.info? 36).map (·.bytes) = some 56 := by kernel_rfl
    rw [hi] at this; simpa using this
  have hr := run_make (P := Try.prog) w 30 36 i (.agg #[.int .i64 0, .slice none 0 0, .slice none 0 0]) Try.underlying30 hi hz .i64 .i64 n n (by omega) (by omega) (by rw [hb]; omega) (by omega)
  simp only [Int.toNat_natCast, hs] at hr
  exact hr

/-- Rules in a block of their own, each list in a block of its own behind it. -/
structure OR3 (w : World) (B m k : Nat) (rs : Nat → R3) (bt bw : Nat → Nat) : Prop where
  main : ∃ cs, CB w B cs 36 ∧ cs.size = m * 3 ∧ ∀ j, j < k → cs[j * 3]? = some (.int .i64 (rs j).frm) ∧ cs[j * 3 + 1]? = some (.slice (some ⟨bt j, 0, none⟩) (rs j).tn (rs j).tn) ∧ cs[j * 3 + 2]? = some (.slice (some ⟨bw j, 0, none⟩) (rs j).wn (rs j).wn)
  t : ∀ j, j < k → RowAt w (bt j) (rs j).tn (rs j).to
  u : ∀ j, j < k → RowAt w (bw j) (rs j).wn (rs j).wt
  ap : ∀ j, j < k → B < bt j ∧ bt j < bw j
  inc : ∀ i j, i < j → j < k → bw i < bt j
section
variable {w w' : World} {B m k : Nat} {rs : Nat → R3} {bt bw : Nat → Nat}
theorem OR3.lt (H : OR3 w B m k rs bt bw) : B < w.heap.size := by obtain ⟨cs, h, _⟩ := H.main; exact h.lt
theorem OR3.below (H : OR3 w B m k rs bt bw) (b : Below w.heap.size w w') : OR3 w' B m k rs bt bw := by
  obtain ⟨cs, h, h2⟩ := H.main
  exact ⟨⟨cs, h.below b h.lt, h2⟩, fun j hj => (H.t j hj).below b, fun j hj => (H.u j hj).below b, H.ap, H.inc⟩
theorem OR3.ru (H : OR3 w B m m rs bt bw) : RU w (some ⟨B, 0, none⟩) m rs := by
  obtain ⟨cs, h, h1, h2⟩ := H.main
  refine .inr ⟨B, 0, rfl, h.lt, fun j hj => ⟨some ⟨bt j, 0, none⟩, (rs j).tn, some ⟨bw j, 0, none⟩, (rs j).wn, ?_, ?_, ?_, (H.t j hj).1, (H.u j hj).1, Nat.le_refl _⟩⟩
  · rw [Nat.zero_add, h.cell]; exact (h2 j hj).1
  · rw [Nat.zero_add, h.cell]; exact (h2 j hj).2.1
  · rw [Nat.zero_add, h.cell]; exact (h2 j hj).2.2
theorem RowAt.oth3 {b n B : Nat} {z : Nat → Int} {o : Nat} {x y v : Value} (H : RowAt w b n z) (h : b ≠ B) : RowAt (((w.setCell ⟨B, o, none⟩ x).setCell ⟨B, o + 1, none⟩ y).setCell ⟨B, o + 2, none⟩ v) b n z := ((H.other _ h).other _ h).other _ h
theorem OR3.step {t1 w1 : Nat} (H : OR3 w B m k rs bt bw) (hk : k < m) (h1 : RowAt w t1 (rs k).tn (rs k).to) (h2 : RowAt w w1 (rs k).wn (rs k).wt) (hb : B < t1 ∧ t1 < w1) (hn : ∀ j, j < k → bw j < t1) :
    OR3 (((w.setCell ⟨B, k * 3, none⟩ (.int .i64 (rs k).frm)).setCell ⟨B, k * 3 + 1, none⟩ (.slice (some ⟨t1, 0, none⟩) (rs k).tn (rs k).tn)).setCell ⟨B, k * 3 + 2, none⟩ (.slice (some ⟨w1, 0, none⟩) (rs k).wn (rs k).wn)) B m (k + 1) rs (fun j => if j = k then t1 else bt j) (fun j => if j = k then w1 else bw j) := by
  obtain ⟨cs, c1, c2, c3⟩ := H.main
  refine ⟨⟨_, ((c1.set _ _).set _ _).set _ _, by simpa using c2, fun j hj => ?_⟩, fun j hj => ?_, fun j hj => ?_, fun j hj => ?_, fun i j hi hj => ?_⟩
  · by_cases e : j = k
    · subst e
      simp only [if_true]
      refine ⟨?_, ?_, ?_⟩
      · rw [get_set_ne (by omega), get_set_ne (by omega), get_set_eq (by omega)]
      · rw [get_set_ne (by omega), get_set_eq (by simp; omega)]
      · rw [get_set_eq (by simp; omega)]
    · simp only [if_neg e]
      obtain ⟨q1, q2, q3⟩ := c3 j (by omega)
      refine ⟨?_, ?_, ?_⟩ <;> (rw [get_set_ne (by omega), get_set_ne (by omega), get_set_ne (by omega)]; assumption)
  · by_cases e : j = k
    · subst e; simp only [if_true]; exact h1.oth3 (by omega)
    · simp only [if_neg e]; exact (H.t j (by omega)).oth3 (by have := H.ap j (by omega); omega)
  · by_cases e : j = k
    · subst e; simp only [if_true]; exact h2.oth3 (by omega)
    · simp only [if_neg e]; exact (H.u j (by omega)).oth3 (by have := H.ap j (by omega); omega)
  · by_cases e : j = k
    · simp only [if_pos e]; exact hb
    · simp only [if_neg e]; exact H.ap j (by omega)
  · by_cases e : j = k
    · have e2 : i ≠ k := by omega
      simp only [if_pos e, if_neg e2]; exact hn i (by omega)
    · have e2 : i ≠ k := by omega
      simp only [if_neg e, if_neg e2]; exact H.inc i j hi (by omega)
end

set_option maxRecDepth 20000 in
set_option maxHeartbeats 2000000 in
theorem toRuleS_any (ra : Option Addr) (m rcap : Nat) (rs : Nat → R3) (w : World) (h : (m : Int) ≤ 1048576) (hl : ∀ j, j < m → ((rs j).tn : Int) ≤ 1048576 ∧ ((rs j).wn : Int) ≤ 1048576) (HR0 : RU w ra m rs) :
    Calls Try.prog 28 #[.slice ra m rcap] w fun e w' => e = .returned (.slice (some ⟨w.heap.size, 0, none⟩) m m) ∧ (∃ bt bw, OR3 w' w.heap.size m m rs bt bw) ∧ Below w.heap.size w w' := by
  have HR : Hid (RU w ra m rs) := HR0
  have HN : Hid (∀ j, j < m → ((rs j).tn : Int) ≤ 1048576 ∧ ((rs j).wn : Int) ≤ 1048576) := hl
  have hmk := mkRules m h
  clear HR0 hl
  go_enter Try.func28, Try.ntmps28
  go_wp2
  go_loopw [4] (fun i wr => ∃ (k : Nat) (bt bw : Nat → Nat), k ≤ m ∧ i = .int .i64 (k : Int) ∧ Hid (OR3 wr w.heap.size m k rs bt bw ∧ Below w.heap.size w wr)) (fun i _ => m - (intOf i).toNat)
  case atStart => exact ⟨0, fun _ => 0, fun _ => 0, Nat.zero_le _, rfl, ⟨⟨zerosR m, CB.new _ _, zerosR_size _, fun j hj => by omega⟩, fun j hj => by omega, fun j hj => by omega, fun j hj => by omega, fun i j hi hj => by omega⟩, (Below.refl _ _).alloc (Nat.le_refl _) _⟩
  case round =>
    obtain ⟨k, bt, bw, hk, rfl, HO⟩ := hrel
    by_cases hlt : k < m
    · obtain ⟨kb, off, rfl, hkb, hru⟩ : ∃ kb off, ra = some ⟨kb, off, none⟩ ∧ kb < w.heap.size ∧ RuAt w kb (off + k * 3) (rs k) := by
        rcases HR.out with h | ⟨kb, off, e, hkb, hc⟩
        · omega
        · exact ⟨kb, off, e, hkb, hc k hlt⟩
      obtain ⟨ta, tc, wa, wc', r1, r2, r3, r4, r5, r6⟩ := hru
      have HB : Hid (Below w.heap.size w wr) := HO.out.2
      have e1 : wr.cell? ⟨kb, off + k * 3, none⟩ = some (.int .i64 (rs k).frm) := by rw [World.cell?_of_block (w := w) (HB.out.block kb hkb)]; exact r1
      have e2 : wr.cell? ⟨kb, off + k * 3 + 1, none⟩ = some (.slice ta (rs k).tn tc) := by rw [World.cell?_of_block (w := w) (HB.out.block kb hkb)]; exact r2
      have e3 : wr.cell? ⟨kb, off + k * 3 + 2, none⟩ = some (.slice wa (rs k).wn wc') := by rw [World.cell?_of_block (w := w) (HB.out.block kb hkb)]; exact r3
      have HT : Hid (IR wr ta (rs k).tn (rs k).to) := r4.below HB.out
      have HW : Hid (IR wr wa (rs k).wn (rs k).wt) := r5.below HB.out
      obtain ⟨cs, hC, hsz, _⟩ := HO.out.1.main
      obtain ⟨v1, d1⟩ : ∃ v, cs[k * 3]? = some v := ⟨cs[k * 3]'(by omega), Array.getElem?_eq_getElem (by omega)⟩
      obtain ⟨v2, d2⟩ : ∃ v, cs[k * 3 + 1]? = some v := ⟨cs[k * 3 + 1]'(by omega), Array.getElem?_eq_getElem (by omega)⟩
      obtain ⟨v3, d3⟩ : ∃ v, cs[k * 3 + 2]? = some v := ⟨cs[k * 3 + 2]'(by omega), Array.getElem?_eq_getElem (by omega)⟩
      have HC : Hid (CB wr w.heap.size cs 36) := hC
      have hnk := HN.out k hlt
      have hlt2 : (k : Int) < (m : Int) := by omega
      have HD1 : Hid (cs[k * 3]? = some v1) := d1
      have HD2 : Hid (cs[k * 3 + 1]? = some v2) := d2
      have HD3 : Hid (cs[k * 3 + 2]? = some v3) := d3
      clear hC hsz r1 r2 r3 r4 r5 r6 d1 d2 d3
      go_wp2_with (go_at_call 66; go_loud (refine (toRule_any _ _ _ _ _ _ _ (rs k).to (rs k).wt _ hnk.1 hnk.2 HT.out HW.out).mono ?_; rintro e w1 ⟨t1, u1, rfl, hb, ⟨o1, o2⟩, b1⟩; have X1 : CB w1 w.heap.size cs 36 := HC.out.below b1 HC.out.lt; have x1 := (X1.cell (k * 3)).trans HD1.out; have x2 := (X1.cell (k * 3 + 1)).trans HD2.out; have x3 := (X1.cell (k * 3 + 2)).trans HD3.out; have f1 := X1.fr (k * 3); have f2 := X1.fr (k * 3 + 1); have f3 := X1.fr (k * 3 + 2); have HP : Hid (wr.heap.size ≤ t1 ∧ t1 < u1) := hb; have HO1 : Hid (RowAt w1 t1 (rs k).tn (rs k).to ∧ RowAt w1 u1 (rs k).wn (rs k).wt) := ⟨o1, o2⟩; have HX : Hid (OR3 w1 w.heap.size m k rs bt bw) := HO.out.1.below b1; have HB1 : Hid (Below w.heap.size w w1) := bel_on HB.out b1; clear X1 b1 hb o1 o2))
      go_roundw
      case rel =>
        have hlt3 := HC.out.lt
        have hp := HP.out
        exact ⟨k + 1, _, _, by omega, by go_num, HX.out.step hlt HO1.out.1 HO1.out.2 (by omega) (fun j hj => by have := (HO.out.1.u j hj).lt; omega), ((HB1.out.setCell (by simp) _).setCell (by simp) _).setCell (by simp) _⟩
      case measure => simp [intOf]; omega
    · obtain rfl : k = m := by omega
      have lkk : ¬ (k : Int) < (k : Int) := by omega
      go_wp2
      go_returns
      exact ⟨rfl, ⟨bt, bw, HO.out.1⟩, HO.out.2⟩
end Go.Proofs.Ytjlniinahfgakaa
