/- oldestFirst and takeFromFirst of the program. -/
import Derived.Test.YtnglofgcckdbmaaUd
namespace Go.Proofs.Ytnglofgcckdbmaa
open Go Go.ChangeShapes Go.WideShapes Go.ChangeAt Go.RowKit
set_option linter.unusedVariables false
set_option linter.unusedSimpArgs false

def zerosPI (n : Nat) : Array Value := madeCells #[.int .i64 0, .int .i64 0, .int .i64 0] (n * 3)
theorem zerosPI_size (n : Nat) : (zerosPI n).size = n * 3 := size_madeCells _ _
set_option maxRecDepth 100000 in
theorem mkPI (n : Nat) (h : (n : Int) ≤ 1048576) (w : World) : (Instr.makeSlice 109 (.int .i64 (n : Int)) (.int .i64 (n : Int))).run Try.prog w = .ok (.slice (some ⟨w.heap.size, 0, none⟩) n n) (w.alloc (.cells (zerosPI n) 112)) := by
  obtain ⟨i, hi⟩ : ∃ i, Try.prog.info? 112 = some i := ⟨_, rfl⟩
  have hz : i.zero = some (.agg #[.int .i64 0, .int .i64 0, .int .i64 0]) := by
    have : (Try.prog.info? 112).bind (·.zero) = some (.agg #[.int .i64 0, .int .i64 0, .int .i64 0]) := by kernel_rfl
    rw [hi] at this; exact this
  have hs : i.size = 3 := by
    have : (Try.prog.info? 112).map (·.size) = some 3 := by kernel_rfl
    rw [hi] at this; simpa using this
  have hb : i.bytes = 24 := by
    have : (Try.prog.info? 112).map (·.bytes) = some 24 := by kernel_rfl
    rw [hi] at this; simpa using this
  have hr := run_make (P := Try.prog) w 109 112 i (.agg #[.int .i64 0, .int .i64 0, .int .i64 0]) Try.underlying109 hi hz .i64 .i64 n n (by omega) (by omega) (by rw [hb]; omega) (by omega)
  simp only [Int.toNat_natCast, hs] at hr
  exact hr

/-- The placed items, as they are laid ahead of the sort. -/
def plF (c : Nat → OI2) (j : Nat) : Int × Int × Int := ((c j).day, (c j).amount, (j : Int))
theorem plF_asc (c : Nat → OI2) (n : Nat) : Asc 0 n (plF c) := fun i j _ h _ => by show (i : Int) < (j : Int); omega

theorem compareBy_any (w : World) : Calls Try.prog 109 #[.func (.func 110) #[] #[]] w fun e w' => e = .returned (.func (Fn.func 136) #[] #[.pointer (some ⟨w.heap.size, 0, none⟩)]) ∧ w'.cell? ⟨w.heap.size, 0, none⟩ = some (.func (.func 110) #[] #[]) ∧ Below w.heap.size w w' ∧ w.heap.size < w'.heap.size := by
  go_enter Try.func109, Try.ntmps109
  go_wp2
  go_returns
  refine ⟨rfl, by simp [go_sem], by go_grown, by simp [go_sem]⟩

set_option maxRecDepth 20000 in
set_option maxHeartbeats 4000000 in
theorem oldest_any (ad : Option Addr) (n cap : Nat) (c : Nat → OI2) (w : World) (h : (n : Int) ≤ 1048576) (hr : OIr w ad n c) :
    Calls Try.prog 74 #[.slice ad n cap] w fun e w' => ∃ B g, e = .returned (.slice (some ⟨B, 0, none⟩) n n) ∧ w.heap.size ≤ B ∧ RP w' B n 112 g ∧ PermOn 0 n (plF c) g ∧ SortedOn ltP g 0 n ∧ Below w.heap.size w w' := by
  have HR : Hid (OIr w ad n c) := hr
  clear hr
  have hmk := mkPI n h
  go_enter Try.func74, Try.ntmps74
  go_wp2
  have HC0 : Hid (CB (w.alloc (.cells (zerosPI n) 112)) w.heap.size (zerosPI n) 112) := CB.new _ _
  have HW : Hid (∀ W, Below w.heap.size w W → OIr W ad n c) := hid (fun W b => HR.out.below b)
  clear hmk
  obtain ⟨B, hB⟩ : ∃ B, w.heap.size = B := ⟨_, rfl⟩
  rw [hB] at HC0 ⊢
  go_loopw [11, 5, 4] (fun i b a wr => ∃ (k : Nat) (cs : Array Value), k ≤ n ∧ i = .int .i64 (k : Int) ∧ Hid (CB wr B cs 112 ∧ cs.size = n * 3 ∧ (∀ j, j < k → cs[j * 3]? = some (.int .i64 (c j).day) ∧ cs[j * 3 + 1]? = some (.int .i64 (c j).amount) ∧ cs[j * 3 + 2]? = some (.int .i64 (j : Int))) ∧ Below w.heap.size w wr)) (fun i _ _ _ => n - (intOf i).toNat)
  case atStart => exact ⟨0, _, Nat.zero_le _, rfl, HC0.out, zerosPI_size _, fun j hj => by omega, by go_grown⟩
  case round =>
    obtain ⟨k, cs, hk, rfl, HH⟩ := hrel
    by_cases hlt : k < n
    · have hlt2 : (k : Int) < (n : Int) := by omega
      obtain ⟨kb, off, rfl, hkb⟩ := HR.out.addr (by omega)
      obtain ⟨c0, c1⟩ := (HW.out wr HH.out.2.2.2).cell hlt
      have hkw : kb < wr.heap.size := by have := HH.out.2.2.2.size; omega
      have hBw : B < wr.heap.size := HH.out.1.lt
      obtain ⟨D, hD⟩ : ∃ D, (c k).day = D := ⟨_, rfl⟩
      obtain ⟨M, hM⟩ : ∃ M, (c k).amount = M := ⟨_, rfl⟩
      rw [hD] at c0
      rw [hM] at c1
      have y0 := HH.out.1.cell (k * 3)
      have y1 := HH.out.1.cell (k * 3 + 1)
      have y2 := HH.out.1.cell (k * 3 + 2)
      obtain ⟨v0, e0⟩ : ∃ v, cs[k * 3]? = some v := ⟨_, Array.getElem?_eq_getElem (by have := HH.out.2.1; omega)⟩
      obtain ⟨v1, e1⟩ : ∃ v, cs[k * 3 + 1]? = some v := ⟨_, Array.getElem?_eq_getElem (by have := HH.out.2.1; omega)⟩
      obtain ⟨v2, e2⟩ : ∃ v, cs[k * 3 + 2]? = some v := ⟨_, Array.getElem?_eq_getElem (by have := HH.out.2.1; omega)⟩
      rw [e0] at y0
      rw [e1] at y1
      rw [e2] at y2
      have f0 := HH.out.1.fr (k * 3)
      have f1 := HH.out.1.fr (k * 3 + 1)
      have f2 := HH.out.1.fr (k * 3 + 2)
      have HD : Hid ((c k).day = D ∧ (c k).amount = M) := ⟨hD, hM⟩
      clear hD hM e0 e1 e2
      go_wp2
      go_roundw
      case rel =>
        refine ⟨k + 1, _, by omega, by go_num, ((((HH.out.1.set _ _).set _ _).set _ _).alloc _), by simp [HH.out.2.1], fun j hj => ?_, ?_⟩
        · have hsz := HH.out.2.1
          by_cases e : j = k
          · subst e
            rw [HD.out.1, HD.out.2]
            refine ⟨?_, ?_, ?_⟩
            · rw [Array.getElem?_setIfInBounds_ne (by omega), Array.getElem?_setIfInBounds_ne (by omega), Array.getElem?_setIfInBounds_self_of_lt (by omega)]
            · rw [Array.getElem?_setIfInBounds_ne (by omega), Array.getElem?_setIfInBounds_self_of_lt (by simp; omega)]
            · rw [Array.getElem?_setIfInBounds_self_of_lt (by simp; omega)]
          · obtain ⟨a0, a1, a2⟩ := HH.out.2.2.1 j (by omega)
            refine ⟨?_, ?_, ?_⟩ <;> (rw [Array.getElem?_setIfInBounds_ne (by omega), Array.getElem?_setIfInBounds_ne (by omega), Array.getElem?_setIfInBounds_ne (by omega)]; assumption)
        · have hb := (((HH.out.2.2.2.setCell (p := ⟨B, k * 3, none⟩) (by simp; omega) (.int .i64 D)).setCell (p := ⟨B, k * 3 + 1, none⟩) (by simp; omega) (.int .i64 M)).setCell (p := ⟨B, k * 3 + 2, none⟩) (by simp; omega) (.int .i64 (k : Int)))
          exact hb.alloc hb.size _
      case measure => simp [intOf]; omega
    · obtain rfl : k = n := by omega
      have lkk : ¬ (k : Int) < (k : Int) := by omega
      have HRP : Hid (RP wr B k 112 (plF c)) := hid ⟨cs, HH.out.1, HH.out.2.1, HH.out.2.2.1⟩
      have HBB : Hid (Below w.heap.size w wr) := HH.out.2.2.2
      have HBe : Hid (w.heap.size = B) := hB
      clear HH HC0 HR HW hB
      go_wp2_with (first
        | (go_at_call 109; refine (compareBy_any _).mono ?_; rintro e w2 ⟨rfl, cc, b2, l2⟩; have HR2 : Hid (RP w2 B k 112 (plF c)) := hid (HRP.out.below b2 HRP.out.lt); have HC2 : Hid (w2.cell? ⟨wr.heap.size, 0, none⟩ = some (.func (.func 110) #[] #[]) ∧ wr.heap.size ≠ B ∧ wr.heap.size < w2.heap.size) := hid ⟨cc, (by have := HRP.out.lt; omega), l2⟩; have HB2 : Hid (Below w.heap.size w w2) := hid (bel_on HBB.out b2); clear cc b2 l2)
        | (go_at_call 108; refine (sortByP_any B k k 112 (plF c) w2 h HR2.out (plF_asc c k) wr.heap.size HC2.out.2.1 (fun W bk => by rw [World.cell?_of_block (w := w2) (bk.block _ HC2.out.2.2 HC2.out.2.1)]; exact HC2.out.1)).mono ?_; rintro e w3 ⟨rfl, g, kk, so⟩; have HF := hid kk; have HS := hid so; clear kk so))
      go_returns
      refine ⟨B, g, rfl, by rw [HBe.out]; exact Nat.le_refl _, HF.out.1, HF.out.2.1, HS.out.1, ?_⟩
      exact HB2.out.trans (HF.out.2.2.below (by rw [HBe.out]; exact Nat.le_refl _) HB2.out.size)

theorem RP.less {w : World} {B n i : Nat} {t : TypeId} {G : Nat → Int × Int × Int} (H : RP w B n t G) (hi : i < n) (x : Int) : RP (w.setCell ⟨B, i * 3 + 1, none⟩ (.int .i64 ((G i).2.1 - x))) B n t (lessG G i x) := by
  obtain ⟨cs, h1, h2, h3⟩ := H
  refine ⟨_, h1.set _ _, by simp [h2], fun j hj => ?_⟩
  obtain ⟨a0, a1, a2⟩ := h3 j hj
  unfold lessG
  by_cases e : j = i
  · subst e
    rw [if_pos rfl]
    refine ⟨?_, ?_, ?_⟩
    · rw [Array.getElem?_setIfInBounds_ne (by omega)]; exact a0
    · rw [Array.getElem?_setIfInBounds_self_of_lt (by omega)]
    · rw [Array.getElem?_setIfInBounds_ne (by omega)]; exact a2
  · rw [if_neg e]
    refine ⟨?_, ?_, ?_⟩ <;> (rw [Array.getElem?_setIfInBounds_ne (by omega)]; assumption)
def ixF (G : Nat → Int × Int × Int) (i : Nat) (x : Int) : Nat := if (G i).2.1 - x = 0 then i + 1 else i
set_option maxRecDepth 20000 in
set_option maxHeartbeats 4000000 in
/-- The first one's amount is made less; all other blocks are kept. -/
theorem take_any (B n i : Nat) (G : Nat → Int × Int × Int) (x : Int) (w : World) (hn : (n : Int) ≤ 1048576) (hi : i < n) (hx : 0 ≤ x ∧ x ≤ (G i).2.1 ∧ (G i).2.1 ≤ 100000000000) (hR : RP w B n 112 G) :
    Calls Try.prog 75 #[.slice (some ⟨B, i * 3, none⟩) (n - i) (n - i), .int .i64 x] w fun e w' => ∃ o, e = .returned (.slice (some ⟨B, o, none⟩) (n - ixF G i x) (n - ixF G i x)) ∧ (ixF G i x < n → o = ixF G i x * 3) ∧ RP w' B n 112 (lessG G i x) ∧ But B w w' := by
  obtain ⟨c0, c1, c2⟩ := hR.cell hi
  have f1 := hR.fr (i * 3 + 1)
  have HF : Hid (RP (w.setCell ⟨B, i * 3 + 1, none⟩ (.int .i64 ((G i).2.1 - x))) B n 112 (lessG G i x) ∧ But B w (w.setCell ⟨B, i * 3 + 1, none⟩ (.int .i64 ((G i).2.1 - x)))) := hid ⟨hR.less hi x, (But.refl _ _).setCell (Nat.le_refl _) _⟩
  have HX : Hid (ixF G i x = if (G i).2.1 - x = 0 then i + 1 else i) := rfl
  clear hR
  obtain ⟨A, hA⟩ : ∃ A, (G i).2.1 = A := ⟨_, rfl⟩
  rw [hA] at c1 hx HF HX
  clear hA c0 c2
  obtain ⟨L, hL⟩ : ∃ L, n - i = L + 1 := ⟨n - i - 1, by omega⟩
  have hLi : (L : Int) ≤ 1048576 := by omega
  have HLn : Hid (n - (i + 1) = L) := hid (by omega)
  rw [hL]
  by_cases hz : A - x = 0
  · obtain rfl : A = x := by omega
    rw [if_pos hz] at HX
    rw [hz] at HF
    clear hz
    go_enter Try.func75, Try.ntmps75
    have HLs : Hid (L = 0 → ixF G i A = n) := hid (fun e => by rw [HX.out]; omega)
    go_wp2
    · go_returns
      refine ⟨i * 3, ?_, fun e => ?_, HF.out.1, HF.out.2⟩
      · have h0 : L = 0 := by assumption
        rw [HX.out, HLn.out, h0]; rfl
      · have h0 : L = 0 := by assumption
        have := HLs.out h0; omega
    · go_returns
      refine ⟨i * 3 + 3, ?_, fun e => ?_, HF.out.1, HF.out.2⟩
      · rw [HX.out, HLn.out]; rfl
      · rw [HX.out]; omega
  · rw [if_neg hz] at HX
    have hz2 : (A - x == 0) = false := by simpa using hz
    go_enter Try.func75, Try.ntmps75
    go_wp2
    go_returns
    refine ⟨i * 3, ?_, fun e => ?_, HF.out.1, HF.out.2⟩
    · rw [HX.out, hL]; rfl
    · rw [HX.out]
end Go.Proofs.Ytnglofgcckdbmaa
