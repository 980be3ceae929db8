/- Trace, both. -/
import Derived.Test.YtjlniinahfgakaaMd
namespace Go.Proofs.Ytjlniinahfgakaa
open Go Go.ChangeShapes Go.WideShapes Go.ChangeAt Go.RowKit
set_option linter.unusedVariables false
set_option linter.unusedSimpArgs false

theorem made_zeros {base : Nat} (w : World) (n : Nat) (hb : base ≤ w.heap.size) (hn : n ≤ 200) : (w.alloc (.cells (zeros n) 3 (0, 0))).ownsRow base 3 1 (.slice (some ⟨w.heap.size, 0, none⟩) n n) n (intL (fun _ => 0) n) := by
  refine ⟨by rw [intL_len]; omega, .inr ⟨w.heap.size, n, zeros n, rfl, hb, heap_alloc_new w _, Nat.le_refl _, by unfold maxLen; omega, by rw [zeros_size]; omega, ?_⟩⟩
  apply List.ext_getElem?
  intro j
  rw [List.getElem?_take]
  by_cases h : j < n
  · rw [if_pos (by omega), intL_get h]
    simp [zeros, madeCells, h, Nat.mod_one]
  · rw [if_neg (by omega), List.getElem?_eq_none (by rw [intL_len]; omega)]
def TrOk (N : Nat) (c : Nat → Int) (sv : Int) (m : Nat) (ln : Nat → Nat) (z : Nat → Nat → Int) (pl : Int) : Prop := MuOk N c sv m ln z ∧ sv ≤ pl ∧ pl < (N : Int)
open Classical in
noncomputable def trB (N : Nat) (c : Nat → Int) (sv : Int) (m : Nat) (ln : Nat → Nat) (z : Nat → Nat → Int) (pl : Int) : Bool := decide (TrOk N c sv m ln z pl)
open Classical in
theorem trB_t {N : Nat} {c : Nat → Int} {sv : Int} {m : Nat} {ln : Nat → Nat} {z : Nat → Nat → Int} {pl : Int} (h : TrOk N c sv m ln z pl) : trB N c sv m ln z pl = true := decide_eq_true h
open Classical in
theorem trB_f {N : Nat} {c : Nat → Int} {sv : Int} {m : Nat} {ln : Nat → Nat} {z : Nat → Nat → Int} {pl : Int} (h : ¬ TrOk N c sv m ln z pl) : trB N c sv m ln z pl = false := decide_eq_false h
noncomputable def trM (N : Nat) (c : Nat → Int) (sv : Int) (m : Nat) (ln : Nat → Nat) (z : Nat → Nat → Int) (pl : Int) : Nat := if trB N c sv m ln z pl = true then m else 0
def trV (N : Nat) (c : Nat → Int) (m : Nat) (z : Nat → Nat → Int) (pl : Int) : Nat → Int := fun i => cmV m N z c i (pl.toNat - m)
def TrP (N : Nat) (c : Nat → Int) (sv : Int) (m : Nat) (ln : Nat → Nat) (z : Nat → Nat → Int) (pl : Int) (w : World) (e : Ending) (w' : World) : Prop :=
  ∃ ad cap, e = .returned (.tuple #[.slice ad (trM N c sv m ln z pl) cap, .bool (trB N c sv m ln z pl)]) ∧ w'.ownsRow w.heap.size 3 1 (.slice ad (trM N c sv m ln z pl) cap) (trM N c sv m ln z pl) (intL (trV N c m z pl) (trM N c sv m ln z pl)) ∧ Below w.heap.size w w'
section
variable {N : Nat} {c : Nat → Int} {sv : Int} {m : Nat} {ln : Nat → Nat} {z : Nat → Nat → Int} {pl : Int} {w w1 : World}
theorem TrP.none {b : Nat} (hbs : w1.heap.size = b) (h : trB N c sv m ln z pl = false) (hb : Below w.heap.size w w1) : TrP N c sv m ln z pl w (.returned (.tuple #[.slice (some ⟨b, 0, none⟩) 0 0, .bool false])) (w1.alloc (.cells #[] 3 (0, 0))) := by
  subst hbs
  have e : trM N c sv m ln z pl = 0 := by unfold trM; rw [h]; rfl
  unfold TrP
  rw [e, h]
  exact ⟨_, _, rfl, row_lower (none_own w1) hb.size, hb.alloc hb.size _⟩
theorem TrP.some {ad : Option Addr} {cap : Nat} (h : trB N c sv m ln z pl = true) (ho : w1.ownsRow w.heap.size 3 1 (.slice ad m cap) m (intL (trV N c m z pl) m)) (hb : Below w.heap.size w w1) : TrP N c sv m ln z pl w (.returned (.tuple #[.slice ad m cap, .bool true])) w1 := by
  have e : trM N c sv m ln z pl = m := by unfold trM; rw [h]; rfl
  unfold TrP
  rw [e, h]
  exact ⟨_, _, rfl, ho, hb⟩
end
set_option maxRecDepth 20000 in
set_option maxHeartbeats 8000000 in
theorem implTrace_any (ca : Option Addr) (N ccap0 : Nat) (c : Nat → Int) (sv : Int) (ad : Option Addr) (m cap : Nat) (ln : Nat → Nat) (z : Nat → Nat → Int) (pl : Int) (w : World) (hN2 : (N : Int) ≤ 1048576) (hm2 : (m : Int) ≤ 1048576) (hll : ∀ j, j < m → (ln j : Int) ≤ 1048576) (hc : IR w ca N c) (hr : SR w ad m ln z) :
    Calls Try.prog 22 #[.slice ca N ccap0, .int .i64 sv, .slice ad m cap, .int .i64 pl] w (TrP N c sv m ln z pl w) := by
  by_cases h1 : CostP N c ∧ ShS N sv m ln z ∧ dl (mF m z) 3 (oF false false false) ≠ 0
  case neg =>
    have HF : Hid (trB N c sv m ln z pl = false) := trB_f (fun q => h1 q.1.1)
    have HHH : Hid (Calls Try.prog 63 #[.slice ca N ccap0, .int .i64 sv, .slice ad m cap] w fun e w' => e = .returned (.tuple #[.agg #[.slice none 0 0, .slice none 0 0], .bool false]) ∧ Below w.heap.size w w') := handOnAll_no ca N ccap0 c sv ad m cap ln z w hN2 hm2 hll h1 hc hr
    clear h1 hc hr hll
    go_enter Try.func22, Try.ntmps22
    go_wp2_with (go_at_call 63; go_loud (refine HHH.out.mono ?_; rintro e w1 ⟨rfl, b1⟩; have HB : Hid (Below w.heap.size w w1) := b1; clear b1))
    go_returns
    exact TrP.none (b := w1.heap.size + 1) (by simp) HF.out (HB.out.alloc HB.out.size _)
  obtain rfl : (m : Int) = sv := h1.2.1.2.2.1
  have HH : Hid (Calls Try.prog 63 #[.slice ca N ccap0, .int .i64 (m : Int), .slice ad m cap] w (HoP m N z c w)) := handOnAll_ok ca N ccap0 c ad m cap ln z w h1.1 h1.2.1 h1.2.2 hc hr
  have H1 : Hid (CostP N c ∧ ShS N (m : Int) m ln z ∧ dl (mF m z) 3 (oF false false false) ≠ 0) := h1
  have hn3 : m ≤ 3 := by have := h1.2.1.1; omega
  have hn1 : 0 < m := by have := h1.2.1.1; omega
  have hnN : m < N := by have := h1.2.1.2.1; omega
  clear h1 hc hr hll
  cases hb : costB N (hC m N z c m) with
  | false =>
    have HF : Hid (trB N c (m : Int) m ln z pl = false) := trB_f (fun q => by have := costB_t q.1.2; rw [hb] at this; cases this)
    go_enter Try.func22, Try.ntmps22
    go_wp2_with (go_at_call 63; go_loud (refine HH.out.mono ?_; rintro e w1 ⟨C, cc, cad, ccap, rfl, o1, s1, b1⟩; rw [hb]; have HB : Hid (Below w.heap.size w w1) := b1; clear o1 s1 b1))
    go_returns
    exact TrP.none (b := w1.heap.size + 1) (by simp) HF.out (HB.out.alloc HB.out.size _)
  | true =>
    by_cases hp1 : pl < (m : Int)
    · have HF : Hid (trB N c (m : Int) m ln z pl = false) := trB_f (fun q => by have := q.2.1; omega)
      go_enter Try.func22, Try.ntmps22
      go_wp2_with (go_at_call 63; go_loud (refine HH.out.mono ?_; rintro e w1 ⟨C, cc, cad, ccap, rfl, o1, s1, b1⟩; rw [hb]; have HB : Hid (Below w.heap.size w w1) := b1; clear o1 s1 b1))
      go_returns
      exact TrP.none (b := w1.heap.size + 1) (by simp) HF.out (HB.out.alloc HB.out.size _)
    by_cases hp2 : pl ≥ (N : Int)
    · have HF : Hid (trB N c (m : Int) m ln z pl = false) := trB_f (fun q => by have := q.2.2; omega)
      go_enter Try.func22, Try.ntmps22
      go_wp2_with (go_at_call 63; go_loud (refine HH.out.mono ?_; rintro e w1 ⟨C, cc, cad, ccap, rfl, o1, s1, b1⟩; rw [hb]; have HB : Hid (Below w.heap.size w w1) := b1; clear o1 s1 b1))
      go_returns
      exact TrP.none (b := w1.heap.size + 1) (by simp) HF.out (HB.out.alloc HB.out.size _)
    have HF : Hid (trB N c (m : Int) m ln z pl = true) := trB_t ⟨⟨H1.out, costB_iff.1 hb⟩, by omega, by omega⟩
    obtain ⟨q, hq⟩ : ∃ q : Nat, pl - (m : Int) = (q : Int) := ⟨(pl - (m : Int)).toNat, by omega⟩
    have HV : Hid (∀ i, trV N c m z pl i = cmV m N z c i q) := fun i => by unfold trV; rw [show pl.toNat - m = q by omega]
    have hqN : q < N - m := by omega
    have HCM : Hid (∀ i, i < m → cmN m N z c i = N - m) := fun i hi => cm_full H1.out.1 H1.out.2.1 H1.out.2.2 hi
    have hmk := mkI m (by omega)
    have hpl1 : (m : Int) ≤ pl := by omega
    have hpl2 : pl < (N : Int) := by omega
    go_enter Try.func22, Try.ntmps22
    go_wp2_with (go_at_call 63; go_loud (refine HH.out.mono ?_; rintro e w1 ⟨C, cc, cad, ccap, rfl, o1, s1, b1⟩; rw [hb]; have HB : Hid (Below w.heap.size w w1 ∧ SR w1 cad m (cmN m N z c) (cmV m N z c)) := ⟨b1, s1⟩; obtain ⟨pb, po, rfl, _⟩ := s1.addr hn1; clear o1 s1 b1))
    have HT0 : Hid (((w1.alloc (.cells #[.slice (some ⟨C, 0, none⟩) N cc, .slice (some ⟨pb, po, none⟩) m ccap] 85 (0, 0))).alloc (.cells (zeros m) 3 (0, 0))).ownsRow w1.heap.size 3 1 (.slice (some ⟨w1.heap.size + 1, 0, none⟩) m m) m (intL (fun j => if j < 0 then cmV m N z c j q else 0) m) ∧ Below w1.heap.size w1 ((w1.alloc (.cells #[.slice (some ⟨C, 0, none⟩) N cc, .slice (some ⟨pb, po, none⟩) m ccap] 85 (0, 0))).alloc (.cells (zeros m) 3 (0, 0)))) := by
      refine ⟨?_, ((Below.refl _ _).alloc (Nat.le_refl _) _).alloc (by simp) _⟩
      have := made_zeros (base := w1.heap.size) (w1.alloc (.cells #[.slice (some ⟨C, 0, none⟩) N cc, .slice (some ⟨pb, po, none⟩) m ccap] 85 (0, 0))) m (by simp) (by omega)
      simpa using this
    go_loopw [13, 14, 41] (fun _ _ v41 wr => ∃ (i : Nat), i ≤ m ∧ v41 = .int .i64 (i : Int) ∧ Hid (wr.ownsRow w1.heap.size 3 1 (.slice (some ⟨w1.heap.size + 1, 0, none⟩) m m) m (intL (fun j => if j < i then cmV m N z c j q else 0) m) ∧ Below w1.heap.size w1 wr)) (fun _ _ v41 _ => m - (intOf v41).toNat)
    case atStart => exact ⟨0, by omega, rfl, HT0⟩
    case round =>
      clear HT0
      obtain ⟨i, hi, rfl, HT⟩ := hrel
      by_cases hlt : i < m
      · have hlt2 : (i : Int) < (m : Int) := by omega
        obtain ⟨a, cp, c1, r1⟩ := HB.out.2.at HT.out.2 hlt
        rw [HCM.out i hlt] at c1 r1
        obtain ⟨ka, oa, rfl, _⟩ := r1.addr (by omega)
        have c2 := r1.cell hqN
        obtain ⟨L, hL⟩ : ∃ L, N - m = L := ⟨_, rfl⟩
        rw [hL] at c1
        have hqL : (q : Int) < (L : Int) := by omega
        obtain ⟨p1, p2, p3⟩ := row_putI HT.out.1 hlt (cmV m N z c i q)
        have HT2 : Hid ((wr.setCell ⟨w1.heap.size + 1, i, none⟩ (.int .i64 (cmV m N z c i q))).ownsRow w1.heap.size 3 1 (.slice (some ⟨w1.heap.size + 1, 0, none⟩) m m) m (intL (fun j => if j < i + 1 then cmV m N z c j q else 0) m) ∧ Below w1.heap.size w1 (wr.setCell ⟨w1.heap.size + 1, i, none⟩ (.int .i64 (cmV m N z c i q)))) := by
          refine ⟨?_, HT.out.2.setCell (by show w1.heap.size ≤ w1.heap.size + 1; omega) _⟩
          rw [intL_congr (o' := upd (fun j => if j < i then cmV m N z c j q else 0) i (cmV m N z c i q)) (fun j hj => by
            unfold upd
            by_cases e : j = i
            · simp [e]
            · simp only [e, if_false]
              by_cases e2 : j < i
              · rw [if_pos e2, if_pos (by omega)]
              · rw [if_neg e2, if_neg (by omega)])]
          exact p3
        clear p3 r1
        go_wp2
        go_roundw
        case rel => exact ⟨i + 1, by omega, by go_num, HT2⟩
        case measure => simp [intOf]; omega
      · obtain rfl : m = i := by omega
        have lkk : ¬ (m : Int) < (m : Int) := by omega
        have HX : Hid (TrP N c (m : Int) m ln z pl w (.returned (.tuple #[.slice (some ⟨w1.heap.size + 1, 0, none⟩) m m, .bool true])) wr) := TrP.some HF.out (by
          have := row_lower HT.out.1 HB.out.1.size
          rw [intL_congr (o' := trV N c m z pl) (fun j hj => by rw [if_pos hj, HV.out])] at this
          exact this) (bel_on HB.out.1 HT.out.2)
        go_wp2
        go_returns
        exact HX.out
end Go.Proofs.Ytjlniinahfgakaa
