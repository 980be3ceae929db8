/- Making, the program: items expanded, brought, exploded. -/
import Derived.Test.YtmbdeafpfdeigaaKd
namespace Go.Proofs.Ytmbdeafpfdeigaa
open Go Go.ChangeShapes Go.WideShapes Go.ChangeAt Go.RowKit
set_option linter.unusedVariables false
set_option linter.unusedSimpArgs false

theorem isB_it {n : Nat} {c : Nat → IT} (h : isB n c = true) {i : Nat} (hi : i < n) : (1 ≤ (c i).batch ∧ (c i).batch ≤ 1000000) ∧ (c i).parn ≤ 30 ∧ (c i).alsn ≤ 30 ∧ (∀ j, j < (c i).parn → PG n ((c i).parz j) ∧ (i : Int) + 1 ≤ ((c i).parz j).item) ∧ (∀ j, j < (c i).alsn → PG n ((c i).alsz j) ∧ (i : Int) + 1 ≤ ((c i).alsz j).item ∧ ((c i).alsz j).scr = 0 ∧ ((c i).alsz j).grp = 0) := by
  obtain ⟨_, h2, _, h4, h5⟩ := itB_p ((isB_p h).2.1 i hi)
  refine ⟨h2, h4.1, h5.1, fun j hj => ⟨paB_pg (h4.2 j hj), (paB_p (h4.2 j hj)).1.1⟩, fun j hj => ?_⟩
  have := h5.2 j hj
  unfold beB at this
  simp only [Bool.and_eq_true, beq_iff_eq] at this
  exact ⟨paB_pg this.1.1, (paB_p this.1.1).1.1, this.1.2, this.2⟩
theorem bat_made {q b : Int} (h0 : 0 ≤ q) (hb : 1 ≤ b) : bat q b * b ≤ q + b - 1 := Int.ediv_mul_le _ (by omega)
theorem FQ.up {f : Nat → Int} (h : FQ f) (i : Nat) {x : Int} (h0 : 0 ≤ x) (h1 : x ≤ 1000000) : FQ (upI f i x) := fun j => by
  by_cases e : j = i
  · subst e; rw [upI_eq]; exact ⟨h0, h1⟩
  · rw [upI_ne e]; exact h j
theorem tk_zero (p : PA6) (hs : 0 ≤ p.scr ∧ p.scr ≤ 100) : tk 0 p = 0 := by
  unfold tk
  rw [Int.zero_mul]
  have hc := dv_ceil 0 (by omega)
  unfold mdV
  rw [Int.zero_mul, hc]
  split <;> rfl
theorem upI_self {f : Nat → Int} {i : Nat} : upI f i (f i) = f := by
  funext j
  by_cases e : j = i
  · subst e; rw [upI_eq]
  · rw [upI_ne e]
theorem ex_zero {f : Nat → Int} {c : Nat → PA6} (hf : FQ f) : ∀ k, (∀ j, j < k → 0 ≤ (c j).scr ∧ (c j).scr ≤ 100) → exF f 0 c k = f ∧ exB f 0 c k = true
  | 0, _ => ⟨rfl, rfl⟩
  | k + 1, h => by
    obtain ⟨e1, e2⟩ := ex_zero hf k (fun j hj => h j (by omega))
    have ht := tk_zero (c k) (h k (by omega))
    refine ⟨?_, ?_⟩
    · show upI _ _ _ = f
      rw [e1, ht, Int.add_zero, upI_self]
    · show (exB f 0 c k && stB _ 0 (c k)) = true
      rw [e2, e1]
      unfold stB
      rw [ht, Int.zero_mul, Int.add_zero, inB_y (hf _).1 (hf _).2]
      rfl
theorem bat_zero {b : Int} (hb : 1 ≤ b) : bat 0 b = 0 := by
  have := bat_bd (q := 0) (Int.le_refl _) hb
  omega
theorem xp_zero {n : Nat} {c : Nat → IT} {d : Int} {f : Nat → Int} {i : Nat} (h : isB n c = true) (hi : i < n) (hf : FQ f) : xpF c d f i 0 = f ∧ xpB c d f i 0 = true := by
  obtain ⟨h1, _, _, h4, _⟩ := isB_it h hi
  obtain ⟨e1, e2⟩ := ex_zero hf (cnN (c i).parz d (c i).parn) (c := cnC (c i).parz d (c i).parn) (cnC_all (P := fun p => 0 ≤ p.scr ∧ p.scr ≤ 100) _ (fun j hj => (h4 j hj).1.2.2.1))
  unfold xpF xpB
  rw [bat_zero h1.1, e1, e2, Int.zero_mul]
  exact ⟨rfl, rfl⟩
theorem xpF_q {n : Nat} {c : Nat → IT} {d : Int} {f : Nat → Int} {i : Nat} {q : Int} (hf : FQ f) (h : xpB c d f i q = true) : FQ (xpF c d f i q) := by
  unfold xpB at h
  simp only [Bool.and_eq_true] at h
  exact exF_q hf _ h.2
/-- What is left behind an item's own expansion. -/
def brB (c : Nat → IT) (d : Int) (f : Nat → Int) (i : Nat) (q : Int) : Bool := inB (f i + bat q (c i).batch * (c i).batch) 0 1000000 && exB (upI f i (f i + bat q (c i).batch * (c i).batch)) (bat q (c i).batch) (cnC (c i).alsz d (c i).alsn) (cnN (c i).alsz d (c i).alsn)
def brF (c : Nat → IT) (d : Int) (f : Nat → Int) (i : Nat) (q : Int) : Nat → Int := exF (upI f i (f i + bat q (c i).batch * (c i).batch)) (bat q (c i).batch) (cnC (c i).alsz d (c i).alsn) (cnN (c i).alsz d (c i).alsn)

set_option maxRecDepth 20000 in
set_option maxHeartbeats 4000000 in
theorem expand_any (ia : Option Addr) (n ic : Nat) (c : Nat → IT) (d : Int) (mb LB : Nat) (f : Nat → Int) (i : Nat) (q : Int) (w : World) (hI : isB n c = true) (hM : MG ia n ic d mb LB f w) (hS : ItS LB w ia n c) (hf : FQ f) (hi : i < n) (q0 : 0 ≤ q) (q1 : q ≤ 1000000) :
    Calls Try.prog 101 #[.pointer (some ⟨mb, 0, none⟩), .int .i64 (i : Int), .int .i64 q] w (ApP2 ia n ic d mb LB (xpF c d f i q) (xpB c d f i q) w) := by
  have HM : Hid (MG ia n ic d mb LB f w) := hM
  have HF : Hid (FQ f) := hf
  have hn60 : (n : Int) ≤ 60 := by have := (isB_p hI).1; omega
  have hi2 : (i : Int) < (n : Int) := by omega
  obtain ⟨g1, g2, g3, g4, g5⟩ := isB_it hI hi
  have hLB : LB < w.heap.size := hM.q.lt
  have m0 : w.cell? ⟨mb, 0, none⟩ = some (.slice ia n ic) := (hM.m.cell 0).trans rfl
  obtain ⟨w0, hw0, hI0, hBw⟩ := hS
  obtain ⟨kb, off, rfl, hkb⟩ := hI0.addr (by omega)
  obtain ⟨ra, rc, sa, sc, _, _, c0, c1, c2, c3, c4, r5, r6⟩ := hI0.cell hi
  have HPW : Hid (∀ W, Bt LB w W → W.cell? ⟨mb, 0, none⟩ = some (.slice (some ⟨kb, off, none⟩) n ic) ∧ W.cell? ⟨kb, off + i * 5 + 3, none⟩ = some (.slice ra (c i).parn rc) ∧ PAr W ra (c i).parn (c i).parz) := hid (fun W b => ⟨((HM.out.m.bt b HM.out.ne).cell 0).trans rfl, keep_cell (hBw.trans (b.2.mono hw0)) c3, r5.below (hBw.trans (b.2.mono hw0))⟩)
  replace c0 := keep_cell hBw c0
  replace c1 := keep_cell hBw c1
  replace c2 := keep_cell hBw c2
  replace c3 := keep_cell hBw c3
  replace c4 := keep_cell hBw c4
  replace r5 := r5.below hBw
  replace r6 := r6.below hBw
  have HP : Hid (∀ j, j < (c i).parn → PG n ((c i).parz j)) := hid (fun j hj => (g4 j hj).1)
  have HR5 : Hid (PAr w ra (c i).parn (c i).parz) := r5
  obtain ⟨b0, b1⟩ := bat_bd q0 g1.1
  have hmd := bat_made q0 g1.1
  have hmd0 : 0 ≤ bat q (c i).batch * (c i).batch := Int.mul_nonneg b0 (by omega)
  have HBF : Hid (∀ W, Calls Try.prog 131 #[.agg #[.string (c i).name, .int .i64 (c i).batch, .bool (c i).pha, .slice ra (c i).parn rc, .slice sa (c i).alsn sc], .int .i64 q] W fun e w' => e = .returned (.tuple #[.int .i64 (bat q (c i).batch), .int .i64 (bat q (c i).batch * (c i).batch)]) ∧ Below W.heap.size W w') := hid (fun W => batches_any _ _ _ _ _ _ _ _ _ q W q0 q1 g1.1 g1.2)
  have hpn : ((c i).parn : Int) ≤ 30 := by omega
  unfold xpB xpF
  clear hM hI0 hBw hw0 hf r5 r6 g2 g3 g4 g5
  generalize bat q (c i).batch * (c i).batch = MD at *
  generalize bat q (c i).batch = NB at *
  generalize (c i).parz = z at HP HR5 HPW ⊢
  generalize (c i).name = nm at c0 HBF
  generalize (c i).batch = ba at c1 HBF g1 hmd
  generalize (c i).pha = ph at c2 HBF
  generalize (c i).parn = rn at *
  generalize (c i).alsn = sn at *
  cases hv : inB MD 0 1000000
  · simp only [Bool.false_and]
    have HVV : Hid (inB MD 0 1000000 = false) := hv
    clear hv
    go_enter Try.func101, Try.ntmps101
    go_wp2_with (first
      | (go_at_call 131; refine (HBF.out _).mono ?_; rintro e w1 ⟨rfl, b1⟩; have k0 := keep_cell b1 m0; have k3 := keep_cell b1 c3; have HB1 : Hid (Bt LB w w1 ∧ MG (some ⟨kb, off, none⟩) n ic d mb LB f w1 ∧ PAr w1 ra rn z) := hid ⟨Bt.of b1 (by omega), HM.out.below b1, HR5.out.below b1⟩; clear b1)
      | (go_at_call 76; refine (isQty_eq _ _ _ HVV.out).mono ?_; rintro e w2 ⟨rfl, ew⟩; replace ew := ew.symm; subst ew))
    go_returns
    exact ⟨rfl, HB1.out.1, fun h => by cases h⟩
  · simp only [Bool.true_and]
    have HVV : Hid (inB MD 0 1000000 = true) := hv
    clear hv
    obtain ⟨XB, hXB⟩ : ∃ b, exB f NB (cnC z d rn) (cnN z d rn) = b := ⟨_, rfl⟩
    have HAP : Hid (∀ W, MG (some ⟨kb, off, none⟩) n ic d mb LB f W → PAr W ra rn z → Calls Try.prog 133 #[.pointer (some ⟨mb, 0, none⟩), .slice ra rn rc, .int .i64 NB] W (ApP2 (some ⟨kb, off, none⟩) n ic d mb LB (exF f NB (cnC z d rn) (cnN z d rn)) XB W)) := hid (fun W a b => by rw [← hXB]; exact addParts_any _ n ic d mb LB f ra rn rc z NB W hn60 a HF.out b hpn HP.out b0 (by omega))
    rw [hXB]
    clear hXB
    go_enter Try.func101, Try.ntmps101
    go_wp2_with (first
      | (go_at_call 131; refine (HBF.out _).mono ?_; rintro e w1 ⟨rfl, b1⟩; have k0 := keep_cell b1 m0; have k3 := keep_cell b1 c3; have HB1 : Hid (Bt LB w w1 ∧ MG (some ⟨kb, off, none⟩) n ic d mb LB f w1 ∧ PAr w1 ra rn z) := hid ⟨Bt.of b1 (by omega), HM.out.below b1, HR5.out.below b1⟩; clear b1)
      | (go_at_call 76; refine (isQty_eq _ _ _ HVV.out).mono ?_; rintro e w2 ⟨rfl, ew⟩; replace ew := ew.symm; subst ew)
      | (go_at_call 133; refine (HAP.out _ HB1.out.2.1 HB1.out.2.2).mono ?_; rintro e w3 ⟨rfl, b3, g3⟩; have HB3 : Hid (Bt LB w w3 ∧ (XB = true → MG (some ⟨kb, off, none⟩) n ic d mb LB (exF f NB (cnC z d rn) (cnN z d rn)) w3)) := hid ⟨HB1.out.1.trans b3, g3⟩; clear b3 g3))
    go_returns
    exact ⟨rfl, HB3.out⟩
set_option maxRecDepth 20000 in
set_option maxHeartbeats 4000000 in
theorem bring_any (ia : Option Addr) (n ic : Nat) (c : Nat → IT) (d : Int) (mb LB : Nat) (f : Nat → Int) (i : Nat) (q : Int) (w : World) (hI : isB n c = true) (hM : MG ia n ic d mb LB f w) (hS : ItS LB w ia n c) (hf : FQ f) (hi : i < n) (q0 : 0 ≤ q) (q1 : q ≤ 1000000) :
    Calls Try.prog 97 #[.pointer (some ⟨mb, 0, none⟩), .int .i64 (i : Int), .int .i64 q] w (ApP2 ia n ic d mb LB (brF c d f i q) (brB c d f i q) w) := by
  have HM : Hid (MG ia n ic d mb LB f w) := hM
  have HF : Hid (FQ f) := hf
  have hn60 : (n : Int) ≤ 60 := by have := (isB_p hI).1; omega
  have hi2 : (i : Int) < (n : Int) := by omega
  obtain ⟨g1, g2, g3, g4, g5⟩ := isB_it hI hi
  have hLB : LB < w.heap.size := hM.q.lt
  have m0 : w.cell? ⟨mb, 0, none⟩ = some (.slice ia n ic) := (hM.m.cell 0).trans rfl
  obtain ⟨w0, hw0, hI0, hBw⟩ := hS
  obtain ⟨kb, off, rfl, hkb⟩ := hI0.addr (by omega)
  obtain ⟨ra, rc, sa, sc, _, _, c0, c1, c2, c3, c4, r5, r6⟩ := hI0.cell hi
  have HPW : Hid (∀ W, Bt LB w W → W.cell? ⟨mb, 0, none⟩ = some (.slice (some ⟨kb, off, none⟩) n ic) ∧ W.cell? ⟨kb, off + i * 5 + 4, none⟩ = some (.slice sa (c i).alsn sc) ∧ PAr W sa (c i).alsn (c i).alsz) := hid (fun W b => ⟨((HM.out.m.bt b HM.out.ne).cell 0).trans rfl, keep_cell (hBw.trans (b.2.mono hw0)) c4, r6.below (hBw.trans (b.2.mono hw0))⟩)
  replace c0 := keep_cell hBw c0
  replace c1 := keep_cell hBw c1
  replace c2 := keep_cell hBw c2
  replace c3 := keep_cell hBw c3
  replace c4 := keep_cell hBw c4
  replace r5 := r5.below hBw
  replace r6 := r6.below hBw
  have HP : Hid (∀ j, j < (c i).alsn → PG n ((c i).alsz j)) := hid (fun j hj => (g5 j hj).1)
  have HR5 : Hid (PAr w sa (c i).alsn (c i).alsz) := r6
  obtain ⟨b0, b1⟩ := bat_bd q0 g1.1
  have hmd := bat_made q0 g1.1
  have hmd0 : 0 ≤ bat q (c i).batch * (c i).batch := Int.mul_nonneg b0 (by omega)
  have HBF : Hid (∀ W, Calls Try.prog 131 #[.agg #[.string (c i).name, .int .i64 (c i).batch, .bool (c i).pha, .slice ra (c i).parn rc, .slice sa (c i).alsn sc], .int .i64 q] W fun e w' => e = .returned (.tuple #[.int .i64 (bat q (c i).batch), .int .i64 (bat q (c i).batch * (c i).batch)]) ∧ Below W.heap.size W w') := hid (fun W => batches_any _ _ _ _ _ _ _ _ _ q W q0 q1 g1.1 g1.2)
  have hpn : ((c i).alsn : Int) ≤ 30 := by omega
  unfold brB brF
  clear hM hI0 hBw hw0 hf r5 r6 g2 g3 g4 g5
  generalize bat q (c i).batch * (c i).batch = MD at *
  generalize bat q (c i).batch = NB at *
  generalize (c i).alsz = z at HP HR5 HPW ⊢
  generalize (c i).name = nm at c0 HBF
  generalize (c i).batch = ba at c1 HBF g1 hmd
  generalize (c i).pha = ph at c2 HBF
  generalize (c i).parn = rn at *
  generalize (c i).alsn = sn at *
  cases hv : inB (f i + MD) 0 1000000
  · simp only [Bool.false_and]
    have HVV : Hid (inB (f i + MD) 0 1000000 = false) := hv
    clear hv
    go_enter Try.func97, Try.ntmps97
    go_wp2_with (first
      | (go_at_call 131; refine (HBF.out _).mono ?_; rintro e w1 ⟨rfl, b1⟩; have k0 := keep_cell b1 m0; have k3 := keep_cell b1 c4; have HB1 : Hid (Bt LB w w1 ∧ MG (some ⟨kb, off, none⟩) n ic d mb LB f w1 ∧ PAr w1 sa sn z) := hid ⟨Bt.of b1 (by omega), HM.out.below b1, HR5.out.below b1⟩; clear b1)
      | (go_at_call 132; refine (add_eq _ n ic d mb LB f i MD false _ hn60 HB1.out.2.1 hi HF.out hmd0 (by omega) HVV.out).mono ?_; rintro e w2 ⟨rfl, g2, b2⟩; have HB2 : Hid (Bt LB w w2) := hid (HB1.out.1.trans b2); clear g2 b2))
    go_returns
    exact ⟨rfl, HB2.out, fun h => by cases h⟩
  · simp only [Bool.true_and]
    have HVV : Hid (inB (f i + MD) 0 1000000 = true) := hv
    have hfi := inB_t hv
    have HFU : Hid (FQ (upI f i (f i + MD))) := hid (HF.out.up i hfi.1 hfi.2)
    clear hv hfi
    obtain ⟨XB, hXB⟩ : ∃ b, exB (upI f i (f i + MD)) NB (cnC z d sn) (cnN z d sn) = b := ⟨_, rfl⟩
    have HAP : Hid (∀ W, MG (some ⟨kb, off, none⟩) n ic d mb LB (upI f i (f i + MD)) W → PAr W sa sn z → Calls Try.prog 133 #[.pointer (some ⟨mb, 0, none⟩), .slice sa sn sc, .int .i64 NB] W (ApP2 (some ⟨kb, off, none⟩) n ic d mb LB (exF (upI f i (f i + MD)) NB (cnC z d sn) (cnN z d sn)) XB W)) := hid (fun W a b => by rw [← hXB]; exact addParts_any _ n ic d mb LB _ sa sn sc z NB W hn60 a HFU.out b hpn HP.out b0 (by omega))
    rw [hXB]
    clear hXB
    go_enter Try.func97, Try.ntmps97
    go_wp2_with (first
      | (go_at_call 131; refine (HBF.out _).mono ?_; rintro e w1 ⟨rfl, b1⟩; have k0 := keep_cell b1 m0; have k3 := keep_cell b1 c4; have HB1 : Hid (Bt LB w w1 ∧ MG (some ⟨kb, off, none⟩) n ic d mb LB f w1 ∧ PAr w1 sa sn z) := hid ⟨Bt.of b1 (by omega), HM.out.below b1, HR5.out.below b1⟩; clear b1)
      | (go_at_call 132; refine (add_eq _ n ic d mb LB f i MD true _ hn60 HB1.out.2.1 hi HF.out hmd0 (by omega) HVV.out).mono ?_; rintro e w2 ⟨rfl, g2, b2⟩; have HB2 : Hid (Bt LB w w2 ∧ MG (some ⟨kb, off, none⟩) n ic d mb LB (upI f i (f i + MD)) w2) := hid ⟨HB1.out.1.trans b2, g2⟩; have j0 := (HPW.out _ HB2.out.1).1; have j4 := (HPW.out _ HB2.out.1).2.1; clear g2 b2)
      | (go_at_call 133; refine (HAP.out _ HB2.out.2 (HPW.out _ HB2.out.1).2.2).mono ?_; rintro e w3 ⟨rfl, b3, g3⟩; have HB3 : Hid (Bt LB w w3 ∧ (XB = true → MG (some ⟨kb, off, none⟩) n ic d mb LB (exF (upI f i (f i + MD)) NB (cnC z d sn) (cnN z d sn)) w3)) := hid ⟨HB2.out.1.trans b3, g3⟩; clear b3 g3))
    go_returns
    exact ⟨rfl, HB3.out⟩
end Go.Proofs.Ytmbdeafpfdeigaa
