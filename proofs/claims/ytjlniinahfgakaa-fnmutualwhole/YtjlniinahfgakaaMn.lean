/- The program's handOnAll where it refuses; Mutual. -/
import Derived.Test.YtjlniinahfgakaaMs
namespace Go.Proofs.Ytjlniinahfgakaa
open Go Go.ChangeShapes Go.WideShapes Go.ChangeAt Go.RowKit
set_option linter.unusedVariables false
set_option linter.unusedSimpArgs false

open Classical in
theorem costB_iff {n : Nat} {c : Nat → Int} : costB n c = true ↔ CostP n c := by unfold costB; simp
set_option maxRecDepth 20000 in
set_option maxHeartbeats 4000000 in
theorem handOnAll_no (ca : Option Addr) (N ccap0 : Nat) (c : Nat → Int) (sv : Int) (ad : Option Addr) (m cap : Nat) (ln : Nat → Nat) (z : Nat → Nat → Int) (w : World) (hN2 : (N : Int) ≤ 1048576) (hm2 : (m : Int) ≤ 1048576) (hll : ∀ j, j < m → (ln j : Int) ≤ 1048576) (hbad : ¬ (CostP N c ∧ ShS N sv m ln z ∧ dl (mF m z) 3 (oF false false false) ≠ 0)) (hc : IR w ca N c) (hr : SR w ad m ln z) :
    Calls Try.prog 63 #[.slice ca N ccap0, .int .i64 sv, .slice ad m cap] w fun e w' => e = .returned (.tuple #[.agg #[.slice none 0 0, .slice none 0 0], .bool false]) ∧ Below w.heap.size w w' := by
  have HSR : Hid (SR w ad m ln z) := hr
  have HIC0 : Hid (IR w ca N c) := hc
  have HLL : Hid (∀ j, j < m → (ln j : Int) ≤ 1048576) := hll
  have HA0 : Hid (Below w.heap.size w (w.alloc (.cells #[.slice none 0 0, .slice none 0 0] 85 (0, 0)))) := (Below.refl _ _).alloc (Nat.le_refl _) _
  clear hc hr hll
  cases hcb : costB N c with
  | false =>
    clear hbad
    go_enter Try.func63, Try.ntmps63
    go_wp2_with ((go_at_call 55; go_loud (refine (areCosts_any _ _ _ c _ hN2 (HIC0.out.below HA0.out)).mono ?_; rintro e w' ⟨rfl, ew⟩; replace ew := ew.symm; subst ew; rw [hcb])))
    have hX := CB.new (w := w) #[.slice none 0 0, .slice none 0 0] 85
    have e0 := (hX.cell 0).trans rfl
    have e1 := (hX.cell 1).trans rfl
    refine bodyPost_ret (by simp [results, Try.results63, go_sem, e0, e1]; try rfl) rfl ?_
    exact ⟨rfl, HA0.out⟩
  | true =>
    have hcost := costB_iff.1 hcb
    have hNb : N ≤ 200 := hcost.1.2
    cases hsb : shsB N sv m ln z with
    | false =>
      clear hbad hcost
      go_enter Try.func63, Try.ntmps63
      go_wp2_with (first
        | (go_at_call 55; go_loud (refine (areCosts_any _ _ _ c _ hN2 (HIC0.out.below HA0.out)).mono ?_; rintro e w' ⟨rfl, ew⟩; replace ew := ew.symm; subst ew; rw [hcb]))
        | (go_at_call 78; go_loud (refine (areShareLists_eq _ _ _ N _ ln z _ hm2 hNb HLL.out (HSR.out.below HA0.out) hsb).mono ?_; rintro e w' ⟨rfl, ew⟩; replace ew := ew.symm; subst ew)))
      have hX := CB.new (w := w) #[.slice none 0 0, .slice none 0 0] 85
      have e0 := (hX.cell 0).trans rfl
      have e1 := (hX.cell 1).trans rfl
      refine bodyPost_ret (by simp [results, Try.results63, go_sem, e0, e1]; try rfl) rfl ?_
      exact ⟨rfl, HA0.out⟩
    | true =>
      have hsh := shsB_iff.1 hsb
      have hD : dl (mF m z) 3 (oF false false false) = 0 := by
        by_cases h : dl (mF m z) 3 (oF false false false) = 0
        · exact h
        · exact absurd ⟨hcost, hsh, h⟩ hbad
      have hn : m ≤ 3 := by have := hsh.1; have := hsh.2.2.1; omega
      have hnN : m ≤ N := by have := hsh.2.1; have := hsh.2.2.1; omega
      have HLM : Hid (∀ i, i < m → m ≤ ln i ∧ (ln i : Int) ≤ 1048576) := fun i hi => by rw [(hsh.2.2.2 i hi).1]; omega
      have HZM : Hid (∀ i j, i < m → j < m → 0 ≤ z i j ∧ z i j ≤ 100) := fun i j hi hj => hunB_iff.1 ((hsh.2.2.2 i hi).2.2.1 j (by omega))
      have hFB0 := mF_bound (Nat.le_refl m) HZM.out
      obtain ⟨F, hF⟩ : ∃ F, mF m z = F := ⟨_, rfl⟩
      have HFF : Hid (mF m z = F) := hF
      rw [hF] at hFB0 hD
      have HFB : Hid (∀ i j, -100 ≤ F i j ∧ F i j ≤ 100) := hFB0
      have HD : Hid (dl F 3 (oF false false false) = 0) := hD
      clear hbad hcost hsh hD hF hFB0
      go_enter Try.func63, Try.ntmps63
      go_wp2_with (first
        | (go_at_call 55; go_loud (refine (areCosts_any _ _ _ c _ hN2 (HIC0.out.below HA0.out)).mono ?_; rintro e w' ⟨rfl, ew⟩; replace ew := ew.symm; subst ew; rw [hcb]))
        | (go_at_call 78; go_loud (refine (areShareLists_eq _ _ _ N _ ln z _ hm2 hNb HLL.out (HSR.out.below HA0.out) hsb).mono ?_; rintro e w' ⟨rfl, ew⟩; replace ew := ew.symm; subst ew))
        | (go_at_call 79; go_loud (refine (matrixOf_any _ m _ ln z _ hn HLM.out HZM.out (HSR.out.below HA0.out)).mono ?_; rintro e w1 ⟨rfl, b1⟩; rw [HFF.out]; unfold mcs; have HR1 : Hid (CB w1 w.heap.size #[.slice none 0 0, .slice none 0 0] 85) := (CB.new _ _).below b1 (by simp); have HB1 : Hid (Below w.heap.size w w1) := bel_on HA0.out b1; clear b1))
        | (go_at_call 80; go_loud (refine (determinant_any F HFB.out _).mono ?_; rintro e w2 ⟨rfl, b2⟩; rw [HD.out]; have HR2 : Hid (CB w2 w.heap.size #[.slice none 0 0, .slice none 0 0] 85) := (HR1.out.alloc _).below b2 (HR1.out.alloc _).lt; have HB2 : Hid (Below w.heap.size w w2) := bel_on (bel_on HB1.out ((Below.refl _ _).alloc (Nat.le_refl _) _)) b2; have q0 := (HR2.out.cell 0).trans rfl; have q1 := (HR2.out.cell 1).trans rfl; have g0 := HR2.out.fr 0; have g1 := HR2.out.fr 1; clear b2)))
      have hX := (HR2.out.set 0 (.slice none 0 0)).set 1 (.slice none 0 0)
      have hZ := (HB2.out.setCell (p := ⟨w.heap.size, 0, none⟩) (by simp) (.slice none 0 0)).setCell (p := ⟨w.heap.size, 1, none⟩) (by simp) (.slice none 0 0)
      generalize (World.setCell _ _ _) = W5 at hX hZ ⊢
      have e0 := (hX.cell 0).trans rfl
      have e1 := (hX.cell 1).trans rfl
      refine bodyPost_ret (by simp [results, Try.results63, go_sem, e0, e1]; try rfl) rfl ?_
      exact ⟨rfl, hZ⟩

/-- What Mutual takes. -/
def MuOk (N : Nat) (c : Nat → Int) (sv : Int) (m : Nat) (ln : Nat → Nat) (z : Nat → Nat → Int) : Prop := (CostP N c ∧ ShS N sv m ln z ∧ dl (mF m z) 3 (oF false false false) ≠ 0) ∧ CostP N (hC m N z c m)
open Classical in
noncomputable def muB (N : Nat) (c : Nat → Int) (sv : Int) (m : Nat) (ln : Nat → Nat) (z : Nat → Nat → Int) : Bool := decide (MuOk N c sv m ln z)
open Classical in
theorem muB_t {N : Nat} {c : Nat → Int} {sv : Int} {m : Nat} {ln : Nat → Nat} {z : Nat → Nat → Int} (h : MuOk N c sv m ln z) : muB N c sv m ln z = true := decide_eq_true h
open Classical in
theorem muB_f {N : Nat} {c : Nat → Int} {sv : Int} {m : Nat} {ln : Nat → Nat} {z : Nat → Nat → Int} (h : ¬ MuOk N c sv m ln z) : muB N c sv m ln z = false := decide_eq_false h
noncomputable def muM (N : Nat) (c : Nat → Int) (sv : Int) (m : Nat) (ln : Nat → Nat) (z : Nat → Nat → Int) : Nat := if muB N c sv m ln z = true then N else 0
def MuP (N : Nat) (c : Nat → Int) (sv : Int) (m : Nat) (ln : Nat → Nat) (z : Nat → Nat → Int) (w : World) (e : Ending) (w' : World) : Prop :=
  ∃ ad cap, e = .returned (.tuple #[.slice ad (muM N c sv m ln z) cap, .bool (muB N c sv m ln z)]) ∧ w'.ownsRow w.heap.size 3 1 (.slice ad (muM N c sv m ln z) cap) (muM N c sv m ln z) (intL (hC m N z c m) (muM N c sv m ln z)) ∧ Below w.heap.size w w'
theorem MuP.none {N : Nat} {c : Nat → Int} {sv : Int} {m : Nat} {ln : Nat → Nat} {z : Nat → Nat → Int} {w w1 : World} {b : Nat} (hbs : w1.heap.size = b) (h : muB N c sv m ln z = false) (hb : Below w.heap.size w w1) : MuP N c sv m ln z w (.returned (.tuple #[.slice (some ⟨b, 0, none⟩) 0 0, .bool false])) (w1.alloc (.cells #[] 3 (0, 0))) := by
  subst hbs
  have e : muM N c sv m ln z = 0 := by unfold muM; rw [h]; rfl
  unfold MuP
  rw [e, h]
  exact ⟨_, _, rfl, row_lower (none_own w1) hb.size, hb.alloc hb.size _⟩
set_option maxRecDepth 20000 in
set_option maxHeartbeats 4000000 in
theorem implMutual_any (ca : Option Addr) (N ccap0 : Nat) (c : Nat → Int) (sv : Int) (ad : Option Addr) (m cap : Nat) (ln : Nat → Nat) (z : Nat → Nat → Int) (w : World) (hN2 : (N : Int) ≤ 1048576) (hm2 : (m : Int) ≤ 1048576) (hll : ∀ j, j < m → (ln j : Int) ≤ 1048576) (hc : IR w ca N c) (hr : SR w ad m ln z) :
    Calls Try.prog 20 #[.slice ca N ccap0, .int .i64 sv, .slice ad m cap] w (MuP N c sv m ln z w) := by
  by_cases h1 : CostP N c ∧ ShS N sv m ln z ∧ dl (mF m z) 3 (oF false false false) ≠ 0
  · obtain rfl : (m : Int) = sv := h1.2.1.2.2.1
    have HH : Hid (Calls Try.prog 63 #[.slice ca N ccap0, .int .i64 (m : Int), .slice ad m cap] w (HoP m N z c w)) := handOnAll_ok ca N ccap0 c ad m cap ln z w h1.1 h1.2.1 h1.2.2 hc hr
    have H1 : Hid (CostP N c ∧ ShS N (m : Int) m ln z ∧ dl (mF m z) 3 (oF false false false) ≠ 0) := h1
    clear h1 hc hr hll
    cases hb : costB N (hC m N z c m) with
    | false =>
      have HF : Hid (muB N c (m : Int) m ln z = false) := muB_f (fun q => by have := costB_t q.2; rw [hb] at this; cases this)
      go_enter Try.func20, Try.ntmps20
      go_wp2_with (go_at_call 63; go_loud (refine HH.out.mono ?_; rintro e w1 ⟨C, cc, cad, ccap, rfl, o1, s1, b1⟩; rw [hb]; have HB : Hid (Below w.heap.size w w1) := b1; clear o1 s1 b1))
      go_returns
      exact MuP.none (b := w1.heap.size + 1) (by simp) HF.out (HB.out.alloc HB.out.size _)
    | true =>
      have HF : Hid (muB N c (m : Int) m ln z = true) := muB_t ⟨H1.out, costB_iff.1 hb⟩
      go_enter Try.func20, Try.ntmps20
      go_wp2_with (go_at_call 63; go_loud (refine HH.out.mono ?_; rintro e w1 ⟨C, cc, cad, ccap, rfl, o1, s1, b1⟩; rw [hb]; have HB : Hid (Below w.heap.size w w1) := b1; have HO : Hid (w1.ownsRow w.heap.size 3 1 (.slice (some ⟨C, 0, none⟩) N cc) N (intL (hC m N z c m) N)) := o1; clear o1 s1 b1))
      have HX : Hid (MuP N c (m : Int) m ln z w (.returned (.tuple #[.slice (some ⟨C, 0, none⟩) N cc, .bool true])) (w1.alloc (.cells #[.slice (some ⟨C, 0, none⟩) N cc, .slice cad m ccap] 85 (0, 0)))) := by
        have e : muM N c (m : Int) m ln z = N := by unfold muM; rw [HF.out]; rfl
        unfold MuP
        rw [e, HF.out]
        exact ⟨_, _, rfl, row_below HO.out ((Below.refl _ _).alloc (Nat.le_refl _) _), HB.out.alloc HB.out.size _⟩
      go_returns
      exact HX.out
  · have HF : Hid (muB N c sv m ln z = false) := muB_f (fun q => h1 q.1)
    have HH := handOnAll_no ca N ccap0 c sv ad m cap ln z w hN2 hm2 hll h1 hc hr
    have HHH : Hid (Calls Try.prog 63 #[.slice ca N ccap0, .int .i64 sv, .slice ad m cap] w fun e w' => e = .returned (.tuple #[.agg #[.slice none 0 0, .slice none 0 0], .bool false]) ∧ Below w.heap.size w w') := HH
    clear h1 hc hr hll HH
    go_enter Try.func20, Try.ntmps20
    go_wp2_with (go_at_call 63; go_loud (refine HHH.out.mono ?_; rintro e w1 ⟨rfl, b1⟩; have HB : Hid (Below w.heap.size w w1) := b1; clear b1))
    go_returns
    exact MuP.none (b := w1.heap.size + 1) (by simp) HF.out (HB.out.alloc HB.out.size _)
end Go.Proofs.Ytjlniinahfgakaa
