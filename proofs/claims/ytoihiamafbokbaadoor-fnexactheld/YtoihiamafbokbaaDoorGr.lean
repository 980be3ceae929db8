/- Groups, plain; the model's GroupOk. -/
import Derived.Test.YtoihiamafbokbaaDoorMb
namespace Go.Proofs.YtoihiamafbokbaaDoor
open Go.ChangeShapes Go.WideShapes Go.ChangeAt Go.RowKit
set_option linter.unusedVariables false
set_option linter.unusedSimpArgs false

def amI (x : Int) : Bool := inB x (-100000000000) 100000000000
theorem amI_iff {x : Int} : amI x = true ↔ -100000000000 ≤ x ∧ x ≤ 100000000000 := inB_iff
theorem l1Amount_any (x : Int) (w : World) : Calls Tryd.prog 36 #[.int .i64 x] w fun e w' => e = .returned (.bool (amI x)) ∧ w' = w := by
  go_enter Tryd.func36, Tryd.ntmps36
  go_wp2_with (go_at_call 19; refine (l1In_any _ _ _ _).mono ?_; rintro e w3 ⟨rfl, ew⟩; replace ew := ew.symm; subst ew)
  go_returns
  exact ⟨rfl, rfl⟩
def smI (z : Nat → Int) : Nat → Int
  | 0 => 0
  | n + 1 => smI z n + z n
theorem smI_bound {z : Nat → Int} : ∀ {n : Nat}, (∀ j, j < n → amI (z j) = true) → -(100000000000 * (n : Int)) ≤ smI z n ∧ smI z n ≤ 100000000000 * (n : Int)
  | 0, _ => by simp [smI]
  | n + 1, h => by
    have ih := smI_bound (z := z) (n := n) (fun j hj => h j (by omega))
    have h1 := amI_iff.1 (h n (by omega))
    simp only [smI]
    omega
def TlOk (len : Nat) (c : Nat → C3) (z : Nat → Int) (j : Nat) : Prop := amI (z j) = true ∧ (z j = 0 ∨ leafB len c (j : Int) = true)
/-- A trial of this chart. -/
def TrOk (len : Nat) (c : Nat → C3) (n : Nat) (z : Nat → Int) : Prop := n = len ∧ (∀ j, j < n → TlOk len c z j) ∧ smI z n = 0
open Classical in
noncomputable def trB (len : Nat) (c : Nat → C3) (n : Nat) (z : Nat → Int) : Bool := decide (TrOk len c n z)
open Classical in
theorem trB_t {len : Nat} {c : Nat → C3} {n : Nat} {z : Nat → Int} (h : TrOk len c n z) : trB len c n z = true := decide_eq_true h
open Classical in
theorem trB_f {len : Nat} {c : Nat → C3} {n : Nat} {z : Nat → Int} (h : ¬ TrOk len c n z) : trB len c n z = false := decide_eq_false h
open Classical in
theorem trB_iff {len : Nat} {c : Nat → C3} {n : Nat} {z : Nat → Int} : trB len c n z = true ↔ TrOk len c n z := by unfold trB; simp

set_option maxRecDepth 20000 in
set_option maxHeartbeats 2000000 in
theorem l8Trial_any (fa : Option Addr) (len cap : Nat) (c : Nat → C3) (ta : Option Addr) (n tc : Nat) (z : Nat → Int) (w : World) (hl : (len : Int) ≤ 1048576) (hc : ∀ j, (c j).code.size ≤ maxLen) (hr : CR w fa len c) (hn : (n : Int) ≤ 1048576) (ht : IR w ta n z) :
    Calls Tryd.prog 21 #[.slice fa len cap, .slice ta n tc] w fun e w' => e = .returned (.bool (trB len c n z)) ∧ Below w.heap.size w w' := by
  have HR : Hid (CR w fa len c) := hr
  have HC : Hid (∀ j, (c j).code.size ≤ maxLen) := hc
  have HT : Hid (IR w ta n z) := ht
  clear hr hc ht
  by_cases hne : n = len
  · subst hne
    go_enter Tryd.func21, Tryd.ntmps21
    go_wp2
    go_loopw [5, 6] (fun s i wr => ∃ (k : Nat), k ≤ n ∧ i = .int .i64 (k : Int) ∧ s = .int .i64 (smI z k) ∧ Hid ((∀ j, j < k → TlOk n c z j) ∧ Below w.heap.size w wr)) (fun _ i _ => n - (intOf i).toNat)
    case atStart => exact ⟨0, Nat.zero_le _, rfl, rfl, fun j hj => by omega, Below.refl _ _⟩
    case round =>
      obtain ⟨k, hk, rfl, rfl, HK⟩ := hrel
      by_cases hlt : k < n
      · have hlt2 : (k : Int) < (n : Int) := by omega
        obtain ⟨kb, off, rfl, hkb⟩ := HT.out.addr (by omega)
        have c1 := (HT.out.below HK.out.2).cell hlt
        obtain ⟨x, hx⟩ : ∃ x, z k = x := ⟨_, rfl⟩
        have HX : Hid (z k = x) := hx
        obtain ⟨s, hs⟩ : ∃ s, smI z k = s := ⟨_, rfl⟩
        have HS : Hid (smI z k = s) := hs
        have hsb := smI_bound (z := z) (n := k) (fun j hj => (HK.out.1 j hj).1)
        rw [hs] at hsb ⊢
        rw [hx] at c1
        have hs1 : -200000000000000000 ≤ s := by omega
        have hs2 : s ≤ 200000000000000000 := by omega
        clear hx hs hsb
        cases ha : amI x with
        | false =>
          have HF : Hid (trB n c n z = false) := trB_f (fun q => by have := (q.2.1 k hlt).1; rw [HX.out, ha] at this; cases this)
          go_wp2_with (go_at_call 36; refine (l1Amount_any _ _).mono ?_; rintro e w3 ⟨rfl, ew⟩; replace ew := ew.symm; subst ew; rw [ha])
          go_returns
          exact ⟨ret_bool HF.out.symm, HK.out.2⟩
        | true =>
          have hxb := amI_iff.1 ha
          by_cases h0 : x = 0
          · subst h0
            have HN : Hid ((∀ j, j < k + 1 → TlOk n c z j) ∧ smI z (k + 1) = s) := ⟨fun j hj => by
              by_cases e : j = k
              · subst e; exact ⟨by rw [HX.out]; exact ha, .inl HX.out⟩
              · exact HK.out.1 j (by omega), by simp [smI, HX.out, HS.out]⟩
            go_wp2_with (go_at_call 36; refine (l1Amount_any _ _).mono ?_; rintro e w3 ⟨rfl, ew⟩; replace ew := ew.symm; subst ew; rw [ha])
            go_roundw
            case rel => exact ⟨k + 1, by omega, by go_num, (by rw [HN.out.2]; try simp), HN.out.1, HK.out.2⟩
            case measure => simp [intOf]; omega
          · have hx0 : (x == 0) = false := by simpa using h0
            cases hleaf : leafB n c (k : Int) with
            | false =>
              have HF : Hid (trB n c n z = false) := trB_f (fun q => by
                rcases (q.2.1 k hlt).2 with e | e
                · rw [HX.out] at e; exact h0 e
                · rw [hleaf] at e; cases e)
              go_wp2_with (first
                | (go_at_call 36; refine (l1Amount_any _ _).mono ?_; rintro e w3 ⟨rfl, ew⟩; replace ew := ew.symm; subst ew; rw [ha])
                | (go_at_call 35; refine (specLeaf_any _ _ _ c _ _ hl HC.out (HR.out.below HK.out.2)).mono ?_; rintro e w4 ⟨rfl, b4⟩; rw [hleaf]; have HB4 : Hid (Below w.heap.size w w4) := bel_on HK.out.2 b4; clear b4))
              go_returns
              exact ⟨ret_bool HF.out.symm, HB4.out⟩
            | true =>
              have HN : Hid ((∀ j, j < k + 1 → TlOk n c z j) ∧ smI z (k + 1) = s + x) := ⟨fun j hj => by
                by_cases e : j = k
                · subst e; exact ⟨by rw [HX.out]; exact ha, .inr hleaf⟩
                · exact HK.out.1 j (by omega), by simp [smI, HX.out, HS.out]⟩
              go_wp2_with (first
                | (go_at_call 36; refine (l1Amount_any _ _).mono ?_; rintro e w3 ⟨rfl, ew⟩; replace ew := ew.symm; subst ew; rw [ha])
                | (go_at_call 35; refine (specLeaf_any _ _ _ c _ _ hl HC.out (HR.out.below HK.out.2)).mono ?_; rintro e w4 ⟨rfl, b4⟩; rw [hleaf]; have HB4 : Hid (Below w.heap.size w w4) := bel_on HK.out.2 b4; have c4 : w4.cell? ⟨kb, off + k, none⟩ = some (.int .i64 x) := (by rw [← HX.out]; exact (HT.out.below HB4.out).cell hlt); clear b4))
              go_roundw
              case rel => exact ⟨k + 1, by omega, by go_num, by rw [HN.out.2], HN.out.1, HB4.out⟩
              case measure => simp [intOf]; omega
      · obtain rfl : k = n := by omega
        have lkk : ¬ (k : Int) < (k : Int) := by omega
        by_cases h0 : smI z k = 0
        · have HF : Hid (trB k c k z = true) := trB_t ⟨rfl, HK.out.1, h0⟩
          rw [h0]
          clear h0
          go_wp2
          go_returns
          exact ⟨ret_bool HF.out.symm, HK.out.2⟩
        · have HF : Hid (trB k c k z = false) := trB_f (fun q => h0 q.2.2)
          obtain ⟨s, hs⟩ : ∃ s, smI z k = s := ⟨_, rfl⟩
          rw [hs] at h0 ⊢
          have hx0 : (s == 0) = false := by simpa using h0
          clear hs
          go_wp2
          go_returns
          exact ⟨ret_bool HF.out.symm, HK.out.2⟩
  · have HF : Hid (trB len c n z = false) := trB_f (fun q => hne q.1)
    have hne2 : ((n : Int) == (len : Int)) = false := by simpa using (by omega : ¬ (n : Int) = (len : Int))
    go_enter Tryd.func21, Tryd.ntmps21
    go_wp2
    go_returns
    exact ⟨ret_bool HF.out.symm, Below.refl _ _⟩

/-- A leaf of the kind Equity. -/
noncomputable def eqtB (len : Nat) (c : Nat → C3) (x : Int) : Bool := leafB len c x && decide ((c x.toNat).step = 3)
theorem leaf_in {len : Nat} {c : Nat → C3} {x : Int} (h : leafB len c x = true) : 0 ≤ x ∧ x < (tn len c : Int) := by
  unfold leafB at h
  have := of_decide_eq_true h
  exact ⟨this.1, this.2.1⟩
set_option maxRecDepth 20000 in
set_option maxHeartbeats 2000000 in
theorem l8Equity_eq (fa : Option Addr) (len cap : Nat) (c : Nat → C3) (u : Int) (ra : Option Addr) (m rcap : Nat) (mi sf x : Int) {v : Bool} (w : World) (hl : (len : Int) ≤ 1048576) (hc : ∀ j, (c j).code.size ≤ maxLen) (hr : CR w fa len c) (hv : eqtB len c x = v) :
    Calls Tryd.prog 20 #[.agg #[.slice fa len cap, .int .i64 u, .slice ra m rcap, .int .i64 mi, .int .i64 sf], .int .i64 x] w fun e w' => e = .returned (.bool v) ∧ Below w.heap.size w w' := by
  subst hv
  have HR : Hid (CR w fa len c) := hr
  have HC : Hid (∀ j, (c j).code.size ≤ maxLen) := hc
  clear hr hc
  unfold eqtB
  cases hv : leafB len c x with
  | false =>
    go_enter Tryd.func20, Tryd.ntmps20
    go_wp2_with (go_at_call 35; refine (specLeaf_any _ _ _ c _ _ hl HC.out (HR.out.alloc _)).mono ?_; rintro e w4 ⟨rfl, b4⟩; rw [hv]; have HB4 : Hid (Below w.heap.size w w4) := bel_on ((Below.refl _ _).alloc (Nat.le_refl _) _) b4; clear b4)
    go_returns
    exact ⟨rfl, HB4.out⟩
  | true =>
    have hin := leaf_in hv
    have htl := (tn_le len c).1
    obtain ⟨i, rfl⟩ : ∃ i : Nat, x = (i : Int) := ⟨x.toNat, by omega⟩
    have hi : i < len := by omega
    have hi2 : (i : Int) < (len : Int) := by omega
    obtain ⟨kb, off, rfl, hkb⟩ := HR.out.addr (by omega)
    obtain ⟨s, hs⟩ : ∃ s, (c i).step = s := ⟨_, rfl⟩
    have HS : Hid ((c i).step = s) := hs
    simp only [Int.toNat_natCast, hs]
    clear hs hin
    by_cases h3 : s = 3
    · subst h3
      go_enter Tryd.func20, Tryd.ntmps20
      go_wp2_with (go_at_call 35; refine (specLeaf_any _ _ _ c _ _ hl HC.out (HR.out.alloc _)).mono ?_; rintro e w4 ⟨rfl, b4⟩; rw [hv]; have X0 : CB w4 w.heap.size #[.slice (some ⟨kb, off, none⟩) len cap, .int .i64 u, .slice ra m rcap, .int .i64 mi, .int .i64 sf] 31 := (CB.new _ _).below b4 (by simp); have x0 := (X0.cell 0).trans rfl; have HB4 : Hid (Below w.heap.size w w4) := bel_on ((Below.refl _ _).alloc (Nat.le_refl _) _) b4; have c3 : w4.cell? ⟨kb, off + i * 3 + 2, none⟩ = some (.int .i64 3) := (by rw [← HS.out]; exact ((HR.out.below HB4.out).cell hi).2.2); clear b4 X0)
      go_returns
      exact ⟨by simp, HB4.out⟩
    · have h30 : (s == 3) = false := by simpa using h3
      go_enter Tryd.func20, Tryd.ntmps20
      go_wp2_with (go_at_call 35; refine (specLeaf_any _ _ _ c _ _ hl HC.out (HR.out.alloc _)).mono ?_; rintro e w4 ⟨rfl, b4⟩; rw [hv]; have X0 : CB w4 w.heap.size #[.slice (some ⟨kb, off, none⟩) len cap, .int .i64 u, .slice ra m rcap, .int .i64 mi, .int .i64 sf] 31 := (CB.new _ _).below b4 (by simp); have x0 := (X0.cell 0).trans rfl; have HB4 : Hid (Below w.heap.size w w4) := bel_on ((Below.refl _ _).alloc (Nat.le_refl _) _) b4; have c3 : w4.cell? ⟨kb, off + i * 3 + 2, none⟩ = some (.int .i64 s) := (by rw [← HS.out]; exact ((HR.out.below HB4.out).cell hi).2.2); clear b4 X0)
      go_returns
      exact ⟨by simp [h3], HB4.out⟩

/-- A member at the place i. -/
def MHeld (i : Nat) (x : M4) : Prop := (i = 0 ∧ x.par = -1 ∧ x.sh = 10000) ∨ (0 < i ∧ 0 ≤ x.par ∧ x.par < (i : Int) ∧ 1 ≤ x.sh ∧ x.sh ≤ 10000)
def MOk (u : Int) (len : Nat) (c : Nat → C3) (i : Nat) (x : M4) : Prop := MHeld i x ∧ (0 ≤ x.cur ∧ x.cur < u) ∧ TrOk len c x.tn x.tr
def GrOk (len : Nat) (c : Nat → C3) (u : Int) (m : Nat) (ms : Nat → M4) (mi sf : Int) : Prop :=
  (chartB len c = true ∧ inB u 1 20 = true) ∧ inB (m : Int) 1 12 = true ∧ mi ≠ sf ∧ eqtB len c mi = true ∧ eqtB len c sf = true ∧ ∀ i, i < m → MOk u len c i (ms i)
open Classical in
noncomputable def grB (len : Nat) (c : Nat → C3) (u : Int) (m : Nat) (ms : Nat → M4) (mi sf : Int) : Bool := decide (GrOk len c u m ms mi sf)
open Classical in
theorem grB_t {len : Nat} {c : Nat → C3} {u : Int} {m : Nat} {ms : Nat → M4} {mi sf : Int} (h : GrOk len c u m ms mi sf) : grB len c u m ms mi sf = true := decide_eq_true h
open Classical in
theorem grB_f {len : Nat} {c : Nat → C3} {u : Int} {m : Nat} {ms : Nat → M4} {mi sf : Int} (h : ¬ GrOk len c u m ms mi sf) : grB len c u m ms mi sf = false := decide_eq_false h
open Classical in
theorem grB_iff {len : Nat} {c : Nat → C3} {u : Int} {m : Nat} {ms : Nat → M4} {mi sf : Int} : grB len c u m ms mi sf = true ↔ GrOk len c u m ms mi sf := by unfold grB; simp
end Go.Proofs.YtoihiamafbokbaaDoor
