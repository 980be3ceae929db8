/- SalePrice of the model. -/
import Derived.Test.YtlhgmdmbjpaakaaSb
namespace Go.Proofs.Ytlhgmdmbjpaakaa
open Go Go.ChangeShapes Go.WideShapes Go.ChangeAt Go.RowKit
set_option linter.unusedVariables false
set_option linter.unusedSimpArgs false

def ivL (z : Nat → Int) : Nat → List Value
  | 0 => []
  | k + 1 => ivL z k ++ [.int .i64 (z k)]
theorem ivL_len (z : Nat → Int) : ∀ n, (ivL z n).length = n
  | 0 => rfl
  | n + 1 => by simp [ivL, ivL_len z n]
theorem ivL_one (z : Nat → Int) : ∀ n, ∀ v ∈ ivL z n, v.oneCell' = true
  | 0, v, h => by simp [ivL] at h
  | n + 1, v, h => by
    simp only [ivL, List.mem_append, List.mem_cons, List.not_mem_nil, or_false] at h
    rcases h with h | rfl
    · exact ivL_one z n v h
    · rfl
theorem ivL_get (z : Nat → Int) : ∀ n j, j < n → (ivL z n)[j]? = some (.int .i64 (z j))
  | 0, j, h => by omega
  | n + 1, j, h => by
    have e := ivL_len z n
    by_cases hj : j = n
    · subst hj; rw [ivL, List.getElem?_append_right (by omega), e, Nat.sub_self]; rfl
    · rw [ivL, List.getElem?_append_left (by omega)]; exact ivL_get z n j (by omega)
theorem ivL_src {w : World} {kb off n : Nat} {z : Nat → Int} (H : IR w (some ⟨kb, off, none⟩) n z) : ∀ j v, (ivL z n)[j]? = some v → w.cell? ((⟨kb, off, none⟩ : Addr).add j) = some v := by
  intro j v hv
  have hlen := ivL_len z n
  have hj : j < n := by
    rcases Nat.lt_or_ge j n with q | q
    · exact q
    · rw [List.getElem?_eq_none (by omega)] at hv; cases hv
  rw [ivL_get z n j hj] at hv
  have hadd : (⟨kb, off, none⟩ : Addr).add j = ⟨kb, off + j, none⟩ := by unfold Addr.add; split <;> simp_all
  rw [hadd, H.cell hj]; exact hv
theorem ivL_row {w : World} {base g oc m : Nat} {f : Int} {y : Nat → Int} (h : w.ownsRow base 3 1 (.slice (some ⟨g, 0, none⟩) (1 + m) oc) (1 + m) ([.int .i64 f] ++ ivL y m)) : IR w (some ⟨g, 0, none⟩) (1 + m) (rtF f y) := by
  rcases h.2 with ⟨e, _⟩ | ⟨g', cap, cur, e, hb, hg, h3, h4, h5, h6⟩
  · cases e
  · simp only [Value.slice.injEq, Option.some.injEq, Addr.mk.injEq] at e
    obtain ⟨⟨rfl, _, _⟩, _, rfl⟩ := e
    refine IR.of_block hg (1 + m) (rtF f y) (fun j hj => ?_)
    have e : cur[j]? = ([Value.int .i64 f] ++ ivL y m)[j]? := by rw [← h6, List.getElem?_take, if_pos (by omega)]; simp
    rw [e]
    unfold rtF
    by_cases h0 : j = 0
    · subst h0; rfl
    · rw [if_neg h0, List.getElem?_append_right (by simp; omega)]
      simp only [List.length_cons, List.length_nil]
      rw [ivL_get y m _ (by omega)]
theorem rt_ok {f : Int} {y : Nat → Int} {m : Nat} (h8 : m ≤ 8) (h : ∀ j, j < m + 1 → inB (rtF f y j) 0 100000 = true) : DeP m y := ⟨h8, fun j hj => by have := h (j + 1) (by omega); unfold rtF at this; rw [if_neg (by omega)] at this; simpa using this⟩
theorem rt_bad {f : Int} {y : Nat → Int} {m k : Nat} (hf : 0 ≤ f ∧ f ≤ 100000) (hk : k < m + 1) (h : inB (rtF f y k) 0 100000 = false) (H : DeP m y) : False := by
  unfold rtF at h
  by_cases h0 : k = 0
  · rw [if_pos h0] at h; exact inB_f h hf
  · rw [if_neg h0] at h
    have := H.2 (k - 1) (by omega)
    rw [h] at this; cases this

set_option maxRecDepth 20000 in
set_option maxHeartbeats 8000000 in
theorem specSale_any (p q : Int) (ra : Option Addr) (n rc : Nat) (z : Nat → RU2) (kb off m cap : Nat) (y : Nat → Int) (w : World) (h : (n : Int) ≤ 1048576) (hm : (m : Int) ≤ 1048576) (hr : RUr w ra n z) (hi : IR w (some ⟨kb, off, none⟩) m y) :
    Calls Try.prog 33 #[.int .i64 p, .int .i64 q, .slice ra n rc, .slice (some ⟨kb, off, none⟩) m cap] w fun e w' => e = .returned (.tuple #[.int .i64 (spV p q n z m y), .bool (spB p q n z m y)]) ∧ Below w.heap.size w w' := by
  obtain ⟨i3, hi3, hz30, hz31, hz32⟩ := info3
  have HR : Hid (RUr w ra n z) := hr
  have HI : Hid (IR w (some ⟨kb, off, none⟩) m y) := hi
  have HL : Hid (Calls Try.prog 85 #[.slice ra n rc] w fun e w' => e = .returned (.bool (rlB n z)) ∧ Below w.heap.size w w') := specLadder_any ra n rc z w h hr
  clear hr hi
  cases hp : inB p 0 100000
  · have HV := hid (sp_no (p := p) (q := q) (n := n) (z := z) (m := m) (y := y) (fun H => inB_f hp H.1))
    go_enter Try.func33, Try.ntmps33
    go_wp2_with (first
    | (go_at_call 90; refine (l12Price_eq _ _ _ hp).mono ?_; rintro e wq ⟨rfl, ew⟩; replace ew := ew.symm; subst ew)
    | (go_at_call 57; refine (l12Qty_eq _ _ _ hq).mono ?_; rintro e wq ⟨rfl, ew⟩; replace ew := ew.symm; subst ew)
    | (go_at_call 85; refine HL.out.mono ?_; rintro e w1 ⟨rfl, b1⟩; have HB1 : Hid (Below w.heap.size w w1) := b1; clear b1))
    go_returns
    exact ⟨ret_ib HV.out.1 HV.out.2, Below.refl _ _⟩
  cases hq : inB q 0 1000000
  · have HV := hid (sp_no (p := p) (q := q) (n := n) (z := z) (m := m) (y := y) (fun H => inB_f hq H.2.1))
    go_enter Try.func33, Try.ntmps33
    go_wp2_with (first
    | (go_at_call 90; refine (l12Price_eq _ _ _ hp).mono ?_; rintro e wq ⟨rfl, ew⟩; replace ew := ew.symm; subst ew)
    | (go_at_call 57; refine (l12Qty_eq _ _ _ hq).mono ?_; rintro e wq ⟨rfl, ew⟩; replace ew := ew.symm; subst ew)
    | (go_at_call 85; refine HL.out.mono ?_; rintro e w1 ⟨rfl, b1⟩; have HB1 : Hid (Below w.heap.size w w1) := b1; clear b1))
    go_returns
    exact ⟨ret_ib HV.out.1 HV.out.2, Below.refl _ _⟩
  cases hb : rlB n z
  · have HV := hid (sp_no (p := p) (q := q) (n := n) (z := z) (m := m) (y := y) (fun H => by rw [H.2.2.1] at hb; cases hb))
    rw [hb] at HL
    go_enter Try.func33, Try.ntmps33
    go_wp2_with (first
    | (go_at_call 90; refine (l12Price_eq _ _ _ hp).mono ?_; rintro e wq ⟨rfl, ew⟩; replace ew := ew.symm; subst ew)
    | (go_at_call 57; refine (l12Qty_eq _ _ _ hq).mono ?_; rintro e wq ⟨rfl, ew⟩; replace ew := ew.symm; subst ew)
    | (go_at_call 85; refine HL.out.mono ?_; rintro e w1 ⟨rfl, b1⟩; have HB1 : Hid (Below w.heap.size w w1) := b1; clear b1))
    go_returns
    exact ⟨ret_ib HV.out.1 HV.out.2, HB1.out⟩
  rw [hb] at HL
  by_cases h8 : (8 : Int) < (m : Int)
  · have HV := hid (sp_no (p := p) (q := q) (n := n) (z := z) (m := m) (y := y) (fun H => by have := H.2.2.2.1; omega))
    go_enter Try.func33, Try.ntmps33
    go_wp2_with (first
    | (go_at_call 90; refine (l12Price_eq _ _ _ hp).mono ?_; rintro e wq ⟨rfl, ew⟩; replace ew := ew.symm; subst ew)
    | (go_at_call 57; refine (l12Qty_eq _ _ _ hq).mono ?_; rintro e wq ⟨rfl, ew⟩; replace ew := ew.symm; subst ew)
    | (go_at_call 85; refine HL.out.mono ?_; rintro e w1 ⟨rfl, b1⟩; have HB1 : Hid (Below w.heap.size w w1) := b1; clear b1))
    go_returns
    exact ⟨ret_ib HV.out.1 HV.out.2, HB1.out⟩
  have hp2 := inB_t hp
  have hq2 := inB_t hq
  have hm8 : (m : Int) ≤ 8 := by omega
  have HLR : Hid (∀ W, Below w.heap.size w W → Calls Try.prog 29 #[.slice ra n rc, .int .i64 q] W fun e w' => e = .returned (.int .i64 (lrV n z q)) ∧ Below W.heap.size W w') := fun W b => specLr_any ra n rc z q W h (HR.out.below b)
  have hpq0 : 0 ≤ q * p := Int.mul_nonneg hq2.1 hp2.1
  have hpq1 : q * p ≤ 1000000 * 100000 := Int.mul_le_mul hq2.2 hp2.2 hp2.1 (by omega)
  have HV : Hid (DeP m y → spF (rtF (lrV n z q) y) (q * p) (m + 1) = spV p q n z m y ∧ true = spB p q n z m y) := hid (fun H => sp_yes ⟨hp2, hq2, hb, H⟩)
  have HF : Hid (0 ≤ lrV n z q ∧ lrV n z q ≤ 100000) := hid (by unfold lrV; split; exact lr_rate hb q n (Nat.le_refl _); omega)
  have HNV : Hid (¬ DeP m y → 0 = spV p q n z m y ∧ false = spB p q n z m y) := hid (fun hh => sp_no (fun H => hh H.2.2.2))
  obtain ⟨f, hf⟩ : ∃ f, lrV n z q = f := ⟨_, rfl⟩
  rw [hf] at HLR HV HF
  obtain ⟨X, hX⟩ : ∃ X, q * p = X := ⟨_, rfl⟩
  rw [hX] at hpq0 hpq1 HV
  have hwx : IntKind.i64.wrap (p * q) = X := by rw [Int.mul_comm, hX]; exact IntWalk.i64_in _ ⟨by omega, by omega⟩
  clear hf hX
  go_enter Try.func33, Try.ntmps33
  go_wp2_with (first
    | (go_at_call 90; refine (l12Price_eq _ _ _ hp).mono ?_; rintro e wq ⟨rfl, ew⟩; replace ew := ew.symm; subst ew)
    | (go_at_call 57; refine (l12Qty_eq _ _ _ hq).mono ?_; rintro e wq ⟨rfl, ew⟩; replace ew := ew.symm; subst ew)
    | (go_at_call 85; refine HL.out.mono ?_; rintro e w1 ⟨rfl, b1⟩; have HB1 : Hid (Below w.heap.size w w1) := b1; clear b1)
    | (go_at_call 29; refine (HLR.out _ HB1.out).mono ?_; rintro e w3 ⟨rfl, b3⟩; have HB3 : Hid (Below w.heap.size w w3) := hid (bel_on HB1.out b3); have HI3 : Hid (IR w3 (some ⟨kb, off, none⟩) m y) := hid (HI.out.below HB3.out); clear b3)
    | (at_builtin; go_loud (refine wpList_append_own_at _ rfl _ _ 38 rfl w.heap.size 3 i3 (.int .i64 0) 1 8 Try.underlying38 hi3 hz30 hz31 hz32 rfl (by decide) (.slice (some ⟨w3.heap.size, 0, none⟩) 1 1) 1 [.int .i64 f] rfl ⟨rfl, .inr ⟨w3.heap.size, 1, #[.int .i64 f], rfl, HB3.out.size, CB.new _ _, Nat.le_refl _, (by unfold maxLen; omega), rfl, rfl⟩⟩ ⟨kb, off, none⟩ m cap (ivL y m) rfl (by rw [ivL_len]; omega) (ivL_src (HI3.out.alloc _)) (ivL_one y m) (by unfold maxLen; omega) (by omega) (by have := HB3.out.size; simp; omega) ?_); intro v9 w9 hown hgrow hnil hat; obtain ⟨g9, oc9, rfl, _⟩ := ownsRow_some hown (by omega); have HI9 : Hid (IR w9 (some ⟨g9, 0, none⟩) (1 + m) (rtF f y)) := hid (ivL_row hown); have HB9 : Hid (Below w.heap.size w w9) := hid (bel_grown (HB3.out.alloc HB3.out.size _) (Nat.le_refl _) hgrow (fun r hr => by have : r = w3.heap.size := (by simpa [Value.ownBlock] using hr.symm); have := HB3.out.size; omega)); clear hown hgrow hnil hat))
  clear HL HLR hp hq hb
  obtain ⟨rt, hrt⟩ : ∃ rt, rtF f y = rt := ⟨_, rfl⟩
  have HOK : Hid ((∀ j, j < m + 1 → inB (rt j) 0 100000 = true) → DeP m y) := hid (by rw [← hrt]; exact fun H => rt_ok (by omega) H)
  have HBAD : Hid (∀ k, k < m + 1 → inB (rt k) 0 100000 = false → ¬ DeP m y) := hid (by rw [← hrt]; exact fun k hk hb H => rt_bad HF.out hk hb H)
  rw [hrt] at HV HI9
  clear hrt
  go_loopw [10, 12] (fun x i wr => ∃ (k : Nat) (V : Int), k ≤ m + 1 ∧ x = .int .i64 V ∧ i = .int .i64 (k : Int) ∧ -(100000000000 * ((k : Int) + 1)) ≤ V ∧ V ≤ 100000000000 * ((k : Int) + 1) ∧ Hid (V = spF rt X k ∧ (∀ j, j < k → inB (rt j) 0 100000 = true) ∧ wr = w9)) (fun _ i _ => m + 1 - (intOf i).toNat)
  case atStart => exact ⟨0, X, Nat.zero_le _, rfl, rfl, by omega, by omega, rfl, fun j hj => by omega, rfl⟩
  case round =>
    obtain ⟨k, V, hk, rfl, rfl, hV0, hV1, HH⟩ := hrel
    obtain rfl := HH.out.2.2
    by_cases hlt : k < m + 1
    · have hlt2 : (k : Int) < 1 + (m : Int) := by omega
      have hlt3 : (k : Int) < ((1 + m : Nat) : Int) := by omega
      have c0 := HI9.out.cell (j := k) (by omega)
      simp only [Nat.zero_add] at c0
      obtain ⟨r, hr⟩ : ∃ r, rt k = r := ⟨_, rfl⟩
      rw [hr] at c0
      cases hin : inB r 0 100000
      · have HN := hid (HNV.out (HBAD.out k hlt (by rw [hr]; exact hin)))
        clear hr
        go_wp2_with (go_at_call 82; refine (l13Rate_eq _ _ _ hin).mono ?_; rintro e wq ⟨rfl, ew⟩; replace ew := ew.symm; subst ew)
        go_returns
        exact ⟨ret_ib HN.out.1 HN.out.2, HB9.out⟩
      have HN : Hid (V - mdV V r 100000 3 = spF rt X (k + 1)) := hid (by rw [spF, ← HH.out.1, hr])
      have HR2 : Hid (∀ j, j < k + 1 → inB (rt j) 0 100000 = true) := hid (fun j hj => by by_cases e : j = k; (subst e; rw [hr]; exact hin); (exact HH.out.2.1 j (by omega)))
      have hmd := md_abs V r 100000 3
      have HMD : Hid (∀ w, Calls Try.prog 58 #[.int .i64 V, .int .i64 r, .int .i64 100000, .int .i64 3] w fun e w' => e = .returned (.tuple #[.int .i64 (mdV V r 100000 3), .bool (mdB V r 100000 3)]) ∧ w' = w) := fun w => specMulDiv_any V r 100000 3 w
      obtain ⟨M, hM⟩ : ∃ M, mdV V r 100000 3 = M := ⟨_, rfl⟩
      obtain ⟨MB, hMB⟩ : ∃ M, mdB V r 100000 3 = M := ⟨_, rfl⟩
      rw [hM] at HN hmd
      rw [hM, hMB] at HMD
      clear hM hMB hr
      go_wp2_with (first | (go_at_call 82; refine (l13Rate_eq _ _ _ hin).mono ?_; rintro e wq ⟨rfl, ew⟩; replace ew := ew.symm; subst ew) | (go_at_call 58; refine (HMD.out _).mono ?_; rintro e wq ⟨rfl, ew⟩; replace ew := ew.symm; subst ew))
      go_roundw
      case rel => exact ⟨k + 1, V - M, by omega, rfl, by go_num, by omega, by omega, HN.out, HR2.out, by first | rfl | trivial⟩
      case measure => simp [intOf]; omega
    · obtain rfl : k = m + 1 := by omega
      have lkk : ¬ ((m + 1 : Nat) : Int) < ((1 + m : Nat) : Int) := by omega
      have lkk2 : ¬ ((m : Int) + 1) < (1 + (m : Int)) := by omega
      have HE := hid (HV.out (HOK.out HH.out.2.1))
      go_wp2
      go_returns
      exact ⟨ret_ib (HH.out.1.trans HE.out.1) HE.out.2, HB9.out⟩
end Go.Proofs.Ytlhgmdmbjpaakaa
