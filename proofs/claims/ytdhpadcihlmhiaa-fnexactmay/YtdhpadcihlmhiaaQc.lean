/- People that are right, each by itself: the program's tests. -/
import Derived.Test.YtdhpadcihlmhiaaQb
namespace Go.Proofs.Ytdhpadcihlmhiaa
open Go.ChangeShapes Go.WideShapes Go.ChangeAt Go.RowKit
set_option linter.unusedVariables false
set_option linter.unusedSimpArgs false

theorem notName_eq {s : ByteArray} {v : Bool} {w : World} (hs : s.size ≤ maxLen) (h : nameB s = v) : Calls Try.prog 37 #[.string s] w fun e w' => e = .returned (.bool (!v)) ∧ w' = w := by
  have HS := hid hs
  have HN := hid h
  clear hs h
  go_enter Try.func37, Try.ntmps37
  go_wp2_with (go_at_call 30; refine (implName_eq HS.out HN.out).mono ?_; rintro e w1 ⟨rfl, ew⟩; replace ew := ew.symm; subst ew)
  go_returns
  exact ⟨rfl, rfl⟩
set_option maxRecDepth 20000 in
set_option maxHeartbeats 2000000 in
theorem idxNames_any (ad : Option Addr) (len cap : Nat) (z : Nat → ByteArray) (w : World) (h : (len : Int) ≤ 1048576) (hs : ∀ j, (z j).size ≤ maxLen) (hr : STR w ad len z) :
    Calls Try.prog 40 #[.slice ad len cap, .func (Fn.func 37) #[] #[]] w fun e w' => e = .returned (.int .i64 (fstF (fun j => !nameB (z j)) len 0)) ∧ w' = w := by
  have HR : Hid (STR w ad len z) := hr
  have HS : Hid (∀ j, (z j).size ≤ maxLen) := hs
  clear hr hs
  go_enter Try.func40, Try.ntmps40
  go_wp2
  go_loop [8] (fun i => ∃ k : Nat, k ≤ len ∧ i = .int .i64 (k : Int) ∧ Hid (fstF (fun j => !nameB (z j)) (len - k) k = fstF (fun j => !nameB (z j)) len 0)) (fun i => len - (intOf i).toNat)
  case atStart => exact ⟨0, Nat.zero_le _, rfl, rfl⟩
  case round =>
    obtain ⟨k, hk, rfl, hP⟩ := hrel
    by_cases hlt : k < len
    · have hlt2 : (k : Int) < (len : Int) := by omega
      obtain ⟨kb, off, rfl, _⟩ := HR.out.addr (by omega)
      have c0 := HR.out.cell hlt
      have HZ := hid (HS.out k)
      cases g : nameB (z k)
      · have HF : Hid (fstF (fun j => !nameB (z j)) len 0 = (k : Int)) := hid (by rw [← hP.out]; exact fstF_hit hlt (by simp [g]))
        have HG := hid g
        clear g
        go_wp2_with (go_at_call 37; refine (notName_eq HZ.out HG.out).mono ?_; rintro e w1 ⟨rfl, ew⟩; replace ew := ew.symm; subst ew)
        go_returns
        exact ⟨ret_i HF.out.symm, rfl⟩
      · have HF : Hid (fstF (fun j => !nameB (z j)) (len - (k + 1)) (k + 1) = fstF (fun j => !nameB (z j)) len 0) := hid (by rw [← hP.out]; exact (fstF_miss hlt (by simp [g])).symm)
        have HG := hid g
        clear g
        go_wp2_with (go_at_call 37; refine (notName_eq HZ.out HG.out).mono ?_; rintro e w1 ⟨rfl, ew⟩; replace ew := ew.symm; subst ew)
        go_round
        case rel => exact ⟨k + 1, by omega, by go_num, HF⟩
        case measure => simp [intOf]; omega
    · obtain rfl : k = len := by omega
      have lkk : ¬ (k : Int) < (k : Int) := by omega
      have HF : Hid (fstF (fun j => !nameB (z j)) k 0 = -1) := hid (by rw [← hP.out]; exact fstF_end)
      go_wp2
      go_returns
      exact ⟨ret_i HF.out.symm, rfl⟩
open Classical in
noncomputable def nmsB (n : Nat) (z : Nat → ByteArray) : Bool := decide (∀ k, k < n → nameB (z k) = true)
open Classical in
theorem nmsB_t {n : Nat} {z : Nat → ByteArray} (h : nmsB n z = true) : ∀ k, k < n → nameB (z k) = true := by unfold nmsB at h; exact of_decide_eq_true h
open Classical in
theorem nmsB_f {n : Nat} {z : Nat → ByteArray} (h : nmsB n z = false) : ¬ ∀ k, k < n → nameB (z k) = true := by unfold nmsB at h; exact of_decide_eq_false h
open Classical in
theorem nms_fst (n : Nat) (z : Nat → ByteArray) : (!decide (0 ≤ fstF (fun j => !nameB (z j)) n 0)) = nmsB n z := by
  unfold nmsB
  rcases fstF_spec (fun j => !nameB (z j)) n 0 with ⟨h1, h2⟩ | ⟨k, h1, _, h3, h4, _⟩
  · rw [h1, decide_eq_true (fun k hk => by have := h2 k (by omega) (by omega); simpa using this)]; rfl
  · have e : (decide (∀ k, k < n → nameB (z k) = true)) = false := decide_eq_false (fun H => by have := H k (by omega); simp [this] at h4)
    rw [h1, e]; simp
theorem anyName (ad : Option Addr) (len cap : Nat) (z : Nat → ByteArray) (w : World) (h : (len : Int) ≤ 1048576) (hs : ∀ j, (z j).size ≤ maxLen) (hr : STR w ad len z) :
    Calls Try.prog 36 #[.slice ad len cap, .func (Fn.func 37) #[] #[]] w fun e w' => e = .returned (.bool (decide (0 ≤ fstF (fun j => !nameB (z j)) len 0))) ∧ w' = w := by
  have HC := idxNames_any ad len cap z w h hs hr
  obtain ⟨x, hx⟩ : ∃ x, fstF (fun j => !nameB (z j)) len 0 = x := ⟨_, rfl⟩
  rw [hx] at HC ⊢
  have HC2 := hid HC
  obtain ⟨fv, hf⟩ : ∃ f, Value.func (Fn.func 37) #[] #[] = f := ⟨_, rfl⟩
  rw [hf] at HC2 ⊢
  clear HC hr hx hf hs
  go_enter Try.func36, Try.ntmps36
  go_wp2_with (go_at_call 40; refine HC2.out.mono ?_; rintro e w1 ⟨rfl, ew⟩; replace ew := ew.symm; subst ew)
  all_goals go_returns
  all_goals exact ⟨rfl, rfl⟩
theorem areNames_eq (ad : Option Addr) (len cap : Nat) (z : Nat → ByteArray) (v : Bool) (w : World) (h : (len : Int) ≤ 1048576) (hs : ∀ j, (z j).size ≤ maxLen) (hr : STR w ad len z) (hv : nmsB len z = v) :
    Calls Try.prog 31 #[.slice ad len cap] w fun e w' => e = .returned (.bool v) ∧ w' = w := by
  have HC := hid (anyName ad len cap z w h hs hr)
  have HV : Hid ((!decide (0 ≤ fstF (fun j => !nameB (z j)) len 0)) = v) := hid (by rw [nms_fst]; exact hv)
  obtain ⟨x, hx⟩ : ∃ x, decide (0 ≤ fstF (fun j => !nameB (z j)) len 0) = x := ⟨_, rfl⟩
  rw [hx] at HC HV
  clear hx hr hs hv
  go_enter Try.func31, Try.ntmps31
  go_wp2_with (go_at_call 36; refine HC.out.mono ?_; rintro e w1 ⟨rfl, ew⟩; replace ew := ew.symm; subst ew)
  go_returns
  exact ⟨ret_bool HV.out, rfl⟩

def PrP (p : PE) : Prop := nameB p.nm = true ∧ p.rn ≤ 8 ∧ (∀ k, k < p.rn → nameB (p.rz k) = true) ∧ 0 ≤ p.lim ∧ p.lim ≤ 100000000000
open Classical in
noncomputable def prB (p : PE) : Bool := decide (PrP p)
open Classical in
theorem prB_t {p : PE} (h : PrP p) : prB p = true := by unfold prB; exact decide_eq_true h
open Classical in
theorem prB_f {p : PE} (h : ¬ PrP p) : prB p = false := by unfold prB; exact decide_eq_false h
open Classical in
theorem prB_of {p : PE} (h : prB p = true) : PrP p := by unfold prB at h; exact of_decide_eq_true h
open Classical in
theorem prB_not {p : PE} (h : prB p = false) : ¬ PrP p := by unfold prB at h; exact of_decide_eq_false h
theorem pOne_iff {c : Nat → PE} {i : Nat} : pOne c i ↔ PrP (c i) ∧ ∀ k, k < i → ¬ (c k).nm = (c i).nm := ⟨fun h => ⟨⟨h.1, h.2.2.1, h.2.2.2.1, h.2.2.2.2⟩, h.2.1⟩, fun h => ⟨h.1.1, h.2, h.1.2.1, h.1.2.2.1, h.1.2.2.2⟩⟩
set_option maxRecDepth 20000 in
set_option maxHeartbeats 4000000 in
theorem pRight_eq (nm : ByteArray) (ra : Option Addr) (rn rc : Nat) (rz : Nat → ByteArray) (lim : Int) (fr : ByteArray) (aw : Bool) (v : Bool) (w : World) (hz : nm.size ≤ maxLen) (hrn : rn ≤ maxLen) (hrz : ∀ i, (rz i).size ≤ maxLen) (hT : STR w ra rn rz) (hv : prB ⟨nm, rn, rz, lim, fr, aw⟩ = v) :
    Calls Try.prog 23 #[.agg #[.string nm, .slice ra rn rc, .int .i64 lim, .string fr, .bool aw]] w fun e w' => e = .returned (.bool v) ∧ Below w.heap.size w w' := by
  subst hv
  have HZ := hid hz
  have HSR := hid hrz
  have HTT : Hid (STR (w.alloc (.cells #[.string nm, .slice ra rn rc, .int .i64 lim, .string fr, .bool aw] 35 (0, 0))) ra rn rz) := hT.below ((Below.refl _ _).alloc (Nat.le_refl _) _)
  unfold maxLen at hrn
  clear hz hrz hT
  cases hn : nameB nm
  · have HNM := hid hn
    have HV : Hid (prB ⟨nm, rn, rz, lim, fr, aw⟩ = false) := prB_f fun H => by have := H.1; simp [hn] at this
    clear hn
    go_enter Try.func23, Try.ntmps23
    go_wp2_with (first | (go_at_call 30; refine (implName_eq HZ.out HNM.out).mono ?_; rintro e w1 ⟨rfl, ew⟩; replace ew := ew.symm; subst ew) | (go_at_call 31; refine (areNames_eq _ _ _ rz _ _ h8i HSR.out (HTT.out) HNS.out).mono ?_; rintro e w1 ⟨rfl, ew⟩; replace ew := ew.symm; subst ew) | (go_at_call 32; refine (from0_eq HIN.out).mono ?_; rintro e w1 ⟨rfl, ew⟩; replace ew := ew.symm; subst ew))
    go_returns
    exact ⟨ret_bool HV.out.symm, by go_grown⟩
  have HNM := hid hn
  by_cases h8 : (8 : Int) < (rn : Int)
  · have HV : Hid (prB ⟨nm, rn, rz, lim, fr, aw⟩ = false) := prB_f fun H => by have := H.2.1; dsimp only at this; omega
    clear hn
    go_enter Try.func23, Try.ntmps23
    go_wp2_with (first | (go_at_call 30; refine (implName_eq HZ.out HNM.out).mono ?_; rintro e w1 ⟨rfl, ew⟩; replace ew := ew.symm; subst ew) | (go_at_call 31; refine (areNames_eq _ _ _ rz _ _ h8i HSR.out (HTT.out) HNS.out).mono ?_; rintro e w1 ⟨rfl, ew⟩; replace ew := ew.symm; subst ew) | (go_at_call 32; refine (from0_eq HIN.out).mono ?_; rintro e w1 ⟨rfl, ew⟩; replace ew := ew.symm; subst ew))
    go_returns
    exact ⟨ret_bool HV.out.symm, by go_grown⟩
  have h8b : (rn : Int) ≤ 8 := by omega
  have h8i : (rn : Int) ≤ 1048576 := by omega
  clear h8
  cases hns : nmsB rn rz
  · have HNS := hid hns
    have HV : Hid (prB ⟨nm, rn, rz, lim, fr, aw⟩ = false) := prB_f fun H => nmsB_f hns H.2.2.1
    clear hn hns
    go_enter Try.func23, Try.ntmps23
    go_wp2_with (first | (go_at_call 30; refine (implName_eq HZ.out HNM.out).mono ?_; rintro e w1 ⟨rfl, ew⟩; replace ew := ew.symm; subst ew) | (go_at_call 31; refine (areNames_eq _ _ _ rz _ _ h8i HSR.out (HTT.out) HNS.out).mono ?_; rintro e w1 ⟨rfl, ew⟩; replace ew := ew.symm; subst ew) | (go_at_call 32; refine (from0_eq HIN.out).mono ?_; rintro e w1 ⟨rfl, ew⟩; replace ew := ew.symm; subst ew))
    go_returns
    exact ⟨ret_bool HV.out.symm, by go_grown⟩
  have HNS := hid hns
  cases hin : inB lim 0 100000000000
  · have HIN := hid hin
    have HV : Hid (prB ⟨nm, rn, rz, lim, fr, aw⟩ = false) := prB_f fun H => inB_f hin H.2.2.2
    clear hn hns hin
    go_enter Try.func23, Try.ntmps23
    go_wp2_with (first | (go_at_call 30; refine (implName_eq HZ.out HNM.out).mono ?_; rintro e w1 ⟨rfl, ew⟩; replace ew := ew.symm; subst ew) | (go_at_call 31; refine (areNames_eq _ _ _ rz _ _ h8i HSR.out (HTT.out) HNS.out).mono ?_; rintro e w1 ⟨rfl, ew⟩; replace ew := ew.symm; subst ew) | (go_at_call 32; refine (from0_eq HIN.out).mono ?_; rintro e w1 ⟨rfl, ew⟩; replace ew := ew.symm; subst ew))
    go_returns
    exact ⟨ret_bool HV.out.symm, by go_grown⟩
  have HIN := hid hin
  have HV : Hid (prB ⟨nm, rn, rz, lim, fr, aw⟩ = true) := prB_t ⟨hn, by dsimp only; omega, nmsB_t hns, inB_t hin⟩
  clear hn hns hin
  go_enter Try.func23, Try.ntmps23
  go_wp2_with (first | (go_at_call 30; refine (implName_eq HZ.out HNM.out).mono ?_; rintro e w1 ⟨rfl, ew⟩; replace ew := ew.symm; subst ew) | (go_at_call 31; refine (areNames_eq _ _ _ rz _ _ h8i HSR.out (HTT.out) HNS.out).mono ?_; rintro e w1 ⟨rfl, ew⟩; replace ew := ew.symm; subst ew) | (go_at_call 32; refine (from0_eq HIN.out).mono ?_; rintro e w1 ⟨rfl, ew⟩; replace ew := ew.symm; subst ew))
  go_returns
  exact ⟨ret_bool HV.out.symm, by go_grown⟩
end Go.Proofs.Ytdhpadcihlmhiaa
