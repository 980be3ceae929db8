/- Rows of names: the program's test. -/
import Derived.Test.YtdhpadcihlmhiaaDoorUc
namespace Go.Proofs.YtdhpadcihlmhiaaDoor
open Go.ChangeShapes Go.WideShapes Go.ChangeAt Go.RowKit
set_option linter.unusedVariables false
set_option linter.unusedSimpArgs false

theorem notName_eq {s : ByteArray} {v : Bool} {w : World} (hs : s.size ≤ maxLen) (h : nameB s = v) : Calls Tryd.prog 143 #[.string s] w fun e w' => e = .returned (.bool (!v)) ∧ w' = w := by
  have HS := hid hs
  have HN := hid h
  clear hs h
  go_enter Tryd.func143, Tryd.ntmps143
  go_wp2_with (go_at_call 137; refine (implName_eq HS.out HN.out).mono ?_; rintro e w1 ⟨rfl, ew⟩; replace ew := ew.symm; subst ew)
  go_returns
  exact ⟨rfl, rfl⟩
set_option maxRecDepth 20000 in
set_option maxHeartbeats 2000000 in
theorem idxNames_any (ad : Option Addr) (len cap : Nat) (z : Nat → ByteArray) (w : World) (h : (len : Int) ≤ 1048576) (hs : ∀ j, (z j).size ≤ maxLen) (hr : STR w ad len z) :
    Calls Tryd.prog 154 #[.slice ad len cap, .func (Fn.func 143) #[] #[]] w fun e w' => e = .returned (.int .i64 (fstF (fun j => !nameB (z j)) len 0)) ∧ w' = w := by
  have HR : Hid (STR w ad len z) := hr
  have HS : Hid (∀ j, (z j).size ≤ maxLen) := hs
  clear hr hs
  go_enter Tryd.func154, Tryd.ntmps154
  go_wp2
  go_loop [8] (fun i => ∃ k : Nat, k ≤ len ∧ i = .int .i64 (k : Int) ∧ Hid (fstF (fun j => !nameB (z j)) (len - k) k = fstF (fun j => !nameB (z j)) len 0)) (fun i => len - (intOf i).toNat)
  case atStart => exact ⟨0, Nat.zero_le _, rfl, rfl⟩
  case round =>
    obtain ⟨k, hk, rfl, hP⟩ := hrel
    by_cases hlt : k < len
    · have hlt2 : (k : Int) < (len : Int) := by omega
      obtain ⟨kb, off, rfl, _⟩ := HR.out.addr (by omega)
      have c0 := HR.out.cell hlt
      have HZ := hid (HS.out k)
      cases g : nameB (z k)
      · have HF : Hid (fstF (fun j => !nameB (z j)) len 0 = (k : Int)) := hid (by rw [← hP.out]; exact fstF_hit hlt (by simp [g]))
        have HG := hid g
        clear g
        go_wp2_with (go_at_call 143; refine (notName_eq HZ.out HG.out).mono ?_; rintro e w1 ⟨rfl, ew⟩; replace ew := ew.symm; subst ew)
        go_returns
        exact ⟨ret_i HF.out.symm, rfl⟩
      · have HF : Hid (fstF (fun j => !nameB (z j)) (len - (k + 1)) (k + 1) = fstF (fun j => !nameB (z j)) len 0) := hid (by rw [← hP.out]; exact (fstF_miss hlt (by simp [g])).symm)
        have HG := hid g
        clear g
        go_wp2_with (go_at_call 143; refine (notName_eq HZ.out HG.out).mono ?_; rintro e w1 ⟨rfl, ew⟩; replace ew := ew.symm; subst ew)
        go_round
        case rel => exact ⟨k + 1, by omega, by go_num, HF⟩
        case measure => simp [intOf]; omega
    · obtain rfl : k = len := by omega
      have lkk : ¬ (k : Int) < (k : Int) := by omega
      have HF : Hid (fstF (fun j => !nameB (z j)) k 0 = -1) := hid (by rw [← hP.out]; exact fstF_end)
      go_wp2
      go_returns
      exact ⟨ret_i HF.out.symm, rfl⟩
open Classical in
noncomputable def nmsB (n : Nat) (z : Nat → ByteArray) : Bool := decide (∀ k, k < n → nameB (z k) = true)
open Classical in
theorem nmsB_t {n : Nat} {z : Nat → ByteArray} (h : nmsB n z = true) : ∀ k, k < n → nameB (z k) = true := by unfold nmsB at h; exact of_decide_eq_true h
open Classical in
theorem nmsB_f {n : Nat} {z : Nat → ByteArray} (h : nmsB n z = false) : ¬ ∀ k, k < n → nameB (z k) = true := by unfold nmsB at h; exact of_decide_eq_false h
open Classical in
theorem nms_fst (n : Nat) (z : Nat → ByteArray) : (!decide (0 ≤ fstF (fun j => !nameB (z j)) n 0)) = nmsB n z := by
  unfold nmsB
  rcases fstF_spec (fun j => !nameB (z j)) n 0 with ⟨h1, h2⟩ | ⟨k, h1, _, h3, h4, _⟩
  · rw [h1, decide_eq_true (fun k hk => by have := h2 k (by omega) (by omega); simpa using this)]; rfl
  · have e : (decide (∀ k, k < n → nameB (z k) = true)) = false := decide_eq_false (fun H => by have := H k (by omega); simp [this] at h4)
    rw [h1, e]; simp
theorem anyName (ad : Option Addr) (len cap : Nat) (z : Nat → ByteArray) (w : World) (h : (len : Int) ≤ 1048576) (hs : ∀ j, (z j).size ≤ maxLen) (hr : STR w ad len z) :
    Calls Tryd.prog 142 #[.slice ad len cap, .func (Fn.func 143) #[] #[]] w fun e w' => e = .returned (.bool (decide (0 ≤ fstF (fun j => !nameB (z j)) len 0))) ∧ w' = w := by
  have HC := idxNames_any ad len cap z w h hs hr
  obtain ⟨x, hx⟩ : ∃ x, fstF (fun j => !nameB (z j)) len 0 = x := ⟨_, rfl⟩
  rw [hx] at HC ⊢
  have HC2 := hid HC
  obtain ⟨fv, hf⟩ : ∃ f, Value.func (Fn.func 143) #[] #[] = f := ⟨_, rfl⟩
  rw [hf] at HC2 ⊢
  clear HC hr hx hf hs
  go_enter Tryd.func142, Tryd.ntmps142
  go_wp2_with (go_at_call 154; refine HC2.out.mono ?_; rintro e w1 ⟨rfl, ew⟩; replace ew := ew.symm; subst ew)
  all_goals go_returns
  all_goals exact ⟨rfl, rfl⟩
theorem areNames_eq (ad : Option Addr) (len cap : Nat) (z : Nat → ByteArray) (v : Bool) (w : World) (h : (len : Int) ≤ 1048576) (hs : ∀ j, (z j).size ≤ maxLen) (hr : STR w ad len z) (hv : nmsB len z = v) :
    Calls Tryd.prog 130 #[.slice ad len cap] w fun e w' => e = .returned (.bool v) ∧ w' = w := by
  have HC := hid (anyName ad len cap z w h hs hr)
  have HV : Hid ((!decide (0 ≤ fstF (fun j => !nameB (z j)) len 0)) = v) := hid (by rw [nms_fst]; exact hv)
  obtain ⟨x, hx⟩ : ∃ x, decide (0 ≤ fstF (fun j => !nameB (z j)) len 0) = x := ⟨_, rfl⟩
  rw [hx] at HC HV
  clear hx hr hs hv
  go_enter Tryd.func130, Tryd.ntmps130
  go_wp2_with (go_at_call 142; refine HC.out.mono ?_; rintro e w1 ⟨rfl, ew⟩; replace ew := ew.symm; subst ew)
  go_returns
  exact ⟨ret_bool HV.out, rfl⟩
end Go.Proofs.YtdhpadcihlmhiaaDoor
