/- Plain: what makes people right; the model's PeopleOk answers 'peB'. -/
import Derived.Test.YtdhpadcihlmhiaaQa
namespace Go.Proofs.Ytdhpadcihlmhiaa
open Go.ChangeShapes Go.WideShapes Go.ChangeAt Go.RowKit
set_option linter.unusedVariables false
set_option linter.unusedSimpArgs false

/-- One of the people, by itself and against those ahead. -/
def pOne (c : Nat → PE) (i : Nat) : Prop := nameB (c i).nm = true ∧ (∀ k, k < i → ¬ (c k).nm = (c i).nm) ∧ (c i).rn ≤ 8 ∧ (∀ k, k < (c i).rn → nameB ((c i).rz k) = true) ∧ 0 ≤ (c i).lim ∧ (c i).lim ≤ 100000000000
def noT : ByteArray := ⟨#[]⟩
theorem noT_nil : noT.toList = [] := by simp [noT, ByteArray.toList_eq]
theorem toList_nil {s : ByteArray} (h : s.toList = []) : s = noT := by
  by_cases e : s = noT
  · exact e
  · have := lists_f e
    rw [h, noT_nil] at this
    cases this
/-- For whom they stand in. -/
def pFor (n : Nat) (c : Nat → PE) (i : Nat) : Prop := (c i).fr = noT ∨ (¬ (c i).fr = (c i).nm ∧ ∃ k, k < n ∧ (c k).nm = (c i).fr)
def PeP (n : Nat) (c : Nat → PE) : Prop := n ≤ 40 ∧ (∀ i, i < n → pOne c i) ∧ ∀ i, i < n → pFor n c i
open Classical in
noncomputable def peB (n : Nat) (c : Nat → PE) : Bool := decide (PeP n c)
section
variable {n : Nat} {c : Nat → PE}
open Classical in
theorem peB_t (h : PeP n c) : peB n c = true := by unfold peB; exact decide_eq_true h
open Classical in
theorem peB_f (h : ¬ PeP n c) : peB n c = false := by unfold peB; exact decide_eq_false h
open Classical in
theorem peB_of (h : peB n c = true) : PeP n c := by unfold peB at h; exact of_decide_eq_true h
theorem peB_one {i : Nat} (hi : i < n) (h : ¬ pOne c i) : peB n c = false := peB_f fun H => h (H.2.1 i hi)
theorem peB_for {i : Nat} (hi : i < n) (h : ¬ pFor n c i) : peB n c = false := peB_f fun H => h (H.2.2 i hi)
end
open Classical in
noncomputable def isN (c : Nat → PE) (s : ByteArray) (j : Nat) : Bool := decide ((c j).nm = s)
open Classical in
theorem isN_t {c : Nat → PE} {s : ByteArray} {j : Nat} (h : (c j).nm = s) : isN c s j = true := by unfold isN; exact decide_eq_true h
open Classical in
theorem isN_f {c : Nat → PE} {s : ByteArray} {j : Nat} (h : ¬ (c j).nm = s) : isN c s j = false := by unfold isN; exact decide_eq_false h
open Classical in
theorem isN_of {c : Nat → PE} {s : ByteArray} {j : Nat} (h : isN c s j = true) : (c j).nm = s := by unfold isN at h; exact of_decide_eq_true h
noncomputable def fstN (n : Nat) (c : Nat → PE) (s : ByteArray) : Int := fstF (isN c s) n 0
theorem fstN_first {n : Nat} {c : Nat → PE} {i : Nat} (hi : i < n) (h : ∀ k, k < i → ¬ (c k).nm = (c i).nm) : fstN n c (c i).nm = (i : Int) := by
  unfold fstN
  rcases fstF_spec (isN c (c i).nm) n 0 with ⟨_, h2⟩ | ⟨k, h1, _, _, h4, h5⟩
  · have := h2 i (by omega) (by omega); rw [isN_t rfl] at this; cases this
  · rw [h1]
    rcases Nat.lt_trichotomy k i with q | q | q
    · exact absurd (isN_of h4) (h k q)
    · rw [q]
    · have := h5 i (by omega) q; rw [isN_t rfl] at this; cases this
theorem fstN_not {n : Nat} {c : Nat → PE} {i : Nat} (h : fstN n c (c i).nm = (i : Int)) : ∀ k, k < i → ¬ (c k).nm = (c i).nm := fun k hk e => by
  unfold fstN at h
  rcases fstF_spec (isN c (c i).nm) n 0 with ⟨h1, _⟩ | ⟨j, h1, _, _, h4, h5⟩
  · rw [h1] at h; omega
  · rw [h1] at h
    have : j = i := by omega
    subst this
    have := h5 k (by omega) hk; rw [isN_t e] at this; cases this
theorem fstN_some {n : Nat} {c : Nat → PE} {s : ByteArray} (h : ¬ fstN n c s < 0) : ∃ k, k < n ∧ (c k).nm = s := by
  unfold fstN at h
  rcases fstF_spec (isN c s) n 0 with ⟨h1, _⟩ | ⟨j, h1, _, h3, h4, _⟩
  · rw [h1] at h; omega
  · exact ⟨j, by omega, isN_of h4⟩
theorem fstN_none {n : Nat} {c : Nat → PE} {s : ByteArray} (h : fstN n c s < 0) : ¬ ∃ k, k < n ∧ (c k).nm = s := fun ⟨k, hk, e⟩ => by
  unfold fstN at h
  rcases fstF_spec (isN c s) n 0 with ⟨_, h2⟩ | ⟨j, h1, _⟩
  · have := h2 k (by omega) (by omega); rw [isN_t e] at this; cases this
  · rw [h1] at h; omega

set_option maxRecDepth 20000 in
set_option maxHeartbeats 2000000 in
theorem lPerson_any (ad : Option Addr) (len cap : Nat) (c : Nat → PE) (s : ByteArray) (w : World) (h : (len : Int) ≤ 1048576) (hr : PEr w ad len c) :
    Calls Try.prog 14 #[.slice ad len cap, .string s] w fun e w' => e = .returned (.int .i64 (fstN len c s)) ∧ w' = w := by
  have HR : Hid (PEr w ad len c) := hr
  clear hr
  unfold fstN
  go_enter Try.func14, Try.ntmps14
  go_wp2
  go_loop [5] (fun i => ∃ k : Nat, k ≤ len ∧ i = .int .i64 (k : Int) ∧ Hid (fstF (isN c s) (len - k) k = fstF (isN c s) len 0)) (fun i => len - (intOf i).toNat)
  case atStart => exact ⟨0, Nat.zero_le _, rfl, rfl⟩
  case round =>
    obtain ⟨k, hk, rfl, hP⟩ := hrel
    by_cases hlt : k < len
    · have hlt2 : (k : Int) < (len : Int) := by omega
      obtain ⟨kb, off, rfl, _⟩ := HR.out.addr (by omega)
      obtain ⟨ra, rc, _, c0, _, _, _, _, _⟩ := HR.out.cell hlt
      obtain ⟨t, ht⟩ : ∃ t, (c k).nm = t := ⟨_, rfl⟩
      have HT : Hid ((c k).nm = t) := ht
      rw [ht] at c0
      clear ht
      by_cases g : t = s
      · have HF : Hid (fstF (isN c s) len 0 = (k : Int)) := hid (by rw [← hP.out]; exact fstF_hit hlt (isN_t (HT.out.trans g)))
        have e1 := lists_t g
        clear g
        go_wp2
        go_returns
        exact ⟨ret_i HF.out.symm, rfl⟩
      · have HF : Hid (fstF (isN c s) (len - (k + 1)) (k + 1) = fstF (isN c s) len 0) := hid (by rw [← hP.out]; exact (fstF_miss hlt (isN_f (by rw [HT.out]; exact g))).symm)
        have e1 := lists_f g
        clear g
        go_wp2
        go_round
        case rel => exact ⟨k + 1, by omega, by go_num, HF⟩
        case measure => simp [intOf]; omega
    · obtain rfl : k = len := by omega
      have lkk : ¬ (k : Int) < (k : Int) := by omega
      have HF : Hid (fstF (isN c s) k 0 = -1) := hid (by rw [← hP.out]; exact fstF_end)
      go_wp2
      go_returns
      exact ⟨ret_i HF.out.symm, rfl⟩
theorem lPerson_eq (ad : Option Addr) (len cap : Nat) (c : Nat → PE) (s : ByteArray) (v : Int) (w : World) (h : (len : Int) ≤ 1048576) (hr : PEr w ad len c) (hv : fstN len c s = v) :
    Calls Try.prog 14 #[.slice ad len cap, .string s] w fun e w' => e = .returned (.int .i64 v) ∧ w' = w := hv ▸ lPerson_any ad len cap c s w h hr

def PSz (c : Nat → PE) : Prop := ∀ j, (c j).rn ≤ maxLen ∧ (∀ i, ((c j).rz i).size ≤ maxLen) ∧ (c j).nm.size ≤ maxLen ∧ (c j).fr.size ≤ maxLen
set_option maxRecDepth 20000 in
set_option maxHeartbeats 8000000 in
theorem specPeople_any (ad : Option Addr) (len cap : Nat) (c : Nat → PE) (w : World) (h : (len : Int) ≤ 1048576) (hs : PSz c) (hr : PEr w ad len c) :
    Calls Try.prog 6 #[.slice ad len cap] w fun e w' => e = .returned (.bool (peB len c)) ∧ Below w.heap.size w w' := by
  have HR : Hid (PEr w ad len c) := hr
  have HS : Hid (PSz c) := hs
  clear hr hs
  by_cases h40 : (40 : Int) < (len : Int)
  · have HV : Hid (peB len c = false) := peB_f fun H => by have := H.1; omega
    go_enter Try.func6, Try.ntmps6
    go_wp2
    go_returns
    exact ⟨ret_bool HV.out.symm, Below.refl _ _⟩
  have h4 : (len : Int) ≤ 40 := by omega
  clear h40
  go_enter Try.func6, Try.ntmps6
  go_wp2
  go_loopw [3] (fun i wr => ∃ (k : Nat), k ≤ len ∧ i = .int .i64 (k : Int) ∧ Hid ((∀ j, j < k → pOne c j ∧ pFor len c j) ∧ Below w.heap.size w wr)) (fun i _ => len - (intOf i).toNat)
  case atStart => exact ⟨0, Nat.zero_le _, rfl, fun j hj => by omega, Below.refl _ _⟩
  case round =>
    obtain ⟨k, hk, rfl, HH⟩ := hrel
    obtain ⟨wo, rfl⟩ : ∃ x, x = wr := ⟨wr, rfl⟩
    by_cases hlt : k < len
    · have hlt2 : (k : Int) < (len : Int) := by omega
      obtain ⟨kb, off, ea, hkb⟩ := HR.out.addr (by omega)
      subst ea
      obtain ⟨ra, rc, hrc, c0, c1, c2, c3, c4, r5⟩ := (HR.out.below HH.out.2).cell hlt
      have HT : Hid (STR wo ra (c k).rn (c k).rz) := r5
      have HSZ := hid (HS.out k)
      obtain ⟨r, hr⟩ : ∃ r, c k = r := ⟨_, rfl⟩
      have HX : Hid (c k = r) := hr
      rw [hr] at c0 c1 c2 c3 c4 hrc
      replace HT : Hid (STR wo ra r.rn r.rz) := by have := HT.out; rw [hr] at this; exact this
      replace HSZ : Hid (r.rn ≤ maxLen ∧ (∀ i, (r.rz i).size ≤ maxLen) ∧ r.nm.size ≤ maxLen ∧ r.fr.size ≤ maxLen) := by have := HSZ.out; rw [hr] at this; exact this
      obtain ⟨nm, rn, rz, lim, fr, aw⟩ := r
      simp only at c0 c1 c2 c3 c4 hrc
      have HZ : Hid (nm.size ≤ maxLen) := HSZ.out.2.2.1
      have hrnM : rn ≤ maxLen := HSZ.out.1
      unfold maxLen at hrnM
      clear hr r5
      have bo : Below wo.heap.size wo (wo.alloc (.cells #[.string nm, .slice ra rn rc, .int .i64 lim, .string fr, .bool aw] 35 (0, 0))) := (Below.refl _ _).alloc (Nat.le_refl _) _
      have HBo : Hid (Below w.heap.size w (wo.alloc (.cells #[.string nm, .slice ra rn rc, .int .i64 lim, .string fr, .bool aw] 35 (0, 0)))) := bel_on HH.out.2 bo
      have HBa := HBo
      cases hname : nameB nm
      · have HNM : Hid (nameB nm = false) := hname
        have HV : Hid (peB len c = false) := peB_one hlt fun G => by have := G.1; rw [HX.out] at this; simp [hname] at this
        clear hname
        go_wp2_with (first | (go_at_call 13; refine (specName_eq HZ.out HNM.out).mono ?_; rintro e w1 ⟨rfl, ew⟩; replace ew := ew.symm; subst ew) | (go_at_call 14; refine (lPerson_eq (some ⟨kb, off, none⟩) len cap c nm _ _ h (HR.out.below HBo.out) HFN.out).mono ?_; rintro e w1 ⟨rfl, ew⟩; replace ew := ew.symm; subst ew) | (go_at_call 15; refine (l1In_eq HIN.out).mono ?_; rintro e w1 ⟨rfl, ew⟩; replace ew := ew.symm; subst ew))
        go_returns
        exact ⟨ret_bool HV.out.symm, HBa.out⟩
      have HNM : Hid (nameB nm = true) := hname
      obtain ⟨fn, hfn⟩ : ∃ x, fstN len c nm = x := ⟨_, rfl⟩
      have HFN : Hid (fstN len c nm = fn) := hfn
      by_cases hfi : fn = (k : Int)
      rotate_left
      · have HV : Hid (peB len c = false) := peB_one hlt fun G => by have := fstN_first hlt G.2.1; rw [HX.out] at this; dsimp only at this; rw [hfn] at this; exact hfi this
        have ef : (fn != (k : Int)) = true := by simp [hfi]
        clear hname hfn hfi
        go_wp2_with (first | (go_at_call 13; refine (specName_eq HZ.out HNM.out).mono ?_; rintro e w1 ⟨rfl, ew⟩; replace ew := ew.symm; subst ew) | (go_at_call 14; refine (lPerson_eq (some ⟨kb, off, none⟩) len cap c nm _ _ h (HR.out.below HBo.out) HFN.out).mono ?_; rintro e w1 ⟨rfl, ew⟩; replace ew := ew.symm; subst ew) | (go_at_call 15; refine (l1In_eq HIN.out).mono ?_; rintro e w1 ⟨rfl, ew⟩; replace ew := ew.symm; subst ew))
        go_returns
        exact ⟨ret_bool HV.out.symm, HBa.out⟩
      have HUN : Hid (∀ j, j < k → ¬ (c j).nm = (c k).nm) := fstN_not (by rw [HX.out]; dsimp only; rw [hfn]; exact hfi)
      have ef : (fn != (k : Int)) = false := by simp [hfi]
      by_cases h8 : (8 : Int) < (rn : Int)
      · have HV : Hid (peB len c = false) := peB_one hlt fun G => by have := G.2.2.1; rw [HX.out] at this; dsimp only at this; omega
        clear hname hfn hfi
        go_wp2_with (first | (go_at_call 13; refine (specName_eq HZ.out HNM.out).mono ?_; rintro e w1 ⟨rfl, ew⟩; replace ew := ew.symm; subst ew) | (go_at_call 14; refine (lPerson_eq (some ⟨kb, off, none⟩) len cap c nm _ _ h (HR.out.below HBo.out) HFN.out).mono ?_; rintro e w1 ⟨rfl, ew⟩; replace ew := ew.symm; subst ew) | (go_at_call 15; refine (l1In_eq HIN.out).mono ?_; rintro e w1 ⟨rfl, ew⟩; replace ew := ew.symm; subst ew))
        go_returns
        exact ⟨ret_bool HV.out.symm, HBa.out⟩
      have h82 : (rn : Int) ≤ 8 := by omega
      clear h8
      cases hin : inB lim 0 100000000000
      · have HIN : Hid (inB lim 0 100000000000 = false) := hin
        have HV : Hid (peB len c = false) := peB_one hlt fun G => by have := G.2.2.2.2; rw [HX.out] at this; exact inB_f hin this
        clear hname hfn hfi hin
        go_wp2_with (first | (go_at_call 13; refine (specName_eq HZ.out HNM.out).mono ?_; rintro e w1 ⟨rfl, ew⟩; replace ew := ew.symm; subst ew) | (go_at_call 14; refine (lPerson_eq (some ⟨kb, off, none⟩) len cap c nm _ _ h (HR.out.below HBo.out) HFN.out).mono ?_; rintro e w1 ⟨rfl, ew⟩; replace ew := ew.symm; subst ew) | (go_at_call 15; refine (l1In_eq HIN.out).mono ?_; rintro e w1 ⟨rfl, ew⟩; replace ew := ew.symm; subst ew))
        go_returns
        exact ⟨ret_bool HV.out.symm, HBa.out⟩
      have HIN : Hid (inB lim 0 100000000000 = true) := hin
      have HLM := hid (inB_t hin)
      clear hin hname hfn hfi
      go_wp2_with (first | (go_at_call 13; refine (specName_eq HZ.out HNM.out).mono ?_; rintro e w1 ⟨rfl, ew⟩; replace ew := ew.symm; subst ew) | (go_at_call 14; refine (lPerson_eq (some ⟨kb, off, none⟩) len cap c nm _ _ h (HR.out.below HBo.out) HFN.out).mono ?_; rintro e w1 ⟨rfl, ew⟩; replace ew := ew.symm; subst ew) | (go_at_call 15; refine (l1In_eq HIN.out).mono ?_; rintro e w1 ⟨rfl, ew⟩; replace ew := ew.symm; subst ew))
      have XP : CB (wo.alloc (.cells #[.string nm, .slice ra rn rc, .int .i64 lim, .string fr, .bool aw] 35 (0, 0))) wo.heap.size #[.string nm, .slice ra rn rc, .int .i64 lim, .string fr, .bool aw] 35 := CB.new _ _
      have HTp := hid (HT.out.below bo)
      clear bo HBa c0 c1 c2 c3 c4
      generalize (wo.alloc (.cells #[.string nm, .slice ra rn rc, .int .i64 lim, .string fr, .bool aw] 35 (0, 0))) = wp at XP HTp HBo ⊢
      have k0 : wp.cell? ⟨wo.heap.size, 0, none⟩ = some (.string nm) := (XP.cell 0).trans rfl
      have k1 : wp.cell? ⟨wo.heap.size, 1, none⟩ = some (.slice ra rn rc) := (XP.cell 1).trans rfl
      have k3 : wp.cell? ⟨wo.heap.size, 3, none⟩ = some (.string fr) := (XP.cell 3).trans rfl
      clear XP
      go_loopw [5] (fun i wr => ∃ (m : Nat), m ≤ rn ∧ i = .int .i64 (m : Int) ∧ wr = wp ∧ Hid (∀ j, j < m → nameB (rz j) = true)) (fun i _ => rn - (intOf i).toNat)
      case atStart => exact ⟨0, Nat.zero_le _, rfl, rfl, fun j hj => by omega⟩
      case round =>
        obtain ⟨m, hm, rfl, rfl, HM⟩ := hrel
        obtain ⟨wp, rfl⟩ : ∃ x, x = wr := ⟨wr, rfl⟩
        by_cases hml : m < rn
        · have hml2 : (m : Int) < (rn : Int) := by omega
          obtain ⟨kr, offr, rfl, _⟩ := HTp.out.addr (by omega)
          have d0 := HTp.out.cell hml
          have HZ : Hid ((rz m).size ≤ maxLen) := HSZ.out.2.1 m
          obtain ⟨t, ht⟩ : ∃ t, rz m = t := ⟨_, rfl⟩
          have HTT : Hid (rz m = t) := ht
          rw [ht] at d0
          replace HZ : Hid (t.size ≤ maxLen) := by have := HZ.out; rw [ht] at this; exact this
          clear ht
          cases hn2 : nameB t
          · have HNM : Hid (nameB t = false) := hn2
            have HV : Hid (peB len c = false) := peB_one hlt fun G => by have := G.2.2.2.1 m (by rw [HX.out]; exact hml); rw [HX.out] at this; dsimp only at this; rw [HTT.out, hn2] at this; cases this
            clear hn2
            go_wp2_with (first | (go_at_call 13; refine (specName_eq HZ.out HNM.out).mono ?_; rintro e w1 ⟨rfl, ew⟩; replace ew := ew.symm; subst ew))
            go_returns
            exact ⟨ret_bool HV.out.symm, HBo.out⟩
          · have HNM : Hid (nameB t = true) := hn2
            have HF : Hid (∀ j, j < m + 1 → nameB (rz j) = true) := up_step HM.out (by rw [HTT.out]; exact hn2)
            clear hn2
            go_wp2_with (first | (go_at_call 13; refine (specName_eq HZ.out HNM.out).mono ?_; rintro e w1 ⟨rfl, ew⟩; replace ew := ew.symm; subst ew))
            go_roundw
            case rel => exact ⟨m + 1, by omega, by go_num, by first | rfl | trivial, HF.out⟩
            case measure => simp [intOf]; omega
        · obtain rfl : m = rn := by omega
          have lmm : ¬ (m : Int) < (m : Int) := by omega
          have HONE : Hid (pOne c k) := by
            unfold Hid pOne
            refine ⟨by rw [HX.out]; exact HNM.out, HUN.out, by rw [HX.out]; dsimp only; omega, fun j hj => ?_, by rw [HX.out]; exact HLM.out.1, by rw [HX.out]; exact HLM.out.2⟩
            have := HM.out j (by rw [HX.out] at hj; exact hj)
            rw [HX.out]; exact this
          have HBq := HBo
          by_cases hfr : fr = noT
          · have HFO : Hid (pFor len c k) := .inl (by rw [HX.out]; exact hfr)
            have e1 : fr.toList = [] := by rw [hfr]; exact noT_nil
            have HG : Hid (∀ j, j < k + 1 → pOne c j ∧ pFor len c j) := up_step HH.out.1 ⟨HONE.out, HFO.out⟩
            clear hfr
            go_wp2
            go_roundw
            case rel => exact ⟨k + 1, by omega, by go_num, HG.out, HBo.out⟩
            case measure => simp [intOf]; omega
          have e1 : ¬ fr.toList = [] := fun q => hfr (toList_nil q)
          have e1b : (fr.toList == []) = false := by simpa using e1
          by_cases hfn2 : fr = nm
          · have HV : Hid (peB len c = false) := peB_for hlt fun G => by
              unfold pFor at G
              rw [HX.out] at G
              rcases G with q | q
              · exact hfr q
              · exact q.1 hfn2
            subst hfn2
            have e2 := lists_t (rfl : fr = fr)
            clear hfr
            go_wp2
            go_returns
            exact ⟨ret_bool HV.out.symm, HBo.out⟩
          have e2 := lists_f hfn2
          obtain ⟨ff, hff⟩ : ∃ x, fstN len c fr = x := ⟨_, rfl⟩
          have HFF : Hid (fstN len c fr = ff) := hff
          by_cases hf0 : ff < 0
          · have HV : Hid (peB len c = false) := peB_for hlt fun G => by
              unfold pFor at G
              rw [HX.out] at G
              rcases G with q | q
              · exact hfr q
              · exact fstN_none (by rw [hff]; exact hf0) q.2
            clear hfr hfn2 hff
            go_wp2_with (first | (go_at_call 14; refine (lPerson_eq (some ⟨kb, off, none⟩) len cap c fr _ _ h (HR.out.below HBq.out) HFF.out).mono ?_; rintro e w1 ⟨rfl, ew⟩; replace ew := ew.symm; subst ew))
            go_returns
            exact ⟨ret_bool HV.out.symm, HBo.out⟩
          · have HFO : Hid (pFor len c k) := .inr (by rw [HX.out]; exact ⟨hfn2, fstN_some (by rw [hff]; exact hf0)⟩)
            have HG : Hid (∀ j, j < k + 1 → pOne c j ∧ pFor len c j) := up_step HH.out.1 ⟨HONE.out, HFO.out⟩
            clear hfr hfn2 hff
            go_wp2_with (first | (go_at_call 14; refine (lPerson_eq (some ⟨kb, off, none⟩) len cap c fr _ _ h (HR.out.below HBq.out) HFF.out).mono ?_; rintro e w1 ⟨rfl, ew⟩; replace ew := ew.symm; subst ew))
            go_roundw
            case rel => exact ⟨k + 1, by omega, by go_num, HG.out, HBo.out⟩
            case measure => simp [intOf]; omega
    · obtain rfl : k = len := by omega
      have lkk : ¬ (k : Int) < (k : Int) := by omega
      have HF : Hid (peB k c = true) := peB_t ⟨by omega, fun i hi => (HH.out.1 i hi).1, fun i hi => (HH.out.1 i hi).2⟩
      go_wp2
      go_returns
      exact ⟨ret_bool HF.out.symm, HH.out.2⟩
end Go.Proofs.Ytdhpadcihlmhiaa
