/- Items that are right (isB): ItemsOk of the program. -/
import Derived.Test.YtmbdeafpfdeigaaJd
import Derived.Test.YtmbdeafpfdeigaaJf
namespace Go.Proofs.Ytmbdeafpfdeigaa
open Go Go.ChangeShapes Go.WideShapes Go.ChangeAt Go.RowKit
set_option linter.unusedVariables false
set_option linter.unusedSimpArgs false

def IsP (n : Nat) (c : Nat → IT) : Prop := (1 ≤ n ∧ n ≤ 60) ∧ (∀ j, j < n → itB (j : Int) (n : Int) (c j) = true) ∧ DisP n c ∧ ∀ j, j < n → lvS c n j ≤ 20
open Classical in
noncomputable def isB (n : Nat) (c : Nat → IT) : Bool := decide (IsP n c)
open Classical in
theorem isB_t {n : Nat} {c : Nat → IT} (h : IsP n c) : isB n c = true := by unfold isB; exact decide_eq_true h
open Classical in
theorem isB_f {n : Nat} {c : Nat → IT} (h : ¬ IsP n c) : isB n c = false := by unfold isB; exact decide_eq_false h
open Classical in
theorem isB_p {n : Nat} {c : Nat → IT} (h : isB n c = true) : IsP n c := by unfold isB at h; exact of_decide_eq_true h
/-- Sizes of what came in. -/
def IZ (n : Nat) (c : Nat → IT) : Prop := ∀ j, j < n → (c j).name.size ≤ maxLen ∧ ((c j).parn : Int) ≤ 1048576 ∧ ((c j).alsn : Int) ≤ 1048576
theorem itRight_eq (x : IT) (ra : Option Addr) (rc : Nat) (sa : Option Addr) (sc : Nat) (o n : Int) (v : Bool) (w : World) (hb : OnB o n) (hz : x.name.size ≤ maxLen) (h1r : (x.parn : Int) ≤ 1048576) (h1s : (x.alsn : Int) ≤ 1048576) (hR : PAr w ra x.parn x.parz) (hS : PAr w sa x.alsn x.alsz) (h : itB o n x = v) :
    Calls Try.prog 90 #[.agg #[.string x.name, .int .i64 x.batch, .bool x.pha, .slice ra x.parn rc, .slice sa x.alsn sc], .int .i64 o, .int .i64 n] w fun e w' => e = .returned (.bool v) ∧ Below w.heap.size w w' := by
  subst h; exact itRight_any x.name x.batch x.pha ra x.parn rc x.parz sa x.alsn sc x.alsz o n w hb hz h1r h1s hR hS

set_option maxRecDepth 20000 in
set_option maxHeartbeats 8000000 in
theorem implItems_any (ad : Option Addr) (n cap : Nat) (c : Nat → IT) (w : World) (h : (n : Int) ≤ 1048576) (hz : IZ n c) (hr : ITr w ad n c) :
    Calls Try.prog 38 #[.slice ad n cap] w fun e w' => e = .returned (.bool (isB n c)) ∧ Below w.heap.size w w' := by
  have HR : Hid (ITr w ad n c) := hr
  have HZ : Hid (IZ n c) := hz
  clear hr hz
  by_cases h1 : (n : Int) < 1
  · have HV : Hid (isB n c = false) := isB_f fun H => by have := H.1; omega
    go_enter Try.func38, Try.ntmps38
    go_wp2
    go_returns
    exact ⟨ret_bool HV.out.symm, Below.refl _ _⟩
  by_cases h6 : (60 : Int) < (n : Int)
  · have HV : Hid (isB n c = false) := isB_f fun H => by have := H.1; omega
    have g6 : decide ((60 : Int) < (n : Int)) = true := decide_eq_true h6
    go_enter Try.func38, Try.ntmps38
    go_wp2
    go_returns
    exact ⟨ret_bool HV.out.symm, Below.refl _ _⟩
  have g6 : decide ((60 : Int) < (n : Int)) = false := decide_eq_false h6
  have hmm : ∀ w : World, (Instr.makeMap 103 (some (.int .i64 (n : Int)))).run Try.prog w = .ok (.map (some w.heap.size)) (w.alloc (.map #[] 0)) := fun w => by
    simp [Instr.makeMap, run_underlying Try.underlying103, asInt, asIntOf, Result.andThen]
  go_enter Try.func38, Try.ntmps38
  go_wp2
  go_loopw [19] (fun i wr => ∃ (k : Nat), k ≤ n ∧ i = .int .i64 (k : Int) ∧ Hid ((∀ j, j < k → itB (j : Int) (n : Int) (c j) = true) ∧ MS wr w.heap.size (plS c k) (plF c k) ∧ Below w.heap.size w wr)) (fun i _ => n - (intOf i).toNat)
  case atStart => exact ⟨0, Nat.zero_le _, rfl, fun j hj => by omega, MS.made _, (Below.refl _ _).alloc (Nat.le_refl _) _⟩
  case round =>
    clear hmm
    obtain ⟨k, hk, rfl, HH⟩ := hrel
    obtain ⟨wo, rfl⟩ : ∃ x, x = wr := ⟨wr, rfl⟩
    by_cases hlt : k < n
    · have hlt2 : (k : Int) < (n : Int) := by omega
      obtain ⟨kb, off, rfl, hkb⟩ := HR.out.addr (by omega)
      obtain ⟨ra, rc, sa, sc, _, _, c0, c1, c2, c3, c4, r5, r6⟩ := (HR.out.below HH.out.2.2).cell hlt
      have hzk := HZ.out k hlt
      have HOB : Hid (OnB (k : Int) (n : Int)) := hid ⟨by omega, by omega, by omega, by omega⟩
      have HIT : Hid (∀ (v : Bool) (W : World), Below wo.heap.size wo W → itB (k : Int) (n : Int) (c k) = v → Calls Try.prog 90 #[.agg #[.string (c k).name, .int .i64 (c k).batch, .bool (c k).pha, .slice ra (c k).parn rc, .slice sa (c k).alsn sc], .int .i64 (k : Int), .int .i64 (n : Int)] W fun e w' => e = .returned (.bool v) ∧ Below W.heap.size W w') := hid (fun v W b hv => itRight_eq (c k) ra rc sa sc _ _ v W HOB.out hzk.1 hzk.2.1 hzk.2.2 (r5.below b) (r6.below b) hv)
      have HNZ : Hid ((c k).name.size ≤ maxLen) := hzk.1
      have hbl : w.heap.size < wo.heap.size := HH.out.2.1.lt
      clear r5 r6 hzk
      obtain ⟨v, hv⟩ : ∃ v, itB (k : Int) (n : Int) (c k) = v := ⟨_, rfl⟩
      have HIV : Hid (itB (k : Int) (n : Int) (c k) = v) := hv
      have HCK : Hid (∀ nm, (c k).name = nm → upK (plF c k) nm (k : Int) = plF c (k + 1) ∧ (if (plF c k nm).isSome then plS c k else plS c k + 1) = plS c (k + 1)) := hid (fun nm e => by subst e; exact ⟨rfl, rfl⟩)
      have HNE : Hid (∃ nm, (c k).name = nm) := ⟨_, rfl⟩
      replace HIT := hid (fun W b => HIT.out v W b hv)
      clear hv
      obtain ⟨nm, hnm⟩ := HNE.out
      replace HCK := hid (HCK.out nm hnm)
      rw [hnm] at c0 HIT HNZ
      clear HNE hnm
      generalize (c k).batch = ba at c1 HIT
      generalize (c k).pha = ph at c2 HIT
      generalize (c k).parn = rn at c3 HIT
      generalize (c k).alsn = sn at c4 HIT
      have HBA : Hid (Below wo.heap.size wo (wo.alloc (.cells #[.string nm, .int .i64 ba, .bool ph, .slice ra rn rc, .slice sa sn sc] 31 (0, 0)))) := (Below.refl _ _).alloc (Nat.le_refl _) _
      have HCA : Hid (CB (wo.alloc (.cells #[.string nm, .int .i64 ba, .bool ph, .slice ra rn rc, .slice sa sn sc] 31 (0, 0))) wo.heap.size #[.string nm, .int .i64 ba, .bool ph, .slice ra rn rc, .slice sa sn sc] 31) := CB.new _ _
      cases v
      · have HV : Hid (isB n c = false) := isB_f fun H => by have := H.2.1 k hlt; rw [HIV.out] at this; cases this
        go_wp2_with (go_at_call 90; refine (HIT.out _ HBA.out).mono ?_; rintro e w1 ⟨rfl, b1⟩; have HB1 : Hid (Below w.heap.size w w1) := bel_on HH.out.2.2 (bel_on HBA.out b1); clear b1)
        go_returns
        exact ⟨ret_bool HV.out.symm, HB1.out⟩
      · go_wp2_with (first
          | (go_at_call 90; refine (HIT.out _ HBA.out).mono ?_; rintro e w1 ⟨rfl, b1⟩; have HB1 : Hid (Below w.heap.size w w1) := bel_on HH.out.2.2 (bel_on HBA.out b1); have HM1 : Hid (MS w1 w.heap.size (plS c k) (plF c k)) := (HH.out.2.1.below HBA.out HH.out.2.1.lt).below b1 (by simp; omega); have k0 : w1.cell? ⟨wo.heap.size, 0, none⟩ = some (.string nm) := ((HCA.out.below b1 HCA.out.lt).cell 0).trans rfl; clear b1)
          | (at_mapUpdate; refine wpList_update_ms _ rfl _ _ _ rfl w.heap.size (plS c k) (plF c k) rfl HM1.out (by have := plS_le c k; unfold maxLen; omega) nm HNZ.out (k : Int) rfl rfl ?_; intro w2 hm2 hg2))
        have HM2 : Hid (MS w2 w.heap.size (plS c (k + 1)) (plF c (k + 1))) := hid (by rw [HCK.out.1, HCK.out.2] at hm2; exact hm2)
        have HB2 : Hid (Below w.heap.size w w2) := Below.grown HB1.out hg2 (by have := HM1.out.lt; omega) (fun q hq => by simp at hq; omega)
        have HA2 : Hid (∀ j, j < k + 1 → itB (j : Int) (n : Int) (c j) = true) := hid (fun j hj => by
          by_cases e : j = k
          · subst e; exact HIV.out
          · exact HH.out.1 j (by omega))
        clear hm2 hg2 k0
        go_wp2
        go_roundw
        case rel => exact ⟨k + 1, by omega, by go_num, HA2.out, HM2.out, HB2.out⟩
        case measure => simp [intOf]; omega
    · obtain rfl : k = n := by omega
      have lkk : ¬ (k : Int) < (k : Int) := by omega
      have hln : ∀ ty, (Builtin.len_ #[103] ty #[.map (some w.heap.size)]).run Try.prog wo = .ok (.int .i64 (plS c k : Int)) wo := fun ty => HH.out.2.1.len ty
      have hsl := plS_le c k
      by_cases q : plS c k = k
      · have HD : Hid (DisP k c) := (plS_all k).1 q
        have HLV : Hid (LvOk k c) := itB_lv HH.out.1
        rw [q] at hln
        clear q
        go_wp2_with (first
          | (go_at_call 69; refine (levelsOf_any ad k cap c _ (by omega) (HR.out.below HH.out.2.2) HLV.out).mono ?_; rintro e w1 ⟨rfl, i1, b1⟩; have HI1 : Hid (IB w1 wo.heap.size k (lvS c k)) := i1; have HB1 : Hid (Below w.heap.size w w1) := bel_on HH.out.2.2 b1; clear i1 b1)
          | (go_at_call 91; refine (maxI_any _ k _ (lvS c k) _ (by omega) (by omega) HI1.out.row).mono ?_; rintro e w2 ⟨m, rfl, hm, b2⟩; have HM : Hid ((∀ j, j < k → lvS c k j ≤ m) ∧ ∃ j, j < k ∧ lvS c k j = m) := hm; have HB2 : Hid (Below w.heap.size w w2) := bel_on HB1.out b2; clear hm b2))
        all_goals go_returns
        all_goals exact ⟨ret_bool (by
          by_cases e : m ≤ 20
          · rw [isB_t ⟨by omega, HH.out.1, HD.out, fun j hj => by have := HM.out.1 j hj; omega⟩]; simp [e]
          · rw [isB_f fun H => by obtain ⟨j, hj, e2⟩ := HM.out.2; have := H.2.2.2 j hj; omega]; simp [e]), HB2.out⟩
      · have HV : Hid (isB k c = false) := isB_f fun H => q ((plS_all k).2 H.2.2.1)
        have hne : ((plS c k : Int) == (k : Int)) = false := by simp; omega
        clear q
        go_wp2
        go_returns
        exact ⟨ret_bool HV.out.symm, HH.out.2.2⟩
theorem implItems_eq (ad : Option Addr) (n cap : Nat) (c : Nat → IT) (v : Bool) (w : World) (h : (n : Int) ≤ 1048576) (hz : IZ n c) (hr : ITr w ad n c) (hv : isB n c = v) :
    Calls Try.prog 38 #[.slice ad n cap] w fun e w' => e = .returned (.bool v) ∧ Below w.heap.size w w' := by
  subst hv; exact implItems_any ad n cap c w h hz hr
end Go.Proofs.Ytmbdeafpfdeigaa
