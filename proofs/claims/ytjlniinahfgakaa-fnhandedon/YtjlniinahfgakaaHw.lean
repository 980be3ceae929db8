/- FnHandedOn's walk, given what its draw hands back. -/
import Derived.Test.YtjlniinahfgakaaHv
import Derived.Test.YtjlniinahfgakaaHz
import Derived.Test.YtjlniinahfgakaaSf
import Derived.Test.YtjlniinahfgakaaDw
namespace Go.Proofs.Ytjlniinahfgakaa
open Go.ChangeShapes Go.WideShapes Go.ChangeAt Go.RowKit
set_option linter.unusedVariables false
set_option linter.unusedSimpArgs false

/-- What DrawStepDown hands back. -/
def SdD (w : World) (e : Ending) (w' : World) : Prop := ∃ (ca : Option Addr) (n cc : Nat) (c : Nat → Int) (ra : Option Addr) (m rc : Nat) (rs : Nat → R3), e = .returned (.tuple #[.slice ca n cc, .slice ra m rc]) ∧ ((n : Int) ≤ 1048576 ∧ (m : Int) ≤ 1048576 ∧ ∀ j, j < m → ((rs j).tn : Int) ≤ 1048576 ∧ ((rs j).wn : Int) ≤ 1048576) ∧ IR w' ca n c ∧ RU w' ra m rs ∧ Below w.heap.size w w'

set_option maxRecDepth 20000 in
set_option maxHeartbeats 4000000 in
theorem handed_walk (a0 : Option Addr) (len0 cap0 : Nat) (w : World) (hD : (len0 : Int) ≤ 1048576 → Calls Try.prog 16 #[.slice a0 len0 cap0] w (SdD w)) :
    Calls Try.prog 4 #[.slice a0 len0 cap0] w fun e w' => e = .returned (.bool true) ∧ Below w.heap.size w w' := by
  by_cases hbig : (1048576 : Int) < (len0 : Int)
  · go_enter Try.func4, Try.ntmps4
    go_wp2_with (go_at_call 10; refine (big_t _ _ _ _ hbig).mono ?_; rintro e w1 ⟨rfl, ew⟩; replace ew := ew.symm; subst ew)
    go_returns
    exact ⟨rfl, Below.refl _ _⟩
  have hb2 : (len0 : Int) ≤ 1048576 := by omega
  have HDR : Hid (Calls Try.prog 16 #[.slice a0 len0 cap0] w (SdD w)) := hD hb2
  clear hD
  go_enter Try.func4, Try.ntmps4
  go_upto_region 4 with (first
    | (go_at_call 10; refine (big_f _ _ _ _ hb2).mono ?_; rintro e wq ⟨rfl, ew⟩; replace ew := ew.symm; subst ew)
    | (go_at_call 16; refine HDR.out.mono ?_; rintro e w1 ⟨ca, n, cc, c, ra, m, rc, rs, rfl, hbd, ir1, ru1, b1⟩; have HIR : Hid (IR w1 ca n c) := ir1; have HRU : Hid (RU w1 ra m rs) := ru1; have HB1 : Hid (Below w.heap.size w w1) := b1; clear ir1 ru1 b1))
  obtain ⟨hn, hm, hj⟩ := hbd
  have HIM : Hid (Calls Try.prog 17 #[.slice ca n cc, .slice ra m rc] w1 (SdP n c m rs w1)) := implStep_any ca n cc c ra m rc rs w1 hn hm hj HIR.out HRU.out
  have HSP : Hid (∀ W, Below w1.heap.size w1 W → Calls Try.prog 18 #[.slice ca n cc, .slice ra m rc] W (SdP n c m rs W)) := fun W b => specStep_any ca n cc c ra m rc rs W hn hm hj (HIR.out.below b) (HRU.out.below b)
  have HFA : Hid (sdB n c m rs = true → sdM n c m rs = n ∧ sm (sdV n c m rs) n = sm c n ∧ ∀ j, j < m → 0 ≤ (rs j).frm ∧ (rs j).frm.toNat < n ∧ sdV n c m rs (rs j).frm.toNat = 0) := sd_facts
  have HAM : Hid (sdB n c m rs = true → n ≤ 200 ∧ (∀ j, j < n → AmtP (c j)) ∧ ∀ j, j < n → AmtP (sdV n c m rs j)) := fun h => by
    have hq : CostP n c ∧ m ≤ 40 ∧ (sdn n c rs m).isSome = true := by
      by_cases g : CostP n c ∧ m ≤ 40 ∧ (sdn n c rs m).isSome = true
      · exact g
      · rw [sdB_f g] at h; cases h
    refine ⟨hq.1.1.2, hq.1.2, ?_⟩
    cases e : sdn n c rs m with
    | none => rw [e] at hq; cases hq.2.2
    | some t =>
      have hV : sdV n c m rs = t.1 := by unfold sdV; rw [e]
      rw [hV]; exact sdn_amt hq.1.2 e
  clear hj HDR
  obtain ⟨M, hM⟩ : ∃ M, sdM n c m rs = M := ⟨_, rfl⟩
  obtain ⟨XV, hXV⟩ : ∃ XV, sdV n c m rs = XV := ⟨_, rfl⟩
  cases hbb : sdB n c m rs with
  | false =>
    unfold SdP at HIM HSP
    rw [hM, hXV, hbb] at HIM HSP
    clear HFA HAM hbb hM hXV
    go_wp2_with (first
      | (go_at_call 17; refine HIM.out.mono ?_; rintro e w2 ⟨ad, cap, rfl, o2, b2⟩; have HB2 : Hid (Below w1.heap.size w1 w2) := b2; clear o2 b2)
      | (go_at_call 18; refine (HSP.out _ HB2.out).mono ?_; rintro e w3 ⟨ad3, cap3, rfl, o3, b3⟩; have HB3 : Hid (Below w.heap.size w w3) := bel_on (bel_on HB1.out HB2.out) b3; clear o3 b3))
    go_returns
    exact ⟨rfl, HB3.out⟩
  | true =>
    obtain ⟨f1, f2, f3⟩ := HFA.out hbb
    obtain ⟨g0, g1, g2⟩ := HAM.out hbb
    unfold SdP at HIM HSP
    rw [hM, hXV, hbb] at HIM HSP
    rw [hM] at f1
    rw [hXV] at f2 f3 g2
    subst f1
    have sb : ∀ (z : Nat → Int), (∀ j, j < M → AmtP (z j)) → SmB z M := fun z hz k hk => by
      have := sm_bound (z := z) (M := 100000000000) (by omega) (fun j hj => hz j hj) 0 k (Nat.zero_le _) hk
      rw [show sm z 0 = 0 from rfl] at this
      omega
    have HS1 : Hid (SmB c M) := sb c g1
    have HS2 : Hid (SmB XV M) := sb XV g2
    have HF2 : Hid (sm XV M = sm c M) := f2
    have HF3 : Hid (∀ j, j < m → 0 ≤ (rs j).frm ∧ (rs j).frm.toNat < M ∧ XV (rs j).frm.toNat = 0) := f3
    clear HFA HAM hbb hM hXV f2 f3 g1 g2 sb
    go_wp2_with (first
      | (go_at_call 17; refine HIM.out.mono ?_; rintro e w2 ⟨ad, cap, rfl, o2, b2⟩; have HB2 : Hid (Below w1.heap.size w1 w2) := b2; have HO2 : Hid (IR w2 ad M XV) := row_IR o2 (fun j hj => intL_get hj); clear o2 b2)
      | (go_at_call 18; refine (HSP.out _ HB2.out).mono ?_; rintro e w3 ⟨ad3, cap3, rfl, o3, b3⟩; have HB3 : Hid (Below w.heap.size w w3) := bel_on (bel_on HB1.out HB2.out) b3; have HI3 : Hid (IR w3 ca M c) := HIR.out.below (bel_on HB2.out b3); have HR3 : Hid (RU w3 ra m rs) := HRU.out.below (bel_on HB2.out b3); have HO3 : Hid (IR w3 ad M XV) := HO2.out.below b3; clear o3 b3))
    go_loop [9] (fun v => ∃ (k : Nat), k ≤ m ∧ v = .int .i64 (k : Int)) (fun v => m - (intOf v).toNat)
    case atStart => exact ⟨0, Nat.zero_le _, rfl⟩
    case round =>
      obtain ⟨k, hk, rfl⟩ := hrel
      by_cases hlt : k < m
      · have hlt2 : (k : Int) < (m : Int) := by omega
        obtain ⟨kb, off, rfl, hkb, hru⟩ : ∃ kb off, ra = some ⟨kb, off, none⟩ ∧ kb < w3.heap.size ∧ RuAt w3 kb (off + k * 3) (rs k) := by
          rcases HR3.out with h | ⟨kb, off, e, hkb, hc⟩
          · omega
          · exact ⟨kb, off, e, hkb, hc k hlt⟩
        obtain ⟨ta, tc, wa, wc', r1, _⟩ := hru
        obtain ⟨p1, p2, p3⟩ := HF3.out k hlt
        obtain ⟨i, hi⟩ : ∃ i : Nat, (rs k).frm = (i : Int) := ⟨(rs k).frm.toNat, by omega⟩
        have hiM : i < M := by omega
        have hiM2 : (i : Int) < (M : Int) := by omega
        rw [hi] at r1
        rw [show (rs k).frm.toNat = i by omega] at p3
        obtain ⟨ob, oo, rfl, _⟩ := HO3.out.addr (by omega)
        have o1 := HO3.out.cell hiM
        rw [p3] at o1
        clear p1 p2 p3 hi
        go_wp2
        go_round
        case rel => exact ⟨k + 1, by omega, by go_num⟩
        case measure => simp [intOf]; omega
      · obtain rfl : k = m := by omega
        have lkk : ¬ (k : Int) < (k : Int) := by omega
        obtain ⟨S, hS⟩ : ∃ S, sm c M = S := ⟨_, rfl⟩
        have HS : Hid (sm c M = S) := hS
        have tok1 : True := trivial
        clear hS
        go_wp2_with (first
          | (go_at_call 13; clear tok1; refine (lsum_any _ _ _ XV _ hn HO3.out HS2.out).mono ?_; rintro e wq ⟨rfl, ew⟩; replace ew := ew.symm; subst ew; rw [HF2.out, HS.out])
          | (go_at_call 13; refine (lsum_any _ _ _ c _ hn HI3.out HS1.out).mono ?_; rintro e wq ⟨rfl, ew⟩; replace ew := ew.symm; subst ew; rw [HS.out]))
        go_returns
        exact ⟨ret_bool (by simp), HB3.out⟩
end Go.Proofs.Ytjlniinahfgakaa
