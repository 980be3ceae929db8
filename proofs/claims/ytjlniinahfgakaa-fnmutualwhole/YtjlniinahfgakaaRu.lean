/- Rules, plain; the program's test of a rule. -/
import Derived.Test.YtjlniinahfgakaaCl
namespace Go.Proofs.Ytjlniinahfgakaa
open Go.ChangeShapes Go.WideShapes Go.ChangeAt Go.RowKit
set_option linter.unusedVariables false
set_option linter.unusedSimpArgs false

structure R3 where
  frm : Int
  tn : Nat
  to : Nat → Int
  wn : Nat
  wt : Nat → Int
def TOk (n : Nat) (G : Nat → Bool) (r : R3) (k : Nat) : Prop := (0 ≤ r.to k ∧ r.to k < (n : Int)) ∧ G (r.to k).toNat = false ∧ r.to k ≠ r.frm ∧ ∀ j, j < k → r.to j ≠ r.to k
/-- A rule that is taken where the places of G have given. -/
def ROk (n : Nat) (G : Nat → Bool) (r : R3) : Prop := (0 ≤ r.frm ∧ r.frm < (n : Int)) ∧ G r.frm.toNat = false ∧ r.tn = r.wn ∧ WOk r.wn r.wt ∧ ∀ k, k < r.tn → TOk n G r k
open Classical in
noncomputable def rokB (n : Nat) (G : Nat → Bool) (r : R3) : Bool := decide (ROk n G r)
open Classical in
theorem rokB_t {n : Nat} {G : Nat → Bool} {r : R3} (h : ROk n G r) : rokB n G r = true := decide_eq_true h
open Classical in
theorem rokB_f {n : Nat} {G : Nat → Bool} {r : R3} (h : ¬ ROk n G r) : rokB n G r = false := decide_eq_false h
/-- Who is barred behind k of the places. -/
def br (G : Nat → Bool) (r : R3) : Nat → (Nat → Bool)
  | 0 => updB G r.frm.toNat
  | k + 1 => updB (br G r k) (r.to k).toNat
theorem br_iff {G : Nat → Bool} {r : R3} (h0 : 0 ≤ r.frm) {x : Int} (hx : 0 ≤ x) : ∀ {k : Nat}, (∀ j, j < k → 0 ≤ r.to j) → (br G r k x.toNat = false ↔ G x.toNat = false ∧ x ≠ r.frm ∧ ∀ j, j < k → r.to j ≠ x)
  | 0, _ => by
    unfold br updB
    by_cases e : x.toNat = r.frm.toNat
    · rw [if_pos e]
      constructor
      · intro h; cases h
      · intro h; exact absurd (by omega) h.2.1
    · rw [if_neg e]
      exact ⟨fun h => ⟨h, fun q => e (by rw [q]), fun j hj => by omega⟩, fun h => h.1⟩
  | k + 1, h => by
    have ih := br_iff (G := G) (r := r) h0 hx (k := k) (fun j hj => h j (by omega))
    unfold br updB
    by_cases e : x.toNat = (r.to k).toNat
    · rw [if_pos e]
      constructor
      · intro q; cases q
      · intro q; have := h k (by omega); exact absurd (by omega) (q.2.2 k (by omega))
    · rw [if_neg e, ih]
      refine ⟨fun q => ⟨q.1, q.2.1, fun j hj => ?_⟩, fun q => ⟨q.1, q.2.1, fun j hj => q.2.2 j (by omega)⟩⟩
      by_cases g : j = k
      · subst g; intro q2; exact e (by rw [q2])
      · exact q.2.2 j (by omega)

set_option maxRecDepth 20000 in
set_option maxHeartbeats 2000000 in
theorem takes_any (C n cc Gb gc : Nat) (G : Nat → Bool) (ta : Option Addr) (tc : Nat) (wa : Option Addr) (wc : Nat) (r : R3) (w : World) (hn : 0 < n) (hn2 : n ≤ 200) (htn : (r.tn : Int) ≤ 1048576) (hwn : (r.wn : Int) ≤ 1048576) (HG : FB w Gb n G) (HT : IR w ta r.tn r.to) (HW : IR w wa r.wn r.wt) :
    Calls Try.prog 57 #[.agg #[.slice (some ⟨C, 0, none⟩) n cc, .slice (some ⟨Gb, 0, none⟩) n gc], .agg #[.int .i64 r.frm, .slice ta r.tn tc, .slice wa r.wn wc]] w fun e w' => e = .returned (.bool (rokB n G r)) ∧ Below w.heap.size w w' := by
  have HBA : Hid (Below w.heap.size w ((w.alloc (.cells #[.slice (some ⟨C, 0, none⟩) n cc, .slice (some ⟨Gb, 0, none⟩) n gc] 79 (0, 0))).alloc (.cells #[.int .i64 r.frm, .slice ta r.tn tc, .slice wa r.wn wc] 36 (0, 0)))) := ((Below.refl _ _).alloc (Nat.le_refl _) _).alloc (by simp) _
  have HGb : Hid (FB w Gb n G) := HG
  have HTo : Hid (IR w ta r.tn r.to) := HT
  have HWt : Hid (IR w wa r.wn r.wt) := HW
  have HWO : Hid (∀ (w' : World) (v : Bool), Below w.heap.size w w' → wOkB r.wn r.wt = v → Calls Try.prog 48 #[.slice wa r.wn wc] w' fun e w'' => e = .returned (.bool v) ∧ w'' = w') := fun w' v hb hv => hv ▸ weightsOk_any wa r.wn wc r.wt w' hwn (HWt.out.below hb)
  clear HG HT HW
  obtain ⟨f, hf⟩ : ∃ f, r.frm = f := ⟨_, rfl⟩
  have Hf : Hid (r.frm = f) := hf
  rw [hf] at HBA ⊢
  clear hf
  by_cases hp : 0 ≤ f ∧ f < (n : Int)
  case neg =>
    have d1 : decide (0 ≤ f ∧ f < (n : Int)) = false := decide_eq_false hp
    have HF : Hid (rokB n G r = false) := rokB_f (fun q => hp (Hf.out ▸ q.1))
    clear hp
    go_enter Try.func57, Try.ntmps57
    go_wp2_with (go_at_call 76; refine (isPlaceOf_eq _ d1).mono ?_; rintro e w' ⟨rfl, ew⟩; replace ew := ew.symm; subst ew)
    go_returns
    exact ⟨ret_bool HF.out.symm, HBA.out⟩
  have d1 : decide (0 ≤ f ∧ f < (n : Int)) = true := decide_eq_true hp
  obtain ⟨i, hi⟩ : ∃ i : Nat, f = (i : Int) := ⟨f.toNat, by omega⟩
  subst hi
  have hin : i < n := by omega
  have hin2 : (i : Int) < (n : Int) := by omega
  have g1 := (HGb.out.on HBA.out).cell hin
  cases hg : G i with
  | true =>
    have HF : Hid (rokB n G r = false) := rokB_f (fun q => by have := q.2.1; rw [Hf.out] at this; simp [hg] at this)
    rw [hg] at g1
    clear hp
    go_enter Try.func57, Try.ntmps57
    go_wp2_with (go_at_call 76; refine (isPlaceOf_eq _ d1).mono ?_; rintro e w' ⟨rfl, ew⟩; replace ew := ew.symm; subst ew)
    go_returns
    exact ⟨ret_bool HF.out.symm, HBA.out⟩
  | false =>
  rw [hg] at g1
  by_cases hlen : r.tn = r.wn
  case neg =>
    have HF : Hid (rokB n G r = false) := rokB_f (fun q => hlen q.2.2.1)
    have e1 : ((r.tn : Int) == (r.wn : Int)) = false := by simp; omega
    have e2 : ((r.tn : Int) != (r.wn : Int)) = true := by simp [bne, e1]
    have e5 : (r.tn == r.wn) = false := by simpa using hlen
    have e6 : decide (r.tn = r.wn) = false := decide_eq_false hlen
    clear hp
    go_enter Try.func57, Try.ntmps57
    go_wp2_with (go_at_call 76; refine (isPlaceOf_eq _ d1).mono ?_; rintro e w' ⟨rfl, ew⟩; replace ew := ew.symm; subst ew)
    go_returns
    exact ⟨ret_bool HF.out.symm, HBA.out⟩
  have e2 : ((r.tn : Int) != (r.wn : Int)) = false := by simp [hlen]
  have Hlen : Hid (r.tn = r.wn) := hlen
  obtain ⟨m, hm⟩ : ∃ m, r.tn = m := ⟨_, rfl⟩
  have hm2 : r.wn = m := by omega
  have Hm : Hid (r.tn = m) := hm
  have Hm2 : Hid (r.wn = m) := hm2
  rw [hm, hm2] at HBA g1 ⊢
  rw [hm] at HTo htn
  rw [hm2] at HWO
  clear hm hm2 hlen e2 hwn
  by_cases hW : WOk r.wn r.wt
  case neg =>
    have HF : Hid (rokB n G r = false) := rokB_f (fun q => hW q.2.2.2.1)
    have hb2 : wOkB m r.wt = false := by rw [← Hm2.out]; exact wOkB_f hW
    clear hp hW
    go_enter Try.func57, Try.ntmps57
    go_wp2_with (first
      | (go_at_call 76; refine (isPlaceOf_eq _ d1).mono ?_; rintro e w' ⟨rfl, ew⟩; replace ew := ew.symm; subst ew)
      | (go_at_call 48; refine (HWO.out _ _ HBA.out hb2).mono ?_; rintro e w' ⟨rfl, ew⟩; replace ew := ew.symm; subst ew))
    go_returns
    exact ⟨ret_bool HF.out.symm, HBA.out⟩
  have hb2 : wOkB m r.wt = true := by rw [← Hm2.out]; exact wOkB_t hW
  have HWk : Hid (WOk r.wn r.wt) := hW
  have HGi : Hid (G i = false) := hg
  clear hp hW hg
  go_enter Try.func57, Try.ntmps57
  go_wp2_with (first
    | (go_at_call 76; refine (isPlaceOf_eq _ d1).mono ?_; rintro e w' ⟨rfl, ew⟩; replace ew := ew.symm; subst ew)
    | (go_at_call 48; refine (HWO.out _ _ HBA.out hb2).mono ?_; rintro e w' ⟨rfl, ew⟩; replace ew := ew.symm; subst ew)
    | (go_at_call 77; go_loud (refine (cloneB_any Gb n _ G _ hn (by omega) (HGb.out.on HBA.out)).mono ?_; rintro e w2 ⟨c, cp, rfl, hc1, hc2, b2⟩; have X1 : CB w2 (w.heap.size + 1) #[.int .i64 (i : Int), .slice ta m tc, .slice wa m wc] 36 := (CB.newAt (by simp) _ _).below b2 (by simp); have x0 := (X1.cell 0).trans rfl; have x1 := (X1.cell 1).trans rfl; have y1 := hc2.cell hin; have y2 := hc2.fr i; have hcs : w.heap.size + 2 ≤ c := (by simpa using hc1); have hce : c ≠ w.heap.size + 1 := (by omega); have hce2 : w.heap.size + 1 ≠ c := (by omega); have HC2 : Hid (FB w2 c n G) := hc2; have HB2 : Hid (Below w.heap.size w w2) := bel_on HBA.out b2; clear X1 b2 hc2 hc1)))
  go_loopw [50] (fun v wr => ∃ (k : Nat), k ≤ m ∧ v = .int .i64 (k : Int) ∧ Hid (FB wr c n (br G r k) ∧ Below w.heap.size w wr) ∧ Hid (∀ j, j < k → TOk n G r j)) (fun v _ => m - (intOf v).toNat)
  case atStart => exact ⟨0, Nat.zero_le _, rfl, ⟨by have := HC2.out.set hin; rw [show br G r 0 = updB G i by unfold br; rw [Hf.out]; rfl]; exact this, HB2.out.setCell (by show w.heap.size ≤ c; omega) _⟩, fun j hj => by omega⟩
  case round =>
    obtain ⟨k, hk, rfl, HB, HTk⟩ := hrel
    by_cases hlt : k < m
    · have hlt2 : (k : Int) < (m : Int) := by omega
      obtain ⟨tb, to, rfl, _⟩ := HTo.out.addr (by omega)
      have c1 := (HTo.out.below HB.out.2).cell hlt
      obtain ⟨y, hy⟩ : ∃ y, r.to k = y := ⟨_, rfl⟩
      rw [hy] at c1
      have HY : Hid (r.to k = y) := hy
      clear hy
      by_cases hpy : 0 ≤ y ∧ y < (n : Int)
      · have d2 : decide (0 ≤ y ∧ y < (n : Int)) = true := decide_eq_true hpy
        obtain ⟨q, hq⟩ : ∃ q : Nat, y = (q : Int) := ⟨y.toNat, by omega⟩
        subst hq
        have hqn : q < n := by omega
        have hqn2 : (q : Int) < (n : Int) := by omega
        have z1 := HB.out.1.cell hqn
        have z2 := HB.out.1.fr q
        have hbi := br_iff (G := G) (r := r) (x := (q : Int)) (k := k) (by rw [Hf.out]; omega) (by omega) (fun j hj => (HTk.out j hj).1.1)
        rw [show ((q : Int)).toNat = q by omega] at hbi
        cases hb : br G r k q with
        | true =>
          rw [hb] at z1
          have HF : Hid (rokB n G r = false) := rokB_f (fun h => by
            have h5 := h.2.2.2.2 k (by rw [Hm.out]; exact hlt)
            unfold TOk at h5
            rw [HY.out] at h5
            have := hbi.2 ⟨h5.2.1, h5.2.2.1, h5.2.2.2⟩
            rw [hb] at this; cases this)
          clear hpy hbi hb
          go_wp2_with (go_at_call 76; refine (isPlaceOf_eq _ d2).mono ?_; rintro e w' ⟨rfl, ew⟩; replace ew := ew.symm; subst ew)
          go_returns
          exact ⟨ret_bool HF.out.symm, HB.out.2⟩
        | false =>
          rw [hb] at z1
          have HN : Hid (FB (wr.setCell ⟨c, q, none⟩ (.bool true)) c n (br G r (k + 1)) ∧ Below w.heap.size w (wr.setCell ⟨c, q, none⟩ (.bool true))) := by
            refine ⟨?_, HB.out.2.setCell (by show w.heap.size ≤ c; omega) _⟩
            have := HB.out.1.set hqn
            unfold br; rw [HY.out, show ((q : Int)).toNat = q by omega]; exact this
          have HT2 : Hid (∀ j, j < k + 1 → TOk n G r j) := fun j hj => by
            by_cases e : j = k
            · subst e
              unfold TOk
              rw [HY.out]
              exact ⟨hpy, by have := (hbi.1 hb).1; simpa using this, (hbi.1 hb).2.1, (hbi.1 hb).2.2⟩
            · exact HTk.out j (by omega)
          clear hpy hbi hb
          go_wp2_with (go_at_call 76; refine (isPlaceOf_eq _ d2).mono ?_; rintro e w' ⟨rfl, ew⟩; replace ew := ew.symm; subst ew)
          go_roundw
          case rel => exact ⟨k + 1, by omega, by go_num, HN, HT2⟩
          case measure => simp [intOf]; omega
      · have d2 : decide (0 ≤ y ∧ y < (n : Int)) = false := decide_eq_false hpy
        have HF : Hid (rokB n G r = false) := rokB_f (fun h => hpy (by have h5 := (h.2.2.2.2 k (by rw [Hm.out]; exact hlt)).1; rw [HY.out] at h5; exact h5))
        clear hpy
        go_wp2_with (go_at_call 76; refine (isPlaceOf_eq _ d2).mono ?_; rintro e w' ⟨rfl, ew⟩; replace ew := ew.symm; subst ew)
        go_returns
        exact ⟨ret_bool HF.out.symm, HB.out.2⟩
    · obtain rfl : k = m := by omega
      have lkk : ¬ (k : Int) < (k : Int) := by omega
      have HF : Hid (rokB n G r = true) := rokB_t ⟨by rw [Hf.out]; omega, by rw [Hf.out]; simpa using HGi.out, Hlen.out, HWk.out, fun j hj => HTk.out j (by rw [Hm.out] at hj; exact hj)⟩
      go_wp2
      go_returns
      exact ⟨ret_bool HF.out.symm, HB.out.2⟩
end Go.Proofs.Ytjlniinahfgakaa
