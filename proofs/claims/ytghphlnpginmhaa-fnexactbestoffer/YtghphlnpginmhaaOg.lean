/- Offers: scales that are right, an offer that is right; the program's and the model's OfferOk answer 'ofB'. -/
import Derived.Test.YtghphlnpginmhaaOf
import Derived.Test.YtghphlnpginmhaaSm
import Derived.Deep.QuietTactic
namespace Go.Proofs.Ytghphlnpginmhaa
open Go.ChangeShapes Go.WideShapes Go.ChangeAt Go.RowKit
set_option linter.unusedVariables false
set_option linter.unusedSimpArgs false

def scOk (z : Nat → SC2) (i : Nat) : Bool := inB (z i).from_ 0 1000000 && (inB (z i).price 0 100000 && decide (0 < i → (z (i - 1)).from_ < (z i).from_))
def ScP (n : Nat) (z : Nat → SC2) (lea : Int) : Prop := 1 ≤ n ∧ n ≤ 12 ∧ (z 0).from_ = lea ∧ ∀ i, i < n → scOk z i = true
open Classical in
noncomputable def scB (n : Nat) (z : Nat → SC2) (lea : Int) : Bool := decide (ScP n z lea)
open Classical in
theorem scB_t {n : Nat} {z : Nat → SC2} {lea : Int} (h : ScP n z lea) : scB n z lea = true := by unfold scB; exact decide_eq_true h
open Classical in
theorem scB_f {n : Nat} {z : Nat → SC2} {lea : Int} (h : ¬ ScP n z lea) : scB n z lea = false := by unfold scB; exact decide_eq_false h
open Classical in
theorem scB_p {n : Nat} {z : Nat → SC2} {lea : Int} (h : scB n z lea = true) : ScP n z lea := by unfold scB at h; exact of_decide_eq_true h
theorem scB_bad {n i : Nat} {z : Nat → SC2} {lea : Int} (hi : i < n) (h : scOk z i = false) : scB n z lea = false := scB_f fun H => by have := H.2.2.2 i hi; rw [h] at this; cases this
theorem sc_step {z : Nat → SC2} {k : Nat} (h : ∀ j, j < k → scOk z j = true) (g : scOk z k = true) : ∀ j, j < k + 1 → scOk z j = true := fun j hj => by
  by_cases e : j = k
  · subst e; exact g
  · exact h j (by omega)
theorem sc_q {z : Nat → SC2} {k : Nat} {f p : Int} (hz : z k = ⟨f, p⟩) (h : inB f 0 1000000 = false) : scOk z k = false := by unfold scOk; rw [hz]; simp [h]
theorem sc_p {z : Nat → SC2} {k : Nat} {f p : Int} (hz : z k = ⟨f, p⟩) (h : inB p 0 100000 = false) : scOk z k = false := by unfold scOk; rw [hz]; simp [h]
theorem sc_o {z : Nat → SC2} {k m : Nat} {f p : Int} (hz : z k = ⟨f, p⟩) (hk : k = m + 1) (h : f ≤ (z m).from_) : scOk z k = false := by
  subst hk; unfold scOk; rw [hz]; simp; intro _ _; omega
theorem sc_0 {z : Nat → SC2} {f p : Int} (hz : z 0 = ⟨f, p⟩) (h1 : inB f 0 1000000 = true) (h2 : inB p 0 100000 = true) : scOk z 0 = true := by unfold scOk; rw [hz]; simp [h1, h2]
theorem sc_1 {z : Nat → SC2} {k m : Nat} {f p : Int} (hz : z k = ⟨f, p⟩) (hk : k = m + 1) (h1 : inB f 0 1000000 = true) (h2 : inB p 0 100000 = true) (h : (z m).from_ < f) : scOk z k = true := by
  subst hk; unfold scOk; rw [hz]; simp [h1, h2]; exact h

set_option maxRecDepth 20000 in
set_option maxHeartbeats 4000000 in
theorem areScales_any (ra : Option Addr) (n rc : Nat) (z : Nat → SC2) (lea : Int) (w : World) (h : (n : Int) ≤ 1048576) (hr : SCr w ra n z) :
    Calls Try.prog 94 #[.slice ra n rc, .int .i64 lea] w fun e w' => e = .returned (.bool (scB n z lea)) ∧ Below w.heap.size w w' := by
  have HR : Hid (SCr w ra n z) := hr
  clear hr
  by_cases h1 : (n : Int) < 1
  · have HV : Hid (scB n z lea = false) := scB_f fun H => by have := H.1; omega
    go_enter Try.func94, Try.ntmps94
    go_wp2
    go_returns
    exact ⟨ret_bool HV.out.symm, Below.refl _ _⟩
  have g1 : (1 : Int) ≤ (n : Int) := by omega
  clear h1
  by_cases h6 : (12 : Int) < (n : Int)
  · have HV : Hid (scB n z lea = false) := scB_f fun H => by have := H.2.1; omega
    go_enter Try.func94, Try.ntmps94
    go_wp2
    go_returns
    exact ⟨ret_bool HV.out.symm, Below.refl _ _⟩
  have g6 : (n : Int) ≤ 12 := by omega
  clear h6
  obtain ⟨kb, off, rfl, hkb⟩ := HR.out.addr (by omega)
  obtain ⟨a0, a1⟩ := HR.out.cell (j := 0) (by omega)
  obtain ⟨x, hx⟩ : ∃ x, (z 0).from_ = x := ⟨_, rfl⟩
  rw [hx] at a0
  have HXX : Hid ((z 0).from_ = x) := hx
  simp only [Nat.zero_mul, Nat.add_zero] at a0
  clear a1 hx
  by_cases hxl : x = lea
  · have HL : Hid ((z 0).from_ = lea) := hid (HXX.out.trans hxl)
    have hxe := eq_t hxl
    have hxn : (x != lea) = false := by simp [hxl]
    clear hxl
    go_enter Try.func94, Try.ntmps94
    go_wp2
    go_loopw [25] (fun i wr => ∃ (k : Nat), k ≤ n ∧ i = .int .i64 (k : Int) ∧ Hid ((∀ j, j < k → scOk z j = true) ∧ Below w.heap.size w wr)) (fun i _ => n - (intOf i).toNat)
    case atStart => exact ⟨0, Nat.zero_le _, rfl, fun j hj => by omega, Below.refl _ _⟩
    case round =>
      obtain ⟨k, hk, rfl, HH⟩ := hrel
      obtain ⟨wo, rfl⟩ : ∃ x, x = wr := ⟨wr, rfl⟩
      by_cases hlt : k < n
      · have hlt2 : (k : Int) < (n : Int) := by omega
        have k0 := (HR.out.below HH.out.2).cell hlt
        obtain ⟨e, he⟩ : ∃ e, z k = e := ⟨_, rfl⟩
        rw [he] at k0
        obtain ⟨f, p⟩ := e
        have HX : Hid (z k = ⟨f, p⟩) := he
        obtain ⟨c0, c1⟩ := k0
        simp only at c0 c1
        clear he
        go_wp2
        have hC : CB (wo.alloc (.cells #[.int .i64 f, .int .i64 p] 138 (0, 0))) wo.heap.size #[.int .i64 f, .int .i64 p] 138 := CB.new _ _
        have hB : Below w.heap.size w (wo.alloc (.cells #[.int .i64 f, .int .i64 p] 138 (0, 0))) := bel_on HH.out.2 ((Below.refl _ _).alloc (Nat.le_refl _) _)
        clear c0 c1
        generalize wo.alloc (.cells #[.int .i64 f, .int .i64 p] 138 (0, 0)) = W at hC hB ⊢
        have c0 := (hC.cell 0).trans rfl
        have c1 := (hC.cell 1).trans rfl
        have HB : Hid (Below w.heap.size w W) := hB
        clear hC hB
        cases hq : inB f 0 1000000
        · have HV : Hid (scB n z lea = false) := hid (scB_bad hlt (sc_q HX.out hq))
          go_quiet (first | (go_at_call 69; exact Calls.quiet_of_same (isQty_eq _ _ _ hq)) | (go_at_call 136; exact Calls.quiet_of_same (isPrice_eq _ _ _ hp)))
          go_wp2
          go_returns
          exact ⟨ret_bool HV.out.symm, bd_N HB.out _⟩
        cases hp : inB p 0 100000
        · have HV : Hid (scB n z lea = false) := hid (scB_bad hlt (sc_p HX.out hp))
          go_quiet (first | (go_at_call 69; exact Calls.quiet_of_same (isQty_eq _ _ _ hq)) | (go_at_call 136; exact Calls.quiet_of_same (isPrice_eq _ _ _ hp)))
          go_wp2
          go_returns
          exact ⟨ret_bool HV.out.symm, bd_N HB.out _⟩
        by_cases h0 : k = 0
        · have HG : Hid (∀ j, j < k + 1 → scOk z j = true) := hid (sc_step HH.out.1 (by subst h0; exact sc_0 HX.out hq hp))
          have hz1 : decide (0 < k) = false := by simp [h0]
          have hz2 : decide ((0 : Int) < (k : Int)) = false := by simp [h0]
          clear h0
          go_quiet (first | (go_at_call 69; exact Calls.quiet_of_same (isQty_eq _ _ _ hq)) | (go_at_call 136; exact Calls.quiet_of_same (isPrice_eq _ _ _ hp)))
          go_wp2
          go_roundw
          case rel => exact ⟨k + 1, by omega, by go_num, HG.out, bd_N HB.out _⟩
          case measure => simp [intOf]; omega
        obtain ⟨m, hm⟩ : ∃ m, k = m + 1 := ⟨k - 1, by omega⟩
        have HM : Hid (k = m + 1) := hm
        have hwm : IntKind.i64.wrap ((k : Int) - 1) = (m : Int) := by rw [show (k : Int) - 1 = (m : Int) by omega]; exact IntWalk.i64_in _ ⟨by omega, by omega⟩
        have hz1 : decide (0 < k) = true := by simp; omega
        have hz2 : decide ((0 : Int) < (k : Int)) = true := by simp; omega
        have hmn : (m : Int) < (n : Int) := by omega
        have hm0 : (0 : Int) ≤ (m : Int) := by omega
        obtain ⟨d0, d1⟩ := (HR.out.below HB.out).cell (j := m) (by omega)
        obtain ⟨g, hg⟩ : ∃ g, (z m).from_ = g := ⟨_, rfl⟩
        have HGm : Hid ((z m).from_ = g) := hg
        rw [hg] at d0
        clear hg hm d1 h0
        by_cases hfg : f ≤ g
        · have HV : Hid (scB n z lea = false) := hid (scB_bad hlt (sc_o HX.out HM.out (by rw [HGm.out]; exact hfg)))
          have hd : decide (f ≤ g) = true := decide_eq_true hfg
          go_quiet (first | (go_at_call 69; exact Calls.quiet_of_same (isQty_eq _ _ _ hq)) | (go_at_call 136; exact Calls.quiet_of_same (isPrice_eq _ _ _ hp)))
          go_wp2
          go_returns
          exact ⟨ret_bool HV.out.symm, bd_N HB.out _⟩
        · have HG : Hid (∀ j, j < k + 1 → scOk z j = true) := hid (sc_step HH.out.1 (sc_1 HX.out HM.out hq hp (by rw [HGm.out]; omega)))
          have hd : decide (f ≤ g) = false := decide_eq_false hfg
          clear hfg
          go_quiet (first | (go_at_call 69; exact Calls.quiet_of_same (isQty_eq _ _ _ hq)) | (go_at_call 136; exact Calls.quiet_of_same (isPrice_eq _ _ _ hp)))
          go_wp2
          go_roundw
          case rel => exact ⟨k + 1, by omega, by go_num, HG.out, bd_N HB.out _⟩
          case measure => simp [intOf]; omega
      · obtain rfl : k = n := by omega
        have lkk : ¬ (k : Int) < (k : Int) := by omega
        have HV : Hid (scB k z lea = true) := hid (scB_t ⟨by omega, by omega, HL.out, HH.out.1⟩)
        go_wp2
        go_returns
        exact ⟨ret_bool HV.out.symm, HH.out.2⟩
  · have HV : Hid (scB n z lea = false) := hid (scB_f fun H => hxl (HXX.out.symm.trans H.2.2.1))
    have hxe := eq_f hxl
    have hxn : (x != lea) = true := by simp [hxl]
    clear hxl
    go_enter Try.func94, Try.ntmps94
    go_wp2
    go_returns
    exact ⟨ret_bool HV.out.symm, Below.refl _ _⟩

end Go.Proofs.Ytghphlnpginmhaa
